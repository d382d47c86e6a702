/-
  Own text: programs in memory, one behind the other. Nothing of the program.
-/
import Derived.Test.YtgcencilgpilaaaPk3
import Derived.Test.YtgcencilgpilaaaPk1
import Derived.Test.YtgcencilgpilaaaQOwnD
namespace Go.Proofs.Ytgcencilgpilaaa.Own
open Go.RowKit
set_option linter.unusedVariables false

/-- A program in memory: where it lies, its room, its instructions. -/
abbrev PS := Option Addr × Nat × List Q4
def p0 : PS := (none, 0, [])
def psV (p : PS) : Value := .slice p.1 p.2.2.length p.2.1
def progsOf (ps : List PS) : List (List Q4) := ps.map fun p => p.2.2

/-- Programs in memory, a cell each; each of them can be read. -/
def PAt (w : World) (b off : Nat) (ps : List PS) : Prop := b < w.heap.size ∧ ∀ i, i < ps.length → w.cell? ⟨b, off + i, none⟩ = some (psV (ps.getD i p0)) ∧ Sl4 w (ps.getD i p0).1 (ps.getD i p0).2.2 ∧ (ps.getD i p0).2.2.length ≤ 2 ^ 40
def SlP (w : World) (a : Option Addr) (ps : List PS) : Prop := ps = [] ∨ ∃ b off, a = some ⟨b, off, none⟩ ∧ PAt w b off ps

theorem PAt.below {w w' : World} {b off : Nat} {ps : List PS} (h : PAt w b off ps) (hb : Below w.heap.size w w') : PAt w' b off ps :=
  ⟨Nat.lt_of_lt_of_le h.1 hb.size, fun i hi => by
    obtain ⟨h1, h2, h3⟩ := h.2 i hi
    rw [hb.cell (p := ⟨b, off + i, none⟩) h.1]
    exact ⟨h1, h2.below hb, h3⟩⟩
theorem SlP.below {w w' : World} {a : Option Addr} {ps : List PS} (h : SlP w a ps) (hb : Below w.heap.size w w') : SlP w' a ps := by
  rcases h with h | ⟨b, off, rfl, h⟩
  · exact .inl h
  · exact .inr ⟨b, off, rfl, h.below hb⟩

/-- Blocks below n but for listed ones lie as they lay. -/
structure KeepBut (n : Nat) (L : List Nat) (w w' : World) : Prop where
  os : w'.os = w.os
  tape : w'.tape = w.tape
  output : w'.output = w.output
  size : w.heap.size ≤ w'.heap.size
  block : ∀ k, k < n → k ∉ L → w'.heap[k]? = w.heap[k]?
theorem KeepBut.refl (n : Nat) (L : List Nat) (w : World) : KeepBut n L w w := ⟨rfl, rfl, rfl, Nat.le_refl _, fun _ _ _ => rfl⟩
theorem KeepBut.trans {n : Nat} {L : List Nat} {a b c : World} (h : KeepBut n L a b) (k : KeepBut n L b c) : KeepBut n L a c :=
  ⟨k.os.trans h.os, k.tape.trans h.tape, k.output.trans h.output, Nat.le_trans h.size k.size, fun i hi hn => (k.block i hi hn).trans (h.block i hi hn)⟩
theorem KeepBut.ofBelow {n m : Nat} {L : List Nat} {w w' : World} (h : Below m w w') (hm : n ≤ m) : KeepBut n L w w' := ⟨h.os, h.tape, h.output, h.size, fun k hk _ => h.block k (by omega)⟩
theorem KeepBut.cell {n : Nat} {L : List Nat} {w w' : World} (h : KeepBut n L w w') {b : Nat} (hb : b < n) (hL : b ∉ L) (o : Nat) : w'.cell? ⟨b, o, none⟩ = w.cell? ⟨b, o, none⟩ := World.cell?_of_block (w := w) (a := ⟨b, o, none⟩) (h.block b hb hL)

/-- Programs whose memory lies below n, in none of the listed blocks. -/
def PAtN (n : Nat) (L : List Nat) (w : World) (b off : Nat) (ps : List PS) : Prop := (b < n ∧ b ∉ L ∧ b < w.heap.size) ∧ ∀ i, i < ps.length → w.cell? ⟨b, off + i, none⟩ = some (psV (ps.getD i p0)) ∧ (Sl4 w (ps.getD i p0).1 (ps.getD i p0).2.2 ∧ ((ps.getD i p0).2.2 = [] ∨ ∀ x, (ps.getD i p0).1 = some x → x.block < n ∧ x.block ∉ L)) ∧ (ps.getD i p0).2.2.length ≤ 2 ^ 40
def SlPN (n : Nat) (L : List Nat) (w : World) (a : Option Addr) (ps : List PS) : Prop := ps = [] ∨ ∃ b off, a = some ⟨b, off, none⟩ ∧ PAtN n L w b off ps

theorem At4.keepBut {n : Nat} {L : List Nat} {w w' : World} {b off : Nat} {xs : List Q4} (h : At4 w b off xs) (hk : KeepBut n L w w') (hb : b < n) (hL : b ∉ L) : At4 w' b off xs := by
  refine ⟨Nat.lt_of_lt_of_le h.1 hk.size, fun i hi => ?_⟩
  have := h.2 i hi
  rw [hk.cell hb hL, hk.cell hb hL, hk.cell hb hL, hk.cell hb hL]
  exact this
theorem SlPN.keep {n : Nat} {L : List Nat} {w w' : World} {a : Option Addr} {ps : List PS} (h : SlPN n L w a ps) (hk : KeepBut n L w w') : SlPN n L w' a ps := by
  rcases h with h | ⟨b, off, rfl, ⟨h1, h2, h3⟩, h⟩
  · exact .inl h
  · refine .inr ⟨b, off, rfl, ⟨h1, h2, Nat.lt_of_lt_of_le h3 hk.size⟩, fun i hi => ?_⟩
    obtain ⟨c1, ⟨c2, c3⟩, c4⟩ := h i hi
    rw [hk.cell h1 h2]
    refine ⟨c1, ⟨?_, c3⟩, c4⟩
    rcases c2 with c2 | ⟨b', o', e, c2⟩
    · exact .inl c2
    · rcases c3 with c3 | c3
      · exact .inl c3
      · obtain ⟨k1, k2⟩ := c3 _ e
        exact .inr ⟨b', o', e, c2.keepBut hk k1 k2⟩
theorem SlP.near {w w' : World} {n : Nat} {L : List Nat} {a : Option Addr} {ps : List PS} (h : SlP w a ps) (hb : Below w.heap.size w w') (hn : w.heap.size ≤ n) (hL : ∀ x, x ∈ L → w.heap.size ≤ x) : SlPN n L w' a ps := by
  rcases h with h | ⟨b, off, rfl, h⟩
  · exact .inl h
  · refine .inr ⟨b, off, rfl, ⟨by have := h.1; omega, fun hm => by have := hL _ hm; have := h.1; omega, Nat.lt_of_lt_of_le h.1 hb.size⟩, fun i hi => ?_⟩
    obtain ⟨c1, c2, c3⟩ := h.2 i hi
    rw [hb.cell (p := ⟨b, off + i, none⟩) h.1]
    refine ⟨c1, ⟨c2.below hb, ?_⟩, c3⟩
    rcases c2 with c2 | ⟨b', o', e, c2⟩
    · exact .inl c2
    · refine .inr fun x ex => ?_
      rw [e] at ex
      injection ex with ex
      subst ex
      have := c2.1
      exact ⟨by show b' < n; omega, fun hm => by have := hL _ hm; simp at this; omega⟩
end Go.Proofs.Ytgcencilgpilaaa.Own

/-
  Own text: the memory of a run under way. Nothing of the program but the types' numbers.
-/
import Derived.Test.YtgcencilgpilaaaL3Look
import Derived.Test.YtgcencilgpilaaaL3Put
import Derived.Test.YtgcencilgpilaaaTurned
namespace Go.Proofs.Ytgcencilgpilaaa.Own
open Go.RowKit
set_option linter.unusedVariables false

theorem Turned.set {L : List Nat} {a b : World} {p : Addr} (h : Turned L a b) (hp : p.block ∈ L) (v : Value) : Turned L a (b.setCell p v) :=
  ⟨h.os, h.tape, h.output, by simpa [World.setCell] using h.size, fun i hi hn => by rw [Below.heap_setCell _ _ _ _ (fun e => hn (by rw [e]; exact hp))]; exact h.block i hi hn⟩
theorem Turned.alloc {L : List Nat} {a b : World} (h : Turned L a b) (o : Obj) : Turned L a (b.alloc o) := h.trans (Turned.ofBelow (below_new _ _))
theorem Turned.drew {L : List Nat} {a b : World} (h : Turned L a b) : Turned L a b.drew := h.trans ⟨rfl, rfl, rfl, Nat.le_refl _, fun _ _ _ => rfl⟩
theorem Turned.drewN {L : List Nat} {a b : World} (h : Turned L a b) (n : Nat) : Turned L a (b.drewN n) := h.trans ⟨rfl, rfl, rfl, Nat.le_refl _, fun _ _ _ => rfl⟩
theorem Turned.ofGrown {L : List Nat} {w w' : World} {row : Option Nat} (h : w.grownBy w' row) (hr : ∀ g, row = some g → g ∈ L) : Turned L w w' :=
  ⟨h.os, h.tape, h.output, h.size, fun k hk hn => h.block k hk (fun e => hn (hr k e.symm))⟩
theorem OwnP.turned {L : List Nat} {t : TypeId} {w w' : World} {B : Nat} {v : Value} {xs : List P2} (h : OwnP t w B v xs) (ht : Turned L w w') (hv : ∀ g, v.ownBlock = some g → g ∉ L) : OwnP t w' B v xs := by
  obtain ⟨h1, h2⟩ := h
  refine ⟨h1, ?_⟩
  rcases h2 with h2 | ⟨g, cap, cur, e, hg, hh, r⟩
  · exact .inl h2
  · exact .inr ⟨g, cap, cur, e, hg, by rw [ht.block g (Array.getElem?_eq_some_iff.1 hh).1 (hv g (by rw [e]; rfl))]; exact hh, r⟩
theorem IntAt.turned {L : List Nat} {w w' : World} {b off : Nat} {xs : List Int} (h : IntAt w b off xs) (ht : Turned L w w') (hb : b ∉ L) : IntAt w' b off xs :=
  h.congr (Nat.lt_of_lt_of_le h.1 ht.size) (fun o => World.cell?_of_block (w := w) (a := ⟨b, o, none⟩) (ht.block b h.1 hb))
theorem IntAt.set0 {w : World} {b : Nat} {xs : List Int} (h : IntAt w b 0 xs) (i : Nat) (hi : i < xs.length) (n : Int) : IntAt (w.setCell ⟨b, i, none⟩ (.int .i64 n)) b 0 (xs.set i n) := by
  refine ⟨by simpa [World.setCell] using h.1, fun j hj => ?_⟩
  rw [List.length_set] at hj
  have hx := h.2 j hj
  rw [Nat.zero_add] at hx ⊢
  by_cases e : i = j
  · subst e
    rw [setCell_cell_same _ _ _ _ _ hx]
    simp [List.getD, hi]
  · rw [setCell_cell_other _ _ _ _ _ e, hx]
    simp [List.getD, e]

/-- Of the blocks below B none but rg has turned. -/
structure Kp (B rg : Nat) (w w' : World) : Prop where
  os : w'.os = w.os
  tape : w'.tape = w.tape
  output : w'.output = w.output
  size : w.heap.size ≤ w'.heap.size
  block : ∀ k, k < B → k ≠ rg → w'.heap[k]? = w.heap[k]?
theorem Kp.refl (B rg : Nat) (w : World) : Kp B rg w w := ⟨rfl, rfl, rfl, Nat.le_refl _, fun _ _ _ => rfl⟩
theorem Kp.trans {B rg : Nat} {a b c : World} (h : Kp B rg a b) (k : Kp B rg b c) : Kp B rg a c :=
  ⟨k.os.trans h.os, k.tape.trans h.tape, k.output.trans h.output, Nat.le_trans h.size k.size, fun i hi hn => (k.block i hi hn).trans (h.block i hi hn)⟩
theorem Turned.kp {L : List Nat} {w w' : World} {B rg : Nat} (h : Turned L w w') (hB : B ≤ w.heap.size) (hL : ∀ x, x ∈ L → B ≤ x ∨ x = rg) : Kp B rg w w' :=
  ⟨h.os, h.tape, h.output, h.size, fun k hk hn => h.block k (by omega) (fun e => by rcases hL k e with h | h <;> omega)⟩

/-- A run under way: its registers in block rg, what it looked into and what it would put in rows of its own from B on. -/
structure Held (B rg : Nat) (w : World) (rv pv : Value) (s : RunSt) : Prop where
  regs : IntAt w rg 0 s.regs
  four : s.regs.length = 4
  free : ∀ o, w.frozen? ⟨rg, o, none⟩ = false
  reads : OwnP 40 w B rv s.reads
  puts : OwnP 36 w B pv s.puts
  apart : rv.ownBlock = none ∨ rv.ownBlock ≠ pv.ownBlock

theorem Held.turned {L : List Nat} {B rg : Nat} {w w' : World} {rv pv : Value} {s : RunSt} (h : Held B rg w rv pv s) (ht : Turned L w w') (hg : rg ∉ L) (hr : ∀ g, rv.ownBlock = some g → g ∉ L) (hp : ∀ g, pv.ownBlock = some g → g ∉ L) : Held B rg w' rv pv s :=
  ⟨h.regs.turned ht hg, h.four, fun o => by rw [World.frozen?_of_block (w := w) (a := ⟨rg, o, none⟩) (ht.block rg h.regs.1 hg)]; exact h.free o, h.reads.turned ht hr, h.puts.turned ht hp, h.apart⟩
theorem Held.setR {B rg : Nat} {w : World} {rv pv : Value} {s : RunSt} (h : Held B rg w rv pv s) (hg : rg < B) (a : Nat) (ha : a < 4) (n : Int) : Held B rg (w.setCell ⟨rg, a, none⟩ (.int .i64 n)) rv pv (setReg s a n) := by
  have e : Turned [rg] w (w.setCell ⟨rg, a, none⟩ (.int .i64 n)) := (Turned.refl _ _).set (by simp) _
  refine ⟨h.regs.set0 a (by rw [h.four]; exact ha) n, by simp [setReg, h.four], fun o => by simpa using h.free o, h.reads.turned e (fun g e => ?_), h.puts.turned e (fun g e => ?_), h.apart⟩
  · have := (World.ownsRow.lt h.reads g e).1; simp; omega
  · have := (World.ownsRow.lt h.puts g e).1; simp; omega
theorem Held.code {B rg : Nat} {w : World} {rv pv : Value} {s : RunSt} (h : Held B rg w rv pv s) (c : Int) : Held B rg w rv pv { s with code := c } := ⟨h.regs, h.four, h.free, h.reads, h.puts, h.apart⟩
end Go.Proofs.Ytgcencilgpilaaa.Own

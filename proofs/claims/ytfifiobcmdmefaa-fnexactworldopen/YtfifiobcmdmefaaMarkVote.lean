/-
  Own text: a list of votes whose memory is one's own, and what laws.markVoteS does with it.
-/
import Derived.Test.YtfifiobcmdmefaaVoteMem
import Derived.Test.YtfifiobcmdmefaaMarkBR
import Derived.Test.YtfifiobcmdmefaaMarkBP
import Derived.Test.YtfifiobcmdmefaaBase4
import Derived.Deep.Cut
namespace Go.Proofs.Ytfifiobcmdmefaa.Own
open Go.RowKit
set_option linter.unusedVariables false
set_option linter.unusedSimpArgs false

/-- A vote's eight cells alone. -/
def C8 (w : World) (b o : Nat) (x : VM) : Prop := w.cell? ⟨b, o, none⟩ = some (.int .i64 x.bal) ∧ w.cell? ⟨b, o + 1, none⟩ = some (.bool x.b.n) ∧ w.cell? ⟨b, o + 2, none⟩ = some (.int .i64 x.b.p) ∧ w.cell? ⟨b, o + 3, none⟩ = some (.int .i64 x.b.q) ∧ w.cell? ⟨b, o + 4, none⟩ = some (.slice x.a1 x.b.xs.length x.c1) ∧ w.cell? ⟨b, o + 5, none⟩ = some (.slice x.a2 x.b.ys.length x.c2) ∧ w.cell? ⟨b, o + 6, none⟩ = some (.int .i64 x.b.v) ∧ w.cell? ⟨b, o + 7, none⟩ = some (.int .i64 x.b.k)
theorem C8.congr {w w' : World} {b o : Nat} {x : VM} (h : C8 w b o x) (e : ∀ i, i < 8 → w'.cell? ⟨b, o + i, none⟩ = w.cell? ⟨b, o + i, none⟩) : C8 w' b o x := by
  obtain ⟨h0, h1, h2, h3, h4, h5, h6, h7⟩ := h
  exact ⟨by have := e 0 (by omega); simpa using this.trans h0, (e 1 (by omega)).trans h1, (e 2 (by omega)).trans h2, (e 3 (by omega)).trans h3, (e 4 (by omega)).trans h4, (e 5 (by omega)).trans h5, (e 6 (by omega)).trans h6, (e 7 (by omega)).trans h7⟩
/-- The block of a list that is not empty. -/
def blkOf (a : Option Addr) (n : Nat) : Option Nat := if n = 0 then none else a.map fun p => p.block
theorem OnlyB.heap {a : Option Addr} {xs : List P2} {w w' : World} (h : OnlyB a xs w w') {b : Nat} (hb : blkOf a xs.length ≠ some b) : w'.heap[b]? = w.heap[b]? := by
  rcases h with ⟨_, rfl⟩ | ⟨g, hne, rfl, h⟩
  · rfl
  · refine h.block b fun e => hb ?_
    have : xs.length ≠ 0 := fun h0 => hne (List.eq_nil_of_length_eq_zero h0)
    simp [blkOf, this, e]
theorem OnlyB.size {a : Option Addr} {xs : List P2} {w w' : World} (h : OnlyB a xs w w') : w'.heap.size = w.heap.size := by
  rcases h with ⟨_, rfl⟩ | ⟨g, hne, rfl, h⟩
  · rfl
  · exact h.size
theorem OwnB.blk {w w' : World} {B : Nat} {a : Option Addr} {xs : List P2} (h : OwnB w B a xs) (hs : w'.heap.size = w.heap.size) (hb : ∀ b, blkOf a xs.length = some b → w'.heap[b]? = w.heap[b]?) : OwnB w' B a xs := by
  rcases h with h | ⟨g, rfl, hB, h, hf⟩
  · exact .inl h
  · by_cases h0 : xs = []
    · exact .inl h0
    · have hl : xs.length ≠ 0 := fun e => h0 (List.eq_nil_of_length_eq_zero e)
      have e := hb g (by simp [blkOf, hl])
      exact .inr ⟨g, rfl, hB, h.block (Nat.le_of_eq hs.symm) e, fun o => by rw [World.frozen?_of_block (w := w) (a := ⟨g, o, none⟩) e]; exact hf o⟩
/-- The blocks of a vote's lists. -/
def blk1 (x : VM) : Option Nat := blkOf x.a1 x.b.xs.length
def blk2 (x : VM) : Option Nat := blkOf x.a2 x.b.ys.length
/-- All lists lie apart, and none in block g. -/
structure Sep (g : Nat) (vs : List VM) : Prop where
  one : ∀ i, i < vs.length → blk1 (vs.getD i v0) ≠ some g ∧ blk2 (vs.getD i v0) ≠ some g
  two : ∀ i, i < vs.length → ∀ b, blk1 (vs.getD i v0) = some b → blk2 (vs.getD i v0) ≠ some b
  all : ∀ i j, i < vs.length → j < vs.length → i ≠ j → ∀ b, (blk1 (vs.getD i v0) = some b ∨ blk2 (vs.getD i v0) = some b) → blk1 (vs.getD j v0) ≠ some b ∧ blk2 (vs.getD j v0) ≠ some b
/-- Votes in memory of one's own, from block B on: the list in block g. -/
structure OwnVs (w : World) (B g : Nat) (vs : List VM) : Prop where
  lt : g < w.heap.size
  lo : B ≤ g
  fr : ∀ o, w.frozen? ⟨g, o, none⟩ = false
  cell : ∀ i, i < vs.length → C8 w g (i * 8) (vs.getD i v0)
  own : ∀ i, i < vs.length → OwnB w B (vs.getD i v0).a1 (vs.getD i v0).b.xs ∧ OwnB w B (vs.getD i v0).a2 (vs.getD i v0).b.ys
theorem OwnVs.at {w : World} {B g : Nat} {vs : List VM} (h : OwnVs w B g vs) : VAt w g 0 vs :=
  ⟨h.lt, fun i hi => ⟨by rw [Nat.zero_add]; exact h.cell i hi, (h.own i hi).1.sl, (h.own i hi).2.sl⟩⟩
/-- How many numbers the marks of a vote take. -/
def stepV (x : VM) : Nat := 6 + 2 * x.b.xs.length + 2 * x.b.ys.length
def stepsV (vs : List VM) : Nat → Nat
  | 0 => 0
  | k + 1 => stepsV vs k + stepV (vs.getD k v0)
/-- A vote, marked from k on. -/
def markedV (k : Int) (x : VM) : VM := { x with bal := k, b := ⟨(k + 1) % 3 == 0, k + 2, k + 3, marks (k + 4) x.b.xs.length, marks (k + 4 + 2 * x.b.xs.length) x.b.ys.length, k + 4 + 2 * x.b.xs.length + 2 * x.b.ys.length, k + 5 + 2 * x.b.xs.length + 2 * x.b.ys.length⟩ }
/-- The first j votes are marked. -/
def mixV (k0 : Int) (vs : List VM) (j : Nat) : List VM := (List.range vs.length).map fun i => if i < j then markedV (k0 + (stepsV vs i : Nat)) (vs.getD i v0) else vs.getD i v0
theorem mixV_len (k0 : Int) (vs : List VM) (j : Nat) : (mixV k0 vs j).length = vs.length := by simp [mixV]
theorem mixV_at (k0 : Int) (vs : List VM) (j : Nat) {i : Nat} (hi : i < vs.length) : (mixV k0 vs j).getD i v0 = if i < j then markedV (k0 + (stepsV vs i : Nat)) (vs.getD i v0) else vs.getD i v0 := by simp [mixV, List.getD, hi]
theorem mixV_zero (k0 : Int) (vs : List VM) : mixV k0 vs 0 = vs := by
  apply List.ext_getElem
  · simp [mixV]
  · intro i h1 h2
    simp [mixV, List.getD, h2]
theorem marked_blk (k : Int) (x : VM) : blk1 (markedV k x) = blk1 x ∧ blk2 (markedV k x) = blk2 x := by
  simp [blk1, blk2, markedV, marks_length]
theorem mix_blk (k0 : Int) (vs : List VM) (j : Nat) {i : Nat} (hi : i < vs.length) : blk1 ((mixV k0 vs j).getD i v0) = blk1 (vs.getD i v0) ∧ blk2 ((mixV k0 vs j).getD i v0) = blk2 (vs.getD i v0) := by
  rw [mixV_at _ _ _ hi]
  split
  · exact marked_blk _ _
  · exact ⟨rfl, rfl⟩
theorem Sep.mix {g : Nat} {vs : List VM} (h : Sep g vs) (k0 : Int) (j : Nat) : Sep g (mixV k0 vs j) := by
  refine ⟨fun i hi => ?_, fun i hi b => ?_, fun i l hi hl hne b => ?_⟩
  · rw [mixV_len] at hi; rw [(mix_blk k0 vs j hi).1, (mix_blk k0 vs j hi).2]; exact h.one i hi
  · rw [mixV_len] at hi; rw [(mix_blk k0 vs j hi).1, (mix_blk k0 vs j hi).2]; exact h.two i hi b
  · rw [mixV_len] at hi hl; rw [(mix_blk k0 vs j hi).1, (mix_blk k0 vs j hi).2, (mix_blk k0 vs j hl).1, (mix_blk k0 vs j hl).2]; exact h.all i l hi hl hne b

/-- A world in which the cells o .. o + 7 of block g alone may have turned, and a vote's lists. -/
structure OneV (g j : Nat) (x : VM) (w w' : World) : Prop where
  size : w'.heap.size = w.heap.size
  os : w'.os = w.os
  tape : w'.tape = w.tape
  output : w'.output = w.output
  block : ∀ b, b ≠ g → blk1 x ≠ some b → blk2 x ≠ some b → w'.heap[b]? = w.heap[b]?
  cells : ∀ o, (o < j * 8 ∨ j * 8 + 7 < o) → w'.cell? ⟨g, o, none⟩ = w.cell? ⟨g, o, none⟩
  fr : ∀ o, w'.frozen? ⟨g, o, none⟩ = w.frozen? ⟨g, o, none⟩
theorem OneV.refl (g j : Nat) (x : VM) (w : World) : OneV g j x w w := ⟨rfl, rfl, rfl, rfl, fun _ _ _ _ => rfl, fun _ _ => rfl, fun _ => rfl⟩
theorem OneV.trans {g j : Nat} {x : VM} {a b c : World} (h : OneV g j x a b) (k : OneV g j x b c) : OneV g j x a c :=
  ⟨k.size.trans h.size, k.os.trans h.os, k.tape.trans h.tape, k.output.trans h.output, fun n h1 h2 h3 => (k.block n h1 h2 h3).trans (h.block n h1 h2 h3), fun o ho => (k.cells o ho).trans (h.cells o ho), fun o => (k.fr o).trans (h.fr o)⟩
theorem OneV.set (g j : Nat) (x : VM) (w : World) (o : Nat) (ho : j * 8 ≤ o ∧ o ≤ j * 8 + 7) (v : Value) : OneV g j x w (w.setCell ⟨g, o, none⟩ v) :=
  ⟨by simp [World.setCell], rfl, rfl, rfl, fun b hb _ _ => Below.heap_setCell _ _ _ _ hb, fun o' h => setCell_cell_other _ _ _ _ _ (by omega), fun o' => by simp⟩
theorem OnlyB.facts {a : Option Addr} {xs : List P2} {w w' : World} (h : OnlyB a xs w w') : w'.os = w.os ∧ w'.tape = w.tape ∧ w'.output = w.output := by
  rcases h with ⟨_, rfl⟩ | ⟨g, hne, rfl, h⟩
  · exact ⟨rfl, rfl, rfl⟩
  · exact ⟨h.os, h.tape, h.output⟩
theorem OneV.of1 {g j : Nat} {x : VM} {w w' : World} (h : OnlyB x.a1 x.b.xs w w') (hg : blk1 x ≠ some g) : OneV g j x w w' :=
  ⟨h.size, h.facts.1, h.facts.2.1, h.facts.2.2, fun b _ h1 _ => h.heap h1, fun o _ => World.cell?_of_block (w := w) (a := ⟨g, o, none⟩) (h.heap hg), fun o => World.frozen?_of_block (w := w) (a := ⟨g, o, none⟩) (h.heap hg)⟩
theorem OneV.of2 {g j : Nat} {x : VM} {w w' : World} (h : OnlyB x.a2 x.b.ys w w') (hg : blk2 x ≠ some g) : OneV g j x w w' :=
  ⟨h.size, h.facts.1, h.facts.2.1, h.facts.2.2, fun b _ _ h2 => h.heap h2, fun o _ => World.cell?_of_block (w := w) (a := ⟨g, o, none⟩) (h.heap hg), fun o => World.frozen?_of_block (w := w) (a := ⟨g, o, none⟩) (h.heap hg)⟩

/-- One vote more is marked. -/
theorem mv_step {w w' : World} {B g j : Nat} {k0 : Int} {vs : List VM} (h : OwnVs w B g (mixV k0 vs j)) (sep : Sep g vs) (hj : j < vs.length) (ho : OneV g j (vs.getD j v0) w w') (hc : C8 w' g (j * 8) (markedV (k0 + (stepsV vs j : Nat)) (vs.getD j v0))) (h1 : OwnB w' B (vs.getD j v0).a1 (markedV (k0 + (stepsV vs j : Nat)) (vs.getD j v0)).b.xs) (h2 : OwnB w' B (vs.getD j v0).a2 (markedV (k0 + (stepsV vs j : Nat)) (vs.getD j v0)).b.ys) : OwnVs w' B g (mixV k0 vs (j + 1)) := by
  have atO : ∀ i, i < vs.length → i ≠ j → (mixV k0 vs (j + 1)).getD i v0 = (mixV k0 vs j).getD i v0 := fun i hi hne => by
    rw [mixV_at _ _ _ hi, mixV_at _ _ _ hi]
    by_cases hl : i < j
    · rw [if_pos hl, if_pos (by omega)]
    · rw [if_neg hl, if_neg (by omega)]
  have atJ : (mixV k0 vs (j + 1)).getD j v0 = markedV (k0 + (stepsV vs j : Nat)) (vs.getD j v0) := by rw [mixV_at _ _ _ hj, if_pos (by omega)]
  refine ⟨by rw [ho.size]; exact h.lt, h.lo, fun o => by rw [ho.fr]; exact h.fr o, fun i hi => ?_, fun i hi => ?_⟩
  · rw [mixV_len] at hi
    by_cases e : i = j
    · subst e; rw [atJ]; exact hc
    · rw [atO i hi e]
      exact (h.cell i (by rw [mixV_len]; exact hi)).congr fun l hl => ho.cells _ (by omega)
  · rw [mixV_len] at hi
    by_cases e : i = j
    · subst e; rw [atJ]; exact ⟨h1, h2⟩
    · rw [atO i hi e]
      have o := h.own i (by rw [mixV_len]; exact hi)
      have m := mix_blk k0 vs j hi
      have keep : ∀ b, (blk1 (vs.getD i v0) = some b ∨ blk2 (vs.getD i v0) = some b) → w'.heap[b]? = w.heap[b]? := fun b hb => by
        have s := sep.all i j hi hj e b hb
        refine ho.block b (fun eg => ?_) s.1 s.2
        have s1 := sep.one i hi
        rw [eg] at hb
        rcases hb with hb | hb
        · exact s1.1 hb
        · exact s1.2 hb
      exact ⟨o.1.blk ho.size fun b hb => keep b (.inl (by rw [← m.1]; exact hb)), o.2.blk ho.size fun b hb => keep b (.inr (by rw [← m.2]; exact hb))⟩
end Go.Proofs.Ytfifiobcmdmefaa.Own

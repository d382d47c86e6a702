/-
  Own text: one vote of a list of one's own is replaced by one that a call made.
-/
import Derived.Test.YtbbbfnfpmaogoaaOwnL
namespace Go.Proofs.Ytbbbfnfpmaogoaa.Own
open Go.RowKit
set_option linter.unusedVariables false
set_option linter.unusedSimpArgs false

theorem set8_other (w : World) (g o : Nat) (y : VM) (o' : Nat) (ho : o' < o ∨ o + 7 < o') : (set8 w g o y).cell? ⟨g, o', none⟩ = w.cell? ⟨g, o', none⟩ := by
  unfold set8
  rw [setCell_cell_other _ _ _ _ _ (by omega), setCell_cell_other _ _ _ _ _ (by omega), setCell_cell_other _ _ _ _ _ (by omega), setCell_cell_other _ _ _ _ _ (by omega), setCell_cell_other _ _ _ _ _ (by omega), setCell_cell_other _ _ _ _ _ (by omega), setCell_cell_other _ _ _ _ _ (by omega), setCell_cell_other _ _ _ _ _ (by omega)]
theorem set8_c8 {w : World} {g o : Nat} {x : VM} (h : C8 w g o x) (y : VM) : C8 (set8 w g o y) g o y := by
  obtain ⟨h0, h1, h2, h3, h4, h5, h6, h7⟩ := h
  unfold set8
  refine ⟨?_, ?_, ?_, ?_, ?_, ?_, ?_, ?_⟩
  all_goals
    repeat (rw [setCell_cell_other _ _ _ _ _ (by omega)])
    apply setCell_cell_same
    repeat (rw [setCell_cell_other _ _ _ _ _ (by omega)])
    assumption
theorem OwnB.blkLt {w : World} {B : Nat} {a : Option Addr} {xs : List P2} (h : OwnB w B a xs) : ∀ b, blkOf a xs.length = some b → B ≤ b ∧ b < w.heap.size := by
  intro b hb
  rcases h with rfl | ⟨g, rfl, hB, h, _⟩
  · simp [blkOf] at hb
  · by_cases h0 : xs.length = 0
    · simp [blkOf, h0] at hb
    · have : g = b := by simpa [blkOf, h0] using hb
      subst this
      exact ⟨hB, h.1⟩
theorem getD_setV (vs : List VM) (i j : Nat) (y : VM) (hi : i < vs.length) : (vs.set i y).getD j v0 = if i = j then y else vs.getD j v0 := by
  simp only [List.getD_eq_getElem?_getD, List.getElem?_set]
  by_cases e : i = j
  · simp [e, show j < vs.length by omega]
  · simp [e]

theorem OwnVs.put {w0 w : World} {B g : Nat} {vs : List VM} (h0 : OwnVs w0 B g vs) (sep : Sep g vs) (hb : Below w0.heap.size w0 w) {y : VM} (hy : OneOwn w w0.heap.size y) (hB : B ≤ w0.heap.size) (i : Nat) (hi : i < vs.length) :
    OwnVs (set8 w g (i * 8) y) B g (vs.set i y) ∧ Sep g (vs.set i y) := by
  have T := set8_turned w g (i * 8) y
  have S := set8_size w g (i * 8) y
  have hs := hb.size
  have hg := h0.lt
  have keep : ∀ b, b ≠ g → (set8 w g (i * 8) y).heap[b]? = w.heap[b]? := fun b hne => by
    unfold set8
    rw [Below.heap_setCell _ _ _ _ hne, Below.heap_setCell _ _ _ _ hne, Below.heap_setCell _ _ _ _ hne, Below.heap_setCell _ _ _ _ hne, Below.heap_setCell _ _ _ _ hne, Below.heap_setCell _ _ _ _ hne, Below.heap_setCell _ _ _ _ hne, Below.heap_setCell _ _ _ _ hne]
  have lt0 : ∀ j, j < vs.length → ∀ b, (blk1 (vs.getD j v0) = some b ∨ blk2 (vs.getD j v0) = some b) → b < w0.heap.size := fun j hj b e => by
    rcases e with e | e
    · exact ((h0.own j hj).1.blkLt b e).2
    · exact ((h0.own j hj).2.blkLt b e).2
  have yb : ∀ b, (blk1 y = some b ∨ blk2 y = some b) → w0.heap.size ≤ b ∧ b < w.heap.size := fun b e => by
    rcases e with e | e
    · exact hy.b1 b e
    · exact hy.b2 b e
  refine ⟨⟨by rw [S]; omega, h0.lo, fun o => ?_, fun j hj => ?_, fun j hj => ?_⟩, ⟨fun j hj => ?_, fun j hj => ?_, fun j k hj hk hne b e => ?_⟩⟩
  · have : w.frozen? ⟨g, o, none⟩ = false := by rw [hb.frozen (p := ⟨g, o, none⟩) hg]; exact h0.fr o
    simpa [set8] using this
  · rw [List.length_set] at hj
    rw [getD_setV _ _ _ _ hi]
    have cj : C8 w g (j * 8) (vs.getD j v0) := (h0.cell j hj).congr fun l hl => hb.cell (p := ⟨g, j * 8 + l, none⟩) hg
    by_cases e : i = j
    · subst e; rw [if_pos rfl]; exact set8_c8 cj y
    · rw [if_neg e]
      exact cj.congr fun l hl => set8_other _ _ _ _ _ (by omega)
  · rw [List.length_set] at hj
    rw [getD_setV _ _ _ _ hi]
    by_cases e : i = j
    · subst e; rw [if_pos rfl]
      refine ⟨(hy.l1.weaken hB).blk S fun b hb' => keep b ?_, (hy.l2.weaken hB).blk S fun b hb' => keep b ?_⟩
      · have := hy.b1 b hb'; omega
      · have := hy.b2 b hb'; omega
    · rw [if_neg e]
      have s := sep.one j hj
      refine ⟨((h0.own j hj).1.below hb).blk S fun b hb' => keep b fun e => s.1 (by rw [← e]; exact hb'), ((h0.own j hj).2.below hb).blk S fun b hb' => keep b fun e => s.2 (by rw [← e]; exact hb')⟩
  · rw [List.length_set] at hj
    rw [getD_setV _ _ _ _ hi]
    by_cases e : i = j
    · rw [if_pos e]
      exact ⟨fun e2 => by have := yb g (.inl e2); omega, fun e2 => by have := yb g (.inr e2); omega⟩
    · rw [if_neg e]; exact sep.one j hj
  · rw [List.length_set] at hj
    rw [getD_setV _ _ _ _ hi]
    by_cases e : i = j
    · rw [if_pos e]; exact hy.ap
    · rw [if_neg e]; exact sep.two j hj
  · rw [List.length_set] at hj hk
    rw [getD_setV _ _ _ _ hi] at e ⊢
    by_cases ej : i = j
    · rw [if_pos ej] at e
      rw [if_neg (by omega)]
      have := yb b e
      exact ⟨fun e2 => by have := lt0 k hk b (.inl e2); omega, fun e2 => by have := lt0 k hk b (.inr e2); omega⟩
    · rw [if_neg ej] at e
      have := lt0 j hj b e
      by_cases ek : i = k
      · rw [if_pos ek]
        exact ⟨fun e2 => by have := yb b (.inl e2); omega, fun e2 => by have := yb b (.inr e2); omega⟩
      · rw [if_neg ek]; exact sep.all j k hj hk hne b e
end Go.Proofs.Ytbbbfnfpmaogoaa.Own

/-
  Own text: a list of votes that appends made: its row and each vote's lists one's own.
-/
import Derived.Test.YtfifiobcmdmefaaVoteCopy
namespace Go.Proofs.Ytfifiobcmdmefaa.Own
open Go.RowKit
set_option linter.unusedVariables false
set_option linter.unusedSimpArgs false

def flat8 (vs : List VM) : List Value := vs.flatMap fun x => x.cells.toList
theorem flat8_length (vs : List VM) : (flat8 vs).length = vs.length * 8 := by
  induction vs with
  | nil => rfl
  | cons p r ih => simp [flat8, VM.cells] at ih ⊢; omega
theorem flat8_snoc (vs : List VM) (y : VM) : flat8 (vs ++ [y]) = flat8 vs ++ y.cells.toList := by simp [flat8]
theorem flat8_get (vs : List VM) (i j : Nat) (h : i < vs.length) (hj : j < 8) : (flat8 vs)[i * 8 + j]? = (vs.getD i v0).cells.toList[j]? := by
  induction vs generalizing i with
  | nil => simp at h
  | cons p r ih =>
    have hl : p.cells.toList.length = 8 := rfl
    cases i with
    | zero =>
      simp only [flat8, List.flatMap_cons, Nat.zero_mul, Nat.zero_add]
      rw [List.getElem?_append_left (by omega)]
      rfl
    | succ i =>
      have := ih i (by simpa using h)
      simp only [flat8, List.flatMap_cons] at this ⊢
      rw [List.getElem?_append_right (by omega), show (i + 1) * 8 + j - p.cells.toList.length = i * 8 + j by omega]
      simpa using this

theorem getD_snocV (vs : List VM) (y : VM) (i : Nat) : (vs ++ [y]).getD i v0 = if i < vs.length then vs.getD i v0 else if i = vs.length then y else v0 := by
  by_cases h : i < vs.length
  · simp [List.getD, List.getElem?_append_left h, h]
  · rw [if_neg h]
    by_cases e : i = vs.length
    · simp [List.getD, e]
    · rw [if_neg e]
      simp [List.getD, List.getElem?_eq_none (show (vs ++ [y]).length ≤ i by simp; omega)]

theorem OneOwn.blk {w w' : World} {B : Nat} {y : VM} (h : OneOwn w B y) (hs : w.heap.size ≤ w'.heap.size) (hb : ∀ b, (blk1 y = some b ∨ blk2 y = some b) → w'.heap[b]? = w.heap[b]?) : OneOwn w' B y := by
  have f : ∀ (a : Option Addr) (xs : List P2), OwnB w B a xs → (∀ b, blkOf a xs.length = some b → w'.heap[b]? = w.heap[b]?) → OwnB w' B a xs := fun a xs h hb => by
    rcases h with h | ⟨g, rfl, hB, h, hf⟩
    · exact .inl h
    · by_cases h0 : xs = []
      · exact .inl h0
      · have hl : xs.length ≠ 0 := fun e => h0 (List.eq_nil_of_length_eq_zero e)
        have e := hb g (by simp [blkOf, hl])
        exact .inr ⟨g, rfl, hB, h.block hs e, fun o => by rw [World.frozen?_of_block (w := w) (a := ⟨g, o, none⟩) e]; exact hf o⟩
  exact ⟨f _ _ h.l1 fun b e => hb b (.inl e), f _ _ h.l2 fun b e => hb b (.inr e), h.c1, h.c2, fun b e => ⟨(h.b1 b e).1, Nat.lt_of_lt_of_le (h.b1 b e).2 hs⟩, fun b e => ⟨(h.b2 b e).1, Nat.lt_of_lt_of_le (h.b2 b e).2 hs⟩, h.ap⟩
theorem OneOwn.weaken {w : World} {B B' : Nat} {y : VM} (h : OneOwn w B y) (hB : B' ≤ B) : OneOwn w B' y :=
  ⟨h.l1.weaken hB, h.l2.weaken hB, h.c1, h.c2, fun b e => ⟨Nat.le_trans hB (h.b1 b e).1, (h.b1 b e).2⟩, fun b e => ⟨Nat.le_trans hB (h.b2 b e).1, (h.b2 b e).2⟩, h.ap⟩

structure OwnL (w : World) (B : Nat) (v : Value) (vs : List VM) : Prop where
  row : w.ownsRow B 42 8 v vs.length (flat8 vs)
  one : ∀ i, i < vs.length → OneOwn w B (vs.getD i v0)
  out : ∀ i, i < vs.length → ∀ g, v.ownBlock = some g → blk1 (vs.getD i v0) ≠ some g ∧ blk2 (vs.getD i v0) ≠ some g
  all : ∀ i j, i < vs.length → j < vs.length → i ≠ j → ∀ b, (blk1 (vs.getD i v0) = some b ∨ blk2 (vs.getD i v0) = some b) → blk1 (vs.getD j v0) ≠ some b ∧ blk2 (vs.getD j v0) ≠ some b

theorem OwnL.nil (w : World) (B : Nat) : OwnL w B (.slice none 0 0) [] :=
  ⟨World.ownsRow_nil w B _ 8, fun i h => by simp at h, fun i h => by simp at h, fun i j h => by simp at h⟩
theorem ownsRow_lt8 {w : World} {base : Nat} {e : TypeId} {size : Nat} {v : Value} {n : Nat} {xs : List Value} (h : w.ownsRow base e size v n xs) : ∀ g, v.ownBlock = some g → g < w.heap.size := by
  obtain ⟨_, h⟩ := h
  intro g hg
  rcases h with ⟨rfl, _⟩ | ⟨g', cap, cur, rfl, hb, hh, _⟩
  · cases hg
  · simp only [Value.ownBlock] at hg
    injection hg with hg
    subst hg
    exact (Array.getElem?_eq_some_iff.1 hh).1
theorem OwnL.keep {w w' : World} {B : Nat} {v : Value} {vs : List VM} (h : OwnL w B v vs) (hb : Below w.heap.size w w') : OwnL w' B v vs := by
  refine ⟨?_, fun i hi => (h.one i hi).blk hb.size fun b e => hb.block b ?_, h.out, h.all⟩
  · obtain ⟨h1, h2⟩ := h.row
    refine ⟨h1, ?_⟩
    rcases h2 with h2 | ⟨g, cap, cur, hv, hg, hh, r⟩
    · exact .inl h2
    · exact .inr ⟨g, cap, cur, hv, hg, by rw [hb.block g (Array.getElem?_eq_some_iff.1 hh).1]; exact hh, r⟩
  · rcases e with e | e
    · exact ((h.one i hi).b1 b e).2
    · exact ((h.one i hi).b2 b e).2

/-- One vote more. -/
theorem OwnL.snoc {w0 w w' : World} {B : Nat} {v v' : Value} {vs : List VM} {y : VM} (h0 : OwnL w0 B v vs) (hb : Below w0.heap.size w0 w) (hy : OneOwn w w0.heap.size y) (hB : B ≤ w0.heap.size)
    (hrow : w'.ownsRow B 42 8 v' (vs.length + 1) (flat8 vs ++ y.cells.toList)) (hg : w.grownBy w' v.ownBlock) (hloc : ∀ g, v'.ownBlock = some g → v.ownBlock = some g ∨ g = w.heap.size) : OwnL w' B v' (vs ++ [y]) := by
  have h := h0.keep hb
  obtain ⟨_, _, _, hgs, hgb⟩ := hg
  have lt0 : ∀ i, i < vs.length → ∀ b, (blk1 (vs.getD i v0) = some b ∨ blk2 (vs.getD i v0) = some b) → b < w0.heap.size := fun i hi b e => by
    rcases e with e | e
    · exact ((h0.one i hi).b1 b e).2
    · exact ((h0.one i hi).b2 b e).2
  have rl0 := ownsRow_lt8 h0.row
  have rl : ∀ g, v.ownBlock = some g → g < w0.heap.size := rl0
  have yb : ∀ b, (blk1 y = some b ∨ blk2 y = some b) → w0.heap.size ≤ b ∧ b < w.heap.size := fun b e => by
    rcases e with e | e
    · exact hy.b1 b e
    · exact hy.b2 b e
  have len : (vs ++ [y]).length = vs.length + 1 := by simp
  have at1 : ∀ i, i < vs.length → (vs ++ [y]).getD i v0 = vs.getD i v0 := fun i hi => by rw [getD_snocV, if_pos hi]
  have at2 : (vs ++ [y]).getD vs.length v0 = y := by rw [getD_snocV, if_neg (by omega), if_pos rfl]
  have hbs := hb.size
  refine ⟨by rw [len, flat8_snoc]; exact hrow, fun i hi => ?_, fun i hi g hgv => ?_, fun i j hi hj hne b e => ?_⟩
  · rw [len] at hi
    by_cases e : i < vs.length
    · rw [at1 i e]
      refine (h.one i e).blk hgs fun b eb => hgb b ?_ ?_
      · have := lt0 i e b eb; omega
      · intro k
        have o := h.out i e b k.symm
        rcases eb with eb | eb
        · exact o.1 eb
        · exact o.2 eb
    · obtain rfl : i = vs.length := by omega
      rw [at2]
      refine (hy.weaken hB).blk hgs fun b eb => hgb b (yb b eb).2 ?_
      intro k
      have := rl b k.symm
      have := (yb b eb).1
      omega
  · rw [len] at hi
    have key : ∀ b, (blk1 ((vs ++ [y]).getD i v0) = some b ∨ blk2 ((vs ++ [y]).getD i v0) = some b) → b ≠ g := fun b eb => by
      by_cases e : i < vs.length
      · rw [at1 i e] at eb
        rcases hloc g hgv with hl | hl
        · have o := h.out i e g hl
          intro e2
          subst e2
          rcases eb with eb | eb
          · exact o.1 eb
          · exact o.2 eb
        · have := lt0 i e b eb; omega
      · obtain rfl : i = vs.length := by omega
        rw [at2] at eb
        have := yb b eb
        rcases hloc g hgv with hl | hl
        · have := rl g hl; omega
        · omega
    exact ⟨fun e => key g (.inl e) rfl, fun e => key g (.inr e) rfl⟩
  · rw [len] at hi hj
    by_cases ei : i < vs.length
    · rw [at1 i ei] at e
      by_cases ej : j < vs.length
      · rw [at1 j ej]; exact h.all i j ei ej hne b e
      · obtain rfl : j = vs.length := by omega
        rw [at2]
        have := lt0 i ei b e
        exact ⟨fun e2 => by have := yb b (.inl e2); omega, fun e2 => by have := yb b (.inr e2); omega⟩
    · obtain rfl : i = vs.length := by omega
      rw [at2] at e
      have := yb b e
      have ej : j < vs.length := by omega
      rw [at1 j ej]
      exact ⟨fun e2 => by have := lt0 j ej b (.inl e2); omega, fun e2 => by have := lt0 j ej b (.inr e2); omega⟩

/-- As a list in memory of one's own. -/
theorem OwnL.vs {w : World} {B : Nat} {v : Value} {vs : List VM} (h : OwnL w B v vs) (hn : vs ≠ []) : ∃ g cap, v = .slice (some ⟨g, 0, none⟩) vs.length cap ∧ vs.length ≤ cap ∧ OwnVs w B g vs ∧ Sep g vs := by
  have hpos : 0 < vs.length := List.length_pos_iff.2 hn
  obtain ⟨hl, hr⟩ := h.row
  rcases hr with ⟨_, h0⟩ | ⟨g, cap, cur, hv, hb, hh, hmc, _, hsz, htk⟩
  · omega
  have hl8 := flat8_length vs
  refine ⟨g, cap, hv, hmc, ⟨(Array.getElem?_eq_some_iff.1 hh).1, hb, fun o => frozen_heap hh o, fun i hi => ?_, fun i hi => ⟨(h.one i hi).l1, (h.one i hi).l2⟩⟩, ⟨fun i hi => h.out i hi g (by rw [hv]; rfl), fun i hi => (h.one i hi).ap, h.all⟩⟩
  have e : ∀ j, j < 8 → w.cell? ⟨g, i * 8 + j, none⟩ = (vs.getD i v0).cells.toList[j]? := fun j hj => by
    rw [← flat8_get vs i j hi hj, ← htk, cell_heap hh, List.getElem?_take_of_lt (by omega)]
    simp
  exact ⟨e 0 (by omega), e 1 (by omega), e 2 (by omega), e 3 (by omega), e 4 (by omega), e 5 (by omega), e 6 (by omega), e 7 (by omega)⟩
end Go.Proofs.Ytfifiobcmdmefaa.Own

/-
  Own text: a slice of instructions, its memory its own.
-/
import Derived.Test.YtgcencilgpilaaaBase4
import Derived.Test.YtgcencilgpilaaaBar
import Derived.OwnWalk
namespace Go.Proofs.Ytgcencilgpilaaa.Own
open Go.RowKit
set_option linter.unusedVariables false
set_option linter.unusedSimpArgs false

def flat4 (xs : List Q4) : List Value := xs.flatMap fun p => [.int .i64 p.1, .int .i64 p.2.1, .int .i64 p.2.2.1, .int .i64 p.2.2.2]
theorem flat4_length (xs : List Q4) : (flat4 xs).length = xs.length * 4 := by
  induction xs with
  | nil => rfl
  | cons p r ih => simp [flat4] at ih ⊢; omega
theorem flat4_snoc (xs : List Q4) (p : Q4) : flat4 (xs ++ [p]) = flat4 xs ++ [.int .i64 p.1, .int .i64 p.2.1, .int .i64 p.2.2.1, .int .i64 p.2.2.2] := by simp [flat4]
theorem flat4_get (xs : List Q4) (i : Nat) (h : i < xs.length) : (flat4 xs)[i * 4]? = some (.int .i64 (xs.getD i q0).1) ∧ (flat4 xs)[i * 4 + 1]? = some (.int .i64 (xs.getD i q0).2.1) ∧ (flat4 xs)[i * 4 + 2]? = some (.int .i64 (xs.getD i q0).2.2.1) ∧ (flat4 xs)[i * 4 + 3]? = some (.int .i64 (xs.getD i q0).2.2.2) := by
  induction xs generalizing i with
  | nil => simp at h
  | cons p r ih =>
    cases i with
    | zero => simp [flat4]
    | succ i =>
      have := ih i (by simpa using h)
      simp only [flat4, List.flatMap_cons] at this ⊢
      rw [show (i + 1) * 4 = i * 4 + 4 by omega, show i * 4 + 4 + 1 = i * 4 + 1 + 4 by omega, show i * 4 + 4 + 2 = i * 4 + 2 + 4 by omega, show i * 4 + 4 + 3 = i * 4 + 3 + 4 by omega]
      simpa using this

/-- v is a slice of the instructions xs, its memory from B on its own. -/
def OwnQ (w : World) (B : Nat) (v : Value) (xs : List Q4) : Prop := w.ownsRow B 156 4 v xs.length (flat4 xs)

theorem OwnQ.keep {w w' : World} {B : Nat} {v : Value} {xs : List Q4} (h : OwnQ w B v xs) (hb : Below w.heap.size w w') : OwnQ w' B v xs := by
  obtain ⟨h1, h2⟩ := h
  refine ⟨h1, ?_⟩
  rcases h2 with h2 | ⟨g, cap, cur, hv, hg, hh, r⟩
  · exact .inl h2
  · exact .inr ⟨g, cap, cur, hv, hg, by rw [hb.block g (Array.getElem?_eq_some_iff.1 hh).1]; exact hh, r⟩
theorem OwnQ.bar {w w' : World} {B rb : Nat} {v : Value} {xs : List Q4} (h : OwnQ w B v xs) (hb : Bar rb w w') (hr : w.heap.size ≤ rb) : OwnQ w' B v xs := by
  obtain ⟨h1, h2⟩ := h
  refine ⟨h1, ?_⟩
  rcases h2 with h2 | ⟨g, cap, cur, hv, hg, hh, r⟩
  · exact .inl h2
  · have := (Array.getElem?_eq_some_iff.1 hh).1
    exact .inr ⟨g, cap, cur, hv, hg, by rw [hb.block g this (by omega)]; exact hh, r⟩
theorem OwnQ.lower {w : World} {B B' : Nat} {v : Value} {xs : List Q4} (h : OwnQ w B v xs) (hB : B' ≤ B) : OwnQ w B' v xs := by
  obtain ⟨h1, h2⟩ := h
  refine ⟨h1, ?_⟩
  rcases h2 with h2 | ⟨g, cap, cur, hv, hg, r⟩
  · exact .inl h2
  · exact .inr ⟨g, cap, cur, hv, Nat.le_trans hB hg, r⟩
theorem OwnQ.open {w : World} {B : Nat} {v : Value} {xs : List Q4} (h : OwnQ w B v xs) : ∃ a cap, v = .slice a xs.length cap ∧ Sl4 w a xs ∧ xs.length ≤ cap := by
  obtain ⟨h1, h2⟩ := h
  rcases h2 with ⟨hv, h0⟩ | ⟨g, cap, cur, hv, hg, hh, hmc, hml, hsz, htk⟩
  · refine ⟨none, 0, by rw [hv, h0], .inl (List.eq_nil_of_length_eq_zero h0), by omega⟩
  · refine ⟨some ⟨g, 0, none⟩, cap, hv, .inr ⟨g, 0, rfl, (Array.getElem?_eq_some_iff.1 hh).1, fun i hi => ?_⟩, hmc⟩
    have e := flat4_get xs i hi
    rw [← htk, List.getElem?_take_of_lt (by omega), List.getElem?_take_of_lt (by omega), List.getElem?_take_of_lt (by omega), List.getElem?_take_of_lt (by omega)] at e
    rw [cell_heap hh, cell_heap hh, cell_heap hh, cell_heap hh, Nat.zero_add]
    simpa using e

theorem four_new (w : World) (a b c d : Value) : ∀ j x, [a, b, c, d][j]? = some x → (w.alloc (.cells #[a, b, c, d] 156)).cell? ((⟨w.heap.size, 0, none⟩ : Addr).add j) = some x := by
  intro j x hj
  match j, hj with
  | 0, hj => simp at hj; subst hj; simp [Addr.add]
  | 1, hj => simp at hj; subst hj; simp [Addr.add]
  | 2, hj => simp at hj; subst hj; simp [Addr.add]
  | 3, hj => simp at hj; subst hj; simp [Addr.add]

theorem infoIns5 : (Try.prog.info? 156).map (fun i => (i.zero, i.size, i.bytes)) = some (some (.agg #[.int .i64 0, .int .i64 0, .int .i64 0, .int .i64 0]), 4, 32) := by kernel_rfl

theorem getD_set4 (xs : List Q4) (i j : Nat) (v : Q4) (hi : i < xs.length) : (xs.set i v).getD j q0 = if i = j then v else xs.getD j q0 := by
  simp only [List.getD_eq_getElem?_getD, List.getElem?_set]
  by_cases e : i = j
  · simp [e, show j < xs.length by omega]
  · simp [e]

/-- Of the blocks that were there none but rb has turned, and the row's own one is not rb. -/
theorem OwnQ.bar2 {w w' : World} {B rb : Nat} {v : Value} {xs : List Q4} (h : OwnQ w B v xs) (hb : Bar rb w w') (hr : rb < B) : OwnQ w' B v xs := by
  obtain ⟨h1, h2⟩ := h
  refine ⟨h1, ?_⟩
  rcases h2 with h2 | ⟨g, cap, cur, hv, hg, hh, r⟩
  · exact .inl h2
  · have := (Array.getElem?_eq_some_iff.1 hh).1
    exact .inr ⟨g, cap, cur, hv, hg, by rw [hb.block g this (by omega)]; exact hh, r⟩

theorem flat4_ext {xs : List Q4} {l : List Value} (hl : l.length = xs.length * 4) (h : ∀ i, i < xs.length → l[i * 4]? = some (.int .i64 (xs.getD i q0).1) ∧ l[i * 4 + 1]? = some (.int .i64 (xs.getD i q0).2.1) ∧ l[i * 4 + 2]? = some (.int .i64 (xs.getD i q0).2.2.1) ∧ l[i * 4 + 3]? = some (.int .i64 (xs.getD i q0).2.2.2)) : l = flat4 xs := by
  apply List.ext_getElem?
  intro j
  by_cases hj : j < xs.length * 4
  · have hk : j / 4 < xs.length := by omega
    have e1 := h (j / 4) hk
    have e2 := flat4_get xs (j / 4) hk
    have m : j % 4 = 0 ∨ j % 4 = 1 ∨ j % 4 = 2 ∨ j % 4 = 3 := by omega
    rcases m with m | m | m | m
    · rw [show j = j / 4 * 4 by omega, e1.1, e2.1]
    · rw [show j = j / 4 * 4 + 1 by omega, e1.2.1, e2.2.1]
    · rw [show j = j / 4 * 4 + 2 by omega, e1.2.2.1, e2.2.2.1]
    · rw [show j = j / 4 * 4 + 3 by omega, e1.2.2.2, e2.2.2.2]
  · rw [List.getElem?_eq_none (by omega), List.getElem?_eq_none (by rw [flat4_length]; omega)]

/-- A number of an instruction of such a slice, turned. -/
theorem OwnQ.set {w : World} {B g cap : Nat} {xs : List Q4} (h : OwnQ w B (.slice (some ⟨g, 0, none⟩) xs.length cap) xs) (i f : Nat) (hi : i < xs.length) (hf : f < 4) (n : Int) (q : Q4)
    (hq : q = (if f = 0 then n else (xs.getD i q0).1, if f = 1 then n else (xs.getD i q0).2.1, if f = 2 then n else (xs.getD i q0).2.2.1, if f = 3 then n else (xs.getD i q0).2.2.2)) :
    OwnQ (w.setCell ⟨g, i * 4 + f, none⟩ (.int .i64 n)) B (.slice (some ⟨g, 0, none⟩) xs.length cap) (xs.set i q) := by
  obtain ⟨h1, h2⟩ := h
  rcases h2 with ⟨hv, h0⟩ | ⟨g', cap', cur, hv, hg, hh, hmc, hml, hsz, htk⟩
  · omega
  injection hv with e1 e2 e3
  injection e1 with e1
  injection e1 with e1
  subst e1 e3
  have hl4 := flat4_length xs
  refine ⟨by rw [flat4_length], .inr ⟨g, cap, cur.setIfInBounds (i * 4 + f) (.int .i64 n), by rw [List.length_set], hg, ?_, by rw [List.length_set]; exact hmc, hml, by simpa using hsz, ?_⟩⟩
  · simp [World.setCell, Array.getElem?_modify, hh]
  · rw [List.length_set]
    apply flat4_ext
    · rw [List.length_set, List.length_take]
      simp
      omega
    · intro j hj
      rw [List.length_set] at hj
      have e := flat4_get xs j hj
      rw [← htk] at e
      rw [List.getElem?_take_of_lt (by omega), List.getElem?_take_of_lt (by omega), List.getElem?_take_of_lt (by omega), List.getElem?_take_of_lt (by omega)] at e
      simp only [Array.getElem?_toList] at e
      rw [List.getElem?_take_of_lt (by omega), List.getElem?_take_of_lt (by omega), List.getElem?_take_of_lt (by omega), List.getElem?_take_of_lt (by omega), getD_set4 _ _ _ _ hi]
      simp only [Array.getElem?_toList, Array.getElem?_setIfInBounds]
      by_cases hij : i = j
      · subst hij
        rw [if_pos rfl, hq]
        have b0 : i * 4 + f < cur.size := by omega
        match f, hf with
        | 0, _ => simp [e, b0, show ¬ (i * 4 = i * 4 + 1) by omega]; omega
        | 1, _ => simp [e, b0]
        | 2, _ => simp [e, b0]
        | 3, _ => simp [e, b0]
      · rw [if_neg hij, if_neg (by omega), if_neg (by omega), if_neg (by omega), if_neg (by omega)]
        exact e

/-- Every number of the instructions is small. -/
def SmQ (q : Q4) : Prop := (-2000000 ≤ q.1 ∧ q.1 ≤ 2000000) ∧ (-2000000 ≤ q.2.1 ∧ q.2.1 ≤ 2000000) ∧ (-2000000 ≤ q.2.2.1 ∧ q.2.2.1 ≤ 2000000) ∧ (-2000000 ≤ q.2.2.2 ∧ q.2.2.2 ≤ 2000000)
def Sm4 (xs : List Q4) : Prop := ∀ k, k < xs.length → SmQ (xs.getD k q0)
theorem Sm4.nil : Sm4 [] := fun k hk => by simp at hk
theorem Sm4.snoc {xs : List Q4} (h : Sm4 xs) {q : Q4} (hq : SmQ q) : Sm4 (xs ++ [q]) := by
  intro k hk
  simp at hk
  by_cases e : k < xs.length
  · have e2 : (xs ++ [q]).getD k q0 = xs.getD k q0 := by simp [List.getD, List.getElem?_append_left e]
    rw [e2]; exact h k e
  · have e2 : (xs ++ [q]).getD k q0 = q := by
      have : k = xs.length := by omega
      simp [List.getD, this]
    rw [e2]; exact hq
theorem Sm4.set {xs : List Q4} (h : Sm4 xs) (i : Nat) (hi : i < xs.length) {q : Q4} (hq : SmQ q) : Sm4 (xs.set i q) := by
  intro k hk
  rw [List.length_set] at hk
  rw [getD_set4 _ _ _ _ hi]
  by_cases e : i = k
  · rw [if_pos e]; exact hq
  · rw [if_neg e]; exact h k hk
end Go.Proofs.Ytgcencilgpilaaa.Own

/-
  Own text: a slice of pairs, its memory its own. Nothing of the program.
-/
import Derived.Test.YtgcencilgpilaaaOwnBox
import Derived.Test.YtgcencilgpilaaaCells4
import Derived.Test.YtgcencilgpilaaaExecMath
namespace Go.Proofs.Ytgcencilgpilaaa.Own
open Go.RowKit
set_option linter.unusedVariables false

/-- v is a slice of the pairs xs, of element type t, its memory from B on its own. -/
def OwnP (t : TypeId) (w : World) (B : Nat) (v : Value) (xs : List P2) : Prop := w.ownsRow B t 2 v xs.length (flat xs)

theorem OwnP.open {t : TypeId} {w : World} {B : Nat} {v : Value} {xs : List P2} (h : OwnP t w B v xs) :
    ∃ a cap, v = .slice a xs.length cap ∧ Sl w a xs ∧ xs.length ≤ cap ∧ cap ≤ maxLen ∧ (∀ x, a = some x → v.ownBlock = some x.block ∧ x.off = 0 ∧ x.spot = none) := by
  obtain ⟨h1, h2⟩ := h
  rcases h2 with ⟨hv, h0⟩ | ⟨g, cap, cur, hv, hg, hh, hmc, hml, hsz, htk⟩
  · exact ⟨none, 0, by rw [hv, h0], .inl (List.eq_nil_of_length_eq_zero h0), by omega, by unfold maxLen; omega, fun x e => by cases e⟩
  · refine ⟨some ⟨g, 0, none⟩, cap, hv, .inr ⟨g, 0, rfl, (Array.getElem?_eq_some_iff.1 hh).1, fun i hi => ?_⟩, hmc, hml, fun x e => by injection e with e; subst e; rw [hv]; exact ⟨rfl, rfl, rfl⟩⟩
    have e := flat_even xs i hi
    rw [← htk] at e
    rw [cell_heap hh, cell_heap hh, Nat.zero_add]
    rw [List.getElem?_take_of_lt (by omega), List.getElem?_take_of_lt (by omega)] at e
    simpa using e
theorem OwnP.keep {t : TypeId} {w w' : World} {B : Nat} {v : Value} {xs : List P2} {row : Option Nat} (h : OwnP t w B v xs) (hg : w.grownBy w' row) (hne : v.ownBlock = none ∨ v.ownBlock ≠ row) : OwnP t w' B v xs := World.ownsRow.kept h hg hne
theorem OwnP.below {t : TypeId} {w w' : World} {B : Nat} {v : Value} {xs : List P2} (h : OwnP t w B v xs) (hb : Below w.heap.size w w') : OwnP t w' B v xs := by
  obtain ⟨h1, h2⟩ := h
  refine ⟨h1, ?_⟩
  rcases h2 with h2 | ⟨g, cap, cur, hv, hg, hh, r⟩
  · exact .inl h2
  · exact .inr ⟨g, cap, cur, hv, hg, by rw [hb.block g (Array.getElem?_eq_some_iff.1 hh).1]; exact hh, r⟩
theorem OwnP.lower {t : TypeId} {w : World} {B B' : Nat} {v : Value} {xs : List P2} (h : OwnP t w B v xs) (hB : B' ≤ B) : OwnP t w B' v xs := by
  obtain ⟨h1, h2⟩ := h
  refine ⟨h1, ?_⟩
  rcases h2 with h2 | ⟨g, cap, cur, hv, hg, r⟩
  · exact .inl h2
  · exact .inr ⟨g, cap, cur, hv, Nat.le_trans hB hg, r⟩
theorem OwnP.nil (t : TypeId) (w : World) (B : Nat) : OwnP t w B (.slice none 0 0) [] := World.ownsRow_nil _ _ _ _
theorem flat_snocP (xs : List P2) (p : P2) : flat (xs ++ [p]) = flat xs ++ [.int .i64 p.1, .int .i64 p.2] := by simp [flat]

theorem flat_extP {xs : List P2} {l : List Value} (hl : l.length = xs.length * 2) (h : ∀ i, i < xs.length → l[i * 2]? = some (.int .i64 (xs.getD i (0, 0)).1) ∧ l[i * 2 + 1]? = some (.int .i64 (xs.getD i (0, 0)).2)) : l = flat xs := by
  apply List.ext_getElem?
  intro j
  by_cases hj : j < xs.length * 2
  · have hk : j / 2 < xs.length := by omega
    have e1 := h (j / 2) hk
    have e2 := flat_even xs (j / 2) hk
    rcases Nat.mod_two_eq_zero_or_one j with m | m
    · rw [show j = j / 2 * 2 by omega, e1.1, e2.1]
    · rw [show j = j / 2 * 2 + 1 by omega, e1.2, e2.2]
  · rw [List.getElem?_eq_none (by omega), List.getElem?_eq_none (by rw [flat_length]; omega)]

theorem getD_setP (xs : List P2) (i j : Nat) (v : P2) (hi : i < xs.length) : (xs.set i v).getD j (0, 0) = if i = j then v else xs.getD j (0, 0) := by
  simp only [List.getD_eq_getElem?_getD, List.getElem?_set]
  by_cases e : i = j
  · simp [e, show j < xs.length by omega]
  · simp [e]

/-- The second number of a pair of such a slice, turned. -/
theorem OwnP.set {t : TypeId} {w : World} {B g cap : Nat} {xs : List P2} (h : OwnP t w B (.slice (some ⟨g, 0, none⟩) xs.length cap) xs) (i : Nat) (hi : i < xs.length) (n : Int) :
    OwnP t (w.setCell ⟨g, i * 2 + 1, none⟩ (.int .i64 n)) B (.slice (some ⟨g, 0, none⟩) xs.length cap) (xs.set i ((xs.getD i (0, 0)).1, n)) := by
  obtain ⟨h1, h2⟩ := h
  rcases h2 with ⟨hv, h0⟩ | ⟨g', cap', cur, hv, hg, hh, hmc, hml, hsz, htk⟩
  · omega
  injection hv with e1 e2 e3
  injection e1 with e1
  injection e1 with e1
  subst e1 e3
  have hl2 := flat_length xs
  refine ⟨by rw [flat_length], .inr ⟨g, cap, cur.setIfInBounds (i * 2 + 1) (.int .i64 n), by rw [List.length_set], hg, ?_, by rw [List.length_set]; exact hmc, hml, by simpa using hsz, ?_⟩⟩
  · simp [World.setCell, Array.getElem?_modify, hh]
  · rw [List.length_set]
    have hcl : xs.length * 2 ≤ cur.size := by rw [hsz]; omega
    apply flat_extP
    · rw [List.length_set, List.length_take]
      simp
      omega
    · intro j hj
      rw [List.length_set] at hj
      have e := flat_even xs j hj
      rw [← htk, List.getElem?_take_of_lt (by omega), List.getElem?_take_of_lt (by omega)] at e
      rw [List.getElem?_take_of_lt (by omega), List.getElem?_take_of_lt (by omega), getD_setP _ _ _ _ hi]
      by_cases hij : i = j
      · subst hij
        rw [if_pos rfl]
        refine ⟨?_, ?_⟩
        · have := e.1
          simp only [Array.getElem?_toList] at this ⊢
          rw [Array.getElem?_setIfInBounds_ne (by omega)]; exact this
        · simp only [Array.getElem?_toList]
          rw [Array.getElem?_setIfInBounds_self_of_lt (by omega)]
      · rw [if_neg hij]
        refine ⟨?_, ?_⟩
        · have := e.1
          simp only [Array.getElem?_toList] at this ⊢
          rw [Array.getElem?_setIfInBounds_ne (by omega)]; exact this
        · have := e.2
          simp only [Array.getElem?_toList] at this ⊢
          rw [Array.getElem?_setIfInBounds_ne (by omega)]; exact this
end Go.Proofs.Ytgcencilgpilaaa.Own

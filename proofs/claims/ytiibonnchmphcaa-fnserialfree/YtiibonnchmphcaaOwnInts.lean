/-
  Own text: slices of numbers that a call made, held against each other, marked and held.
-/
import Derived.Test.YtiibonnchmphcaaInts
import Derived.Test.YtiibonnchmphcaaTouch
namespace Go.Proofs.Ytiibonnchmphcaa.Own
open Go.RowKit
set_option linter.unusedVariables false

/-- v is a slice of the numbers ys, its memory from B on its own. -/
def OwnI (w : World) (B : Nat) (v : Value) (ys : List Int) : Prop := w.ownsRow B 3 1 v ys.length (ys.map (Value.int .i64))

theorem OwnI.keep {w w' : World} {B : Nat} {v : Value} {ys : List Int} (h : OwnI w B v ys) (hb : Below w.heap.size w w') : OwnI w' B v ys := by
  obtain ⟨h1, h2⟩ := h
  refine ⟨h1, ?_⟩
  rcases h2 with h2 | ⟨g, cap, cur, hv, hg, hh, r⟩
  · exact .inl h2
  · exact .inr ⟨g, cap, cur, hv, hg, by rw [hb.block g (Array.getElem?_eq_some_iff.1 hh).1]; exact hh, r⟩

theorem OwnI.only {w w' : World} {B c : Nat} {v : Value} {ys : List Int} (h : OwnI w B v ys) (ho : Only c w w') (hc : c < B) : OwnI w' B v ys := by
  obtain ⟨h1, h2⟩ := h
  refine ⟨h1, ?_⟩
  rcases h2 with h2 | ⟨g, cap, cur, hv, hg, hh, r⟩
  · exact .inl h2
  · exact .inr ⟨g, cap, cur, hv, hg, by rw [ho.block g (by omega)]; exact hh, r⟩

theorem OwnI.open {w : World} {B : Nat} {v : Value} {ys : List Int} (h : OwnI w B v ys) : ∃ a cap, v = .slice a ys.length cap ∧ SlI w a ys ∧ ys.length ≤ cap := by
  obtain ⟨h1, h2⟩ := h
  rcases h2 with ⟨hv, h0⟩ | ⟨g, cap, cur, hv, hg, hh, hmc, hml, hsz, htk⟩
  · refine ⟨none, 0, by rw [hv, h0], .inl (List.eq_nil_of_length_eq_zero h0), by omega⟩
  · refine ⟨some ⟨g, 0, none⟩, cap, hv, .inr ⟨g, 0, rfl, (Array.getElem?_eq_some_iff.1 hh).1, fun i hi => ?_⟩, hmc⟩
    rw [Nat.zero_add, cell_heap hh]
    have e : (cur.toList.take (ys.length * 1))[i]? = some (.int .i64 (ys.getD i 0)) := by
      rw [htk, List.getElem?_map]; simp [List.getD, hi]
    rw [List.getElem?_take_of_lt (by omega)] at e
    simpa using e

/-- v's numbers have been marked from 1 on. -/
def HeldI (w : World) (B : Nat) (v : Value) (n : Nat) : Prop := ∃ a cap, v = .slice a n cap ∧ (n = 0 ∨ ∃ g, a = some ⟨g, 0, none⟩ ∧ B ≤ g ∧ IntAt w g 0 (marks1 1 n))
theorem HeldI.keep {w w' : World} {B n : Nat} {v : Value} (h : HeldI w B v n) (hb : Below w.heap.size w w') : HeldI w' B v n := by
  obtain ⟨a, cap, hv, h⟩ := h
  refine ⟨a, cap, hv, ?_⟩
  rcases h with h | ⟨g, ha, hg, h⟩
  · exact .inl h
  · exact .inr ⟨g, ha, hg, h.below hb⟩

theorem eqOwn (v1 v2 : Value) (B1 B2 : Nat) (ys : List Int) (w : World) (h1 : OwnI w B1 v1 ys) (h2 : OwnI w B2 v2 ys) (hl : ys.length ≤ 2 ^ 40) :
    Calls Try.prog 58 #[v1, v2] w fun e w' => e = .returned (.bool true) ∧ Below w.heap.size w w' := by
  obtain ⟨a1, c1, rfl, s1, _⟩ := h1.open
  obtain ⟨a2, c2, rfl, s2, _⟩ := h2.open
  refine (eqIntS a1 a2 c1 c2 ys ys w s1 s2 hl hl).mono ?_
  rintro e w' ⟨rfl, hb⟩
  exact ⟨by simp, hb⟩

theorem markOwn (v : Value) (B : Nat) (ys : List Int) (w : World) (h : OwnI w B v ys) (hl : ys.length ≤ 2 ^ 40) (hB : B ≤ w.heap.size) :
    Calls Try.prog 61 #[v, .int .i64 1] w fun e w' => e = .returned (.int .i64 (1 + ys.length)) ∧ HeldI w' B v ys.length ∧ Below B w w' := by
  obtain ⟨h1, h2⟩ := h
  rcases h2 with ⟨hv, h0⟩ | ⟨g, cap, cur, hv, hg, hh, hmc, hml, hsz, htk⟩
  · subst hv
    refine (markIntS0 none 0 1 w).mono ?_
    rintro e w' ⟨rfl, rfl⟩
    exact ⟨by rw [h0]; rfl, ⟨none, 0, by rw [h0], .inl h0⟩, Below.refl _ _⟩
  · subst hv
    have hc : ∀ i, i < ys.length → ∃ v, w.cell? ⟨g, 0 + i, none⟩ = some v ∧ v.oneCell' = true := by
      intro i hi
      rw [Nat.zero_add, cell_heap hh]
      have e : (cur.toList.take (ys.length * 1))[i]? = some (.int .i64 (ys.getD i 0)) := by
        rw [htk, List.getElem?_map]; simp [List.getD, hi]
      rw [List.getElem?_take_of_lt (by omega)] at e
      exact ⟨_, by simpa using e, rfl⟩
    refine (markIntS g 0 ys.length cap 1 w hl (by decide) (by decide) (fun o => frozen_heap hh o) hc (Array.getElem?_eq_some_iff.1 hh).1).mono ?_
    rintro e w' ⟨rfl, hat, ho⟩
    exact ⟨rfl, ⟨_, _, rfl, .inr ⟨g, rfl, hg, hat⟩⟩, ho.below hg⟩

theorem heldOwn (v : Value) (B n : Nat) (w : World) (h : HeldI w B v n) (hl : n ≤ 2 ^ 40) :
    Calls Try.prog 62 #[v, .int .i64 1] w fun e w' => e = .returned (.int .i64 (1 + n)) ∧ w' = w := by
  obtain ⟨a, cap, rfl, h⟩ := h
  rcases h with rfl | ⟨g, rfl, hg, h⟩
  · refine (heldIntS0 a cap 1 w).mono ?_
    rintro e w' ⟨rfl, rfl⟩
    exact ⟨rfl, rfl⟩
  · exact heldIntS g 0 n cap 1 w hl (by decide) (by decide) h
end Go.Proofs.Ytiibonnchmphcaa.Own

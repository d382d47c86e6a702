/-
  Own text: laws.FnExactBoxOpen returns true and turns nothing that was there. No condition.
-/
import Derived.Test.YtipbabkbmiaalaaEq
import Derived.Test.YtipbabkbmiaalaaMark
import Derived.Test.YtipbabkbmiaalaaOpen
namespace Go.Proofs.Ytipbabkbmiaalaa.Own
open Go.RowKit

def zero4 : List (Int × Int) := [(0, 0), (0, 0), (0, 0), (0, 0)]

theorem zeros_at {w : World} {b : Nat} {t : TypeId} {f : Nat × Nat} (h : w.heap[b]? = some (.cells zeros8 t f)) : BoxAt w b 0 zero4 := by
  refine ⟨(Array.getElem?_eq_some_iff.1 h).1, fun i hi => ?_⟩
  rw [cell_heap h, cell_heap h]
  match i, hi with
  | 0, _ | 1, _ | 2, _ | 3, _ => simp [zeros8, zero4]

theorem zeros_cell {w : World} {b : Nat} {t : TypeId} {f : Nat × Nat} (h : w.heap[b]? = some (.cells zeros8 t f)) : ∀ i, i < 2 * 4 → ∃ v, w.cell? ⟨b, 0 + i, none⟩ = some v ∧ v.oneCell' = true := by
  intro i hi
  rw [cell_heap h]
  match i, hi with
  | 0, _ | 1, _ | 2, _ | 3, _ | 4, _ | 5, _ | 6, _ | 7, _ => simp [zeros8, Value.oneCell']

set_option maxHeartbeats 1000000 in
theorem lawOpen (w : World) : Calls Try.prog 4 #[] w fun e w' => e = .returned (.bool true) ∧ Below w.heap.size w w' := by
  go_enter Try.func4, Try.ntmps4
  go_wp2_with fail
  refine (specOpen _).mono ?_; rintro e w1 ⟨rfl, hw1⟩
  have hb1 : Below w.heap.size w w1 := by rw [hw1]; exact (Below.refl _ _).alloc (Nat.le_refl _) _
  have hs1 : w1.heap.size = w.heap.size + 1 := by rw [hw1]; exact size_new _ _
  have h1 : w1.heap[w.heap.size]? = some (.cells zeros8 29) := by rw [hw1]; exact heap_new _ _
  have H1 : Hid (w1.heap[w.heap.size]? = some (.cells zeros8 29)) := h1
  have S1 : Hid (w1.heap.size = w.heap.size + 1) := hs1
  clear hw1 h1 hs1
  go_wp2_with fail
  refine (implOpen _).mono ?_; rintro e w2 ⟨rfl, h2, hb2, hs2⟩
  have H2 : Hid (w2.heap[w1.heap.size + 1]? = some (.cells zeros8 29 (0, 0))) := h2
  have S2 : Hid (w2.heap.size = w1.heap.size + 2) := hs2
  clear h2 hs2
  go_wp2_with fail
  have A1 : BoxAt w1 w.heap.size 0 zero4 := zeros_at H1.out
  have A2 : BoxAt w2 (w1.heap.size + 1) 0 zero4 := zeros_at H2.out
  refine (eqBoxS (some ⟨w1.heap.size + 1, 0, none⟩) (some ⟨w.heap.size, 0, none⟩) 4 4 zero4 zero4 w2 (.inr ⟨_, _, rfl, A2⟩) (.inr ⟨_, _, rfl, A1.below hb2⟩) (by decide) (by decide)).mono ?_
  rintro e w3 ⟨rfl, hb3⟩
  rw [show (zero4 == zero4) = true from by decide]
  have h3 : w3.heap[w1.heap.size + 1]? = some (.cells zeros8 29 (0, 0)) := by rw [hb3.block _ A2.1]; exact H2.out
  have H3 : Hid (w3.heap[w1.heap.size + 1]? = some (.cells zeros8 29 (0, 0))) := h3
  have A1' : Hid (BoxAt w3 w.heap.size 0 zero4) := (A1.below hb2).below hb3
  have S3 : w1.heap.size + 1 < w3.heap.size := Nat.lt_of_lt_of_le A2.1 hb3.size
  have B3 : Hid (Below w.heap.size w w3) := hb1.trans ((hb2.mono (by have := hb1.size; omega)).trans (hb3.mono (by have := S2.out; have := S1.out; omega)))
  clear h3 A1 A2
  go_wp2_with fail
  refine (markBoxS (w1.heap.size + 1) 0 4 4 1 w3 (by decide) (by decide) (by decide) (frozen_heap H3.out) (zeros_cell H3.out) S3).mono ?_
  rintro e w4 ⟨rfl, hm4, ho4⟩
  have M4 : Hid (BoxAt w4 (w1.heap.size + 1) 0 (marks 1 4)) := hm4
  have A4 : Hid (BoxAt w4 w.heap.size 0 zero4) := A1'.out.only ho4 (by have := S1.out; omega)
  have B4 : Hid (Below w.heap.size w w4) := B3.out.trans (ho4.below (by have := S1.out; omega))
  clear hm4
  go_wp2_with fail
  refine (heldBoxS (w1.heap.size + 1) 0 4 4 1 w4 (by decide) (by decide) (by decide) M4.out).mono ?_
  rintro e w4' ⟨rfl, hw4⟩
  subst hw4
  go_wp2_with fail
  refine (implOpen _).mono ?_; rintro e w5 ⟨rfl, h5, hb5, hs5⟩
  have H5 : Hid (w5.heap[w4'.heap.size + 1]? = some (.cells zeros8 29 (0, 0))) := h5
  have A5 : Hid (BoxAt w5 w.heap.size 0 zero4) := A4.out.below hb5
  have M5 : Hid (BoxAt w5 (w1.heap.size + 1) 0 (marks 1 4)) := M4.out.below hb5
  have B5 : Hid (Below w.heap.size w w5) := B4.out.trans (hb5.mono B4.out.size)
  clear h5 hs5
  go_wp2_with fail
  have A5' : BoxAt w5 (w4'.heap.size + 1) 0 zero4 := zeros_at H5.out
  refine (eqBoxS (some ⟨w4'.heap.size + 1, 0, none⟩) (some ⟨w.heap.size, 0, none⟩) 4 4 zero4 zero4 w5 (.inr ⟨_, _, rfl, A5'⟩) (.inr ⟨_, _, rfl, A5.out⟩) (by decide) (by decide)).mono ?_
  rintro e w6 ⟨rfl, hb6⟩
  rw [show (zero4 == zero4) = true from by decide]
  have M6 : Hid (BoxAt w6 (w1.heap.size + 1) 0 (marks 1 4)) := M5.out.below hb6
  have B6 : Hid (Below w.heap.size w w6) := B5.out.trans (hb6.mono B5.out.size)
  clear A5'
  go_wp2_with fail
  refine (heldBoxS (w1.heap.size + 1) 0 4 4 1 w6 (by decide) (by decide) (by decide) M6.out).mono ?_
  rintro e w7 ⟨rfl, hw7⟩
  subst hw7
  go_wp2_with fail
  go_ret
  exact ⟨rfl, B6.out⟩
end Go.Proofs.Ytipbabkbmiaalaa.Own

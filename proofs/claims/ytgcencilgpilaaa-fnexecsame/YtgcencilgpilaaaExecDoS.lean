/-
  Own text: what spec.l1Copy, l1Min, l3Do and spec.ExecDo do.
-/
import Derived.Test.YtgcencilgpilaaaOwnBox
import Derived.Test.YtgcencilgpilaaaExecFreshS
namespace Go.Proofs.Ytgcencilgpilaaa.Own
open Go.RowKit
set_option linter.unusedVariables false
set_option linter.unusedSimpArgs false

set_option maxHeartbeats 1000000 in
theorem l1Copy (a : Option Addr) (c : Nat) (bs : List P2) (w : World) (h : Sl w a bs) (h4 : bs.length = 4) :
    Calls Try.prog 67 #[.slice a bs.length c] w fun e w' => ∃ g cap, e = .returned (.slice (some ⟨g, 0, none⟩) bs.length cap) ∧ w.heap.size ≤ g ∧ BoxAt w' g 0 bs ∧ (∀ o, w'.frozen? ⟨g, o, none⟩ = false) ∧ Below w.heap.size w w' := by
  rcases h with h | ⟨b, off, rfl, h⟩
  · subst h; simp at h4
  have A : Hid (BoxAt w b off bs) := h
  have L : Hid (bs.length = 4) := h4
  clear h h4
  obtain ⟨i0, hi, hz0, hz1, hz2⟩ := info_parts infoBoxO
  have I0 : Hid (Try.prog.info? 38 = some i0 ∧ i0.zero = some (.agg #[.int .i64 0, .int .i64 0]) ∧ i0.size = 2 ∧ i0.bytes = 16) := ⟨hi, hz0, hz1, hz2⟩
  clear hi hz0 hz1 hz2
  go_enter Try.func67, Try.ntmps67
  go_wp2_with (at_builtin; refine wpList_append_own _ rfl (.tmp 3) (.tmp 4) 23 rfl w.heap.size 38 i0 (.agg #[.int .i64 0, .int .i64 0]) 2 16 Try.underlying23 I0.out.1 I0.out.2.1 I0.out.2.2.1 I0.out.2.2.2 rfl (by decide) (.slice (some ⟨w.heap.size, 0, none⟩) 0 0) 0 [] rfl (own_empty w w.heap.size rfl) ⟨b, off, none⟩ bs.length c (flat bs) rfl (flat_length bs) (flat_atO (A.out.below ((Below.refl _ _).alloc (Nat.le_refl _) _))) (flat_one bs) (small_max (by rw [L.out]; omega)) (by rw [L.out]; omega) (by rw [size_new]; omega) ?_)
  intro v1 w6 hown hgr _
  obtain ⟨g1, cap1, rfl, hg1, hcap1, hat1, hfr1, hb6⟩ := grown_box rfl (by rw [L.out]; omega) hown hgr
  have F : Hid (w.heap.size ≤ g1 ∧ BoxAt w6 g1 0 bs ∧ (∀ o, w6.frozen? ⟨g1, o, none⟩ = false) ∧ Below w.heap.size w w6) := ⟨hg1, hat1, hfr1, hb6⟩
  clear hown hgr hat1 hfr1 hb6 hg1
  go_wp2
  go_ret
  exact ⟨g1, cap1, rfl, F.out⟩

set_option maxHeartbeats 400000 in
theorem l1MinC (x y : Int) (w : World) : Calls Try.prog 117 #[.int .i64 x, .int .i64 y] w fun e w' => e = .returned (.int .i64 (min x y)) ∧ w' = w := by
  by_cases h : x < y
  · have e : min x y = x := by omega
    rw [e]
    go_enter Try.func117, Try.ntmps117
    go_wp2
    go_ret
    exact ⟨rfl, rfl⟩
  · have e : min x y = y := by omega
    rw [e]
    go_enter Try.func117, Try.ntmps117
    go_wp2
    go_ret
    exact ⟨rfl, rfl⟩
end Go.Proofs.Ytgcencilgpilaaa.Own

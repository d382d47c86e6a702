/-
  Own text: what spec.NodeOpen and impl.NodeOpen do.
-/
import Derived.Test.YtfifiobcmdmefaaNodeSet
namespace Go.Proofs.Ytfifiobcmdmefaa.Own
open Go.RowKit
set_option linter.unusedVariables false
set_option linter.unusedSimpArgs false

set_option maxRecDepth 100000 in
set_option maxHeartbeats 800000 in
theorem specNodeOpenA (i : Int) (w : World) (h0 : i < 0) :
    Calls Try.prog 66 #[.int .i64 i] w fun e w' => e = .returned (.agg (nodeZ (idOf i))) ∧ Below w.heap.size w w' := by
  obtain ⟨Z, hZ⟩ : ∃ Z, Z = w.alloc (.cells (nodeZ 0) 104) := ⟨_, rfl⟩
  have BZ : Hid (Below w.heap.size w Z) := by show Below _ _ _; rw [hZ]; exact (Below.refl _ _).alloc (Nat.le_refl _) _
  have ZB : Hid (Blk Z w.heap.size (nodeZ 0) 104) := by show Blk _ _ _ _; rw [hZ]; exact Blk.new _ _ _
  have HZ : Hid (Z = _) := hZ
  clear hZ
  unfold nodeZ at HZ
  have d0 : decide (i < 0) = true := decide_eq_true h0
  have E : Hid (idOf i = 0) := by show _ = _; unfold idOf; rw [if_neg (by omega)]
  go_enter Try.func66, Try.ntmps66
  go_upto_region 1 with fail
  rw [← HZ.out]
  go_wp2_with (refine wpList_storeB rfl 104 (.tmp 2) (.tmp 9) rfl w.heap.size rfl ZB.out (nodeZ (0)) rfl rfl (nodeInfo _) (nodeZ_one _) ?_)
  intro Q zb on
  have hl := nodeLoad zb
  have BQ : Hid (Below w.heap.size w Q) := BZ.out.trans (on.below (Nat.le_refl _))
  clear zb on
  go_wp2_with fail
  refine bodyPost_ret (v := .agg (nodeZ (0))) (by simp [results, Try.results66, Sem.run_bind, Sem.run_pure, asAddr, hl]) rfl ?_
  exact ⟨by rw [E.out], BQ.out⟩

set_option maxRecDepth 100000 in
set_option maxHeartbeats 800000 in
theorem specNodeOpenB (i : Int) (w : World) (h0 : ¬ i < 0) (h1 : 3 ≤ i) :
    Calls Try.prog 66 #[.int .i64 i] w fun e w' => e = .returned (.agg (nodeZ (idOf i))) ∧ Below w.heap.size w w' := by
  obtain ⟨Z, hZ⟩ : ∃ Z, Z = w.alloc (.cells (nodeZ 0) 104) := ⟨_, rfl⟩
  have BZ : Hid (Below w.heap.size w Z) := by show Below _ _ _; rw [hZ]; exact (Below.refl _ _).alloc (Nat.le_refl _) _
  have ZB : Hid (Blk Z w.heap.size (nodeZ 0) 104) := by show Blk _ _ _ _; rw [hZ]; exact Blk.new _ _ _
  have HZ : Hid (Z = _) := hZ
  clear hZ
  unfold nodeZ at HZ
  have d0 : decide (i < 0) = false := decide_eq_false h0
  have d1 : decide (3 ≤ i) = true := decide_eq_true h1
  have E : Hid (idOf i = 0) := by show _ = _; unfold idOf; rw [if_neg (by omega)]
  go_enter Try.func66, Try.ntmps66
  go_upto_region 1 with fail
  rw [← HZ.out]
  go_wp2_with (refine wpList_storeB rfl 104 (.tmp 2) (.tmp 9) rfl w.heap.size rfl ZB.out (nodeZ (0)) rfl rfl (nodeInfo _) (nodeZ_one _) ?_)
  intro Q zb on
  have hl := nodeLoad zb
  have BQ : Hid (Below w.heap.size w Q) := BZ.out.trans (on.below (Nat.le_refl _))
  clear zb on
  go_wp2_with fail
  refine bodyPost_ret (v := .agg (nodeZ (0))) (by simp [results, Try.results66, Sem.run_bind, Sem.run_pure, asAddr, hl]) rfl ?_
  exact ⟨by rw [E.out], BQ.out⟩

set_option maxRecDepth 100000 in
set_option maxHeartbeats 800000 in
theorem specNodeOpenC (i : Int) (w : World) (h0 : ¬ i < 0) (h1 : ¬ 3 ≤ i) :
    Calls Try.prog 66 #[.int .i64 i] w fun e w' => e = .returned (.agg (nodeZ (idOf i))) ∧ Below w.heap.size w w' := by
  obtain ⟨Z, hZ⟩ : ∃ Z, Z = w.alloc (.cells (nodeZ 0) 104) := ⟨_, rfl⟩
  have BZ : Hid (Below w.heap.size w Z) := by show Below _ _ _; rw [hZ]; exact (Below.refl _ _).alloc (Nat.le_refl _) _
  have ZB : Hid (Blk Z w.heap.size (nodeZ 0) 104) := by show Blk _ _ _ _; rw [hZ]; exact Blk.new _ _ _
  have HZ : Hid (Z = _) := hZ
  clear hZ
  unfold nodeZ at HZ
  have d0 : decide (i < 0) = false := decide_eq_false h0
  have d1 : decide (3 ≤ i) = false := decide_eq_false h1
  have E : Hid (idOf i = i) := by show _ = _; unfold idOf; rw [if_pos (by omega)]
  go_enter Try.func66, Try.ntmps66
  go_upto_region 1 with fail
  rw [← HZ.out]
  go_wp2_with (refine wpList_storeB rfl 104 (.tmp 2) (.tmp 11) rfl w.heap.size rfl ZB.out (nodeZ (i)) rfl rfl (nodeInfo _) (nodeZ_one _) ?_)
  intro Q zb on
  have hl := nodeLoad zb
  have BQ : Hid (Below w.heap.size w Q) := BZ.out.trans (on.below (Nat.le_refl _))
  clear zb on
  go_wp2_with fail
  refine bodyPost_ret (v := .agg (nodeZ (i))) (by simp [results, Try.results66, Sem.run_bind, Sem.run_pure, asAddr, hl]) rfl ?_
  exact ⟨by rw [E.out], BQ.out⟩

theorem specNodeOpen (i : Int) (w : World) :
    Calls Try.prog 66 #[.int .i64 i] w fun e w' => e = .returned (.agg (nodeZ (idOf i))) ∧ Below w.heap.size w w' := by
  by_cases h0 : i < 0
  · exact specNodeOpenA i w h0
  · by_cases h1 : 3 ≤ i
    · exact specNodeOpenB i w h0 h1
    · exact specNodeOpenC i w h0 h1

set_option maxHeartbeats 1000000 in
theorem implIsNode0 (i : Int) (w : World) : Calls Try.prog 107 #[.int .i64 i] w fun e w' => e = .returned (.bool (decide (0 ≤ i) && decide (i < 3))) ∧ w' = w := by
  by_cases h0 : 0 ≤ i
  · have d0 : decide (0 ≤ i) = true := decide_eq_true h0
    by_cases h1 : i < 3
    · have d1 : decide (i < 3) = true := decide_eq_true h1
      go_enter Try.func107, Try.ntmps107
      go_wp2_with fail
      go_ret
      exact ⟨by simp [h0, h1], rfl⟩
    · have d1 : decide (i < 3) = false := decide_eq_false h1
      go_enter Try.func107, Try.ntmps107
      go_wp2_with fail
      go_ret
      exact ⟨by simp [h0, h1], rfl⟩
  · have d0 : decide (0 ≤ i) = false := decide_eq_false h0
    go_enter Try.func107, Try.ntmps107
    go_wp2_with fail
    go_ret
    exact ⟨by simp [h0], rfl⟩

set_option maxRecDepth 100000 in
set_option maxHeartbeats 800000 in
theorem implNodeOpen (i : Int) (w : World) :
    Calls Try.prog 67 #[.int .i64 i] w fun e w' => e = .returned (.agg (nodeZ (idOf i))) ∧ Below w.heap.size w w' := by
  obtain ⟨Z, hZ⟩ : ∃ Z, Z = w.alloc (.cells (nodeZ 0) 104) := ⟨_, rfl⟩
  have BZ : Hid (Below w.heap.size w Z) := by show Below _ _ _; rw [hZ]; exact (Below.refl _ _).alloc (Nat.le_refl _) _
  have ZB : Hid (Blk Z w.heap.size (nodeZ 0) 104) := by show Blk _ _ _ _; rw [hZ]; exact Blk.new _ _ _
  have HZ : Hid (Z = _) := hZ
  clear hZ
  unfold nodeZ at HZ
  obtain ⟨r, hr⟩ : ∃ r, r = (decide (0 ≤ i) && decide (i < 3)) := ⟨_, rfl⟩
  have CN := implIsNode0 i Z
  rw [← hr] at CN
  have HC : Hid _ := CN
  have HR : Hid (r = (decide (0 ≤ i) && decide (i < 3))) := hr
  clear CN hr
  go_enter Try.func67, Try.ntmps67
  go_upto_region 1 with fail
  rw [← HZ.out]
  go_wp2_with fail
  refine Calls.mono HC.out ?_
  rintro e w1 ⟨rfl, hw⟩
  subst hw
  cases r with
  | false =>
    have E : Hid (idOf i = 0) := by
      show _ = _
      have := HR.out
      unfold idOf
      rw [if_neg (fun h => by simp [h.1, h.2] at this)]
    go_wp2_with (refine wpList_storeB rfl 104 (.tmp 2) (.tmp 6) rfl w.heap.size rfl ZB.out (nodeZ (0)) rfl rfl (nodeInfo _) (nodeZ_one _) ?_)
    intro Q zb on
    have hl := nodeLoad zb
    have BQ : Hid (Below w.heap.size w Q) := BZ.out.trans (on.below (Nat.le_refl _))
    clear zb on
    go_wp2_with fail
    refine bodyPost_ret (v := .agg (nodeZ (0))) (by simp [results, Try.results67, Sem.run_bind, Sem.run_pure, asAddr, hl]) rfl ?_
    exact ⟨by rw [E.out], BQ.out⟩
  | true =>
    have E : Hid (idOf i = i) := by
      show _ = _
      have := HR.out.symm
      simp only [Bool.and_eq_true, decide_eq_true_eq] at this
      unfold idOf
      rw [if_pos this]
    go_wp2_with (refine wpList_storeB rfl 104 (.tmp 2) (.tmp 8) rfl w.heap.size rfl ZB.out (nodeZ (i)) rfl rfl (nodeInfo _) (nodeZ_one _) ?_)
    intro Q zb on
    have hl := nodeLoad zb
    have BQ : Hid (Below w.heap.size w Q) := BZ.out.trans (on.below (Nat.le_refl _))
    clear zb on
    go_wp2_with fail
    refine bodyPost_ret (v := .agg (nodeZ (i))) (by simp [results, Try.results67, Sem.run_bind, Sem.run_pure, asAddr, hl]) rfl ?_
    exact ⟨by rw [E.out], BQ.out⟩
end Go.Proofs.Ytfifiobcmdmefaa.Own

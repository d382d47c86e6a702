/-
  Own text: what spec.l2Text does at the kinds that it writes without its list of words.
-/
import Derived.Test.YtbcnmmofccackaaGreatDoorText2
import Derived.Lib.QuietBelow
import Derived.BigQuiet
import Derived.Deep.QuietTactic
import Derived.Test.YtbcnmmofccackaaGreatDoorDec
namespace Go.Proofs.YtbcnmmofccackaaGreatDoor.Own
open Go.RowKit Go.Sort
set_option linter.unusedVariables false
set_option linter.unusedSimpArgs false

set_option maxRecDepth 100000 in
set_option maxHeartbeats 4000000 in
theorem l2Text3 (a b n : Int) (fa : Fits a) (fb : Fits b) (fn : Fits n) (w : World) :
    Calls Tryz.prog 25 #[.agg #[.int .i64 3, .int .i64 a, .int .i64 b, .int .i64 n]] w fun e w' => e = .returned (.string (str ([110, 117, 109] ++ (32 :: Lib.itoa a) ++ (32 :: Lib.itoa n)))) ∧ Below w.heap.size w w' := by
  obtain ⟨s1, e1⟩ : ∃ s, s = str (Lib.itoa a) := ⟨_, rfl⟩
  have z1 : s1.size ≤ 21 := by rw [e1, str_size]; exact itoa_len a fa
  have E1 : Hid (s1 = str (Lib.itoa a)) := e1
  clear e1
  obtain ⟨s2, e2⟩ : ∃ s, s = str (Lib.itoa n) := ⟨_, rfl⟩
  have z2 : s2.size ≤ 21 := by rw [e2, str_size]; exact itoa_len n fn
  have E2 : Hid (s2 = str (Lib.itoa n)) := e2
  clear e2
  obtain ⟨X, hX⟩ : ∃ X, X = w.alloc (.cells #[.int .i64 3, .int .i64 a, .int .i64 b, .int .i64 n] 41) := ⟨_, rfl⟩
  have hX0 : X.heap[w.heap.size]? = some (.cells #[.int .i64 3, .int .i64 a, .int .i64 b, .int .i64 n] 41) := by rw [hX]; exact heap_new _ _
  have hXb : Hid (Below w.heap.size w X) := by show Below _ _ _; rw [hX]; exact (Below.refl _ _).alloc (Nat.le_refl _) _
  have HX : Hid (X = w.alloc (.cells #[.int .i64 3, .int .i64 a, .int .i64 b, .int .i64 n] 41)) := hX
  have Q1 : Hid (∀ d os, Calls Tryz.prog 48 #[.int .i64 a] (grow (redrawn X d) os) fun e w'' => e = .returned (.string s1) ∧ ∃ p : Regrown, w'' = grow (redrawn X p.d) p.os) := fun d os => Calls.regrown_of (by rw [E1.out]; exact l15Dec a _ fa.1 fa.2)
  have Q2 : Hid (∀ d os, Calls Tryz.prog 48 #[.int .i64 n] (grow (redrawn X d) os) fun e w'' => e = .returned (.string s2) ∧ ∃ p : Regrown, w'' = grow (redrawn X p.d) p.os) := fun d os => Calls.regrown_of (by rw [E2.out]; exact l15Dec n _ fn.1 fn.2)
  have m1 := cell_regrown (show X.cell? ⟨w.heap.size, 1, none⟩ = some (.int .i64 a) by rw [cell_heap hX0]; rfl)
  have m3 := cell_regrown (show X.cell? ⟨w.heap.size, 3, none⟩ = some (.int .i64 n) by rw [cell_heap hX0]; rfl)
  clear hX hX0
  have n0 : ¬ 9223372036854775807 < 4 + s1.size := by omega
  have n1 : ¬ 9223372036854775807 < 4 + s1.size + 1 := by omega
  have n2 : ¬ 9223372036854775807 < 4 + s1.size + 1 + s2.size := by omega
  go_enter Tryz.func25, Tryz.ntmps25
  go_wp2_with fail
  rw [← HX.out]
  refine wp_region_quiet_below (by kernel_rfl) (by kernel_rfl) ?_
  repeat (quiet_step (first | (go_at_call_of 48 (Value.int IntKind.i64 a); exact Q1.out _ _) | (go_at_call_of 48 (Value.int IntKind.i64 n); exact Q2.out _ _)))
  refine wpQuiet_nil ?_
  intro _ hw'
  obtain ⟨⟨dq, osq⟩, hw''⟩ := hw'
  have hx : Hid (Below X.heap.size X (grow (redrawn X dq) osq)) := below_regrown X dq osq
  rw [← hw''] at hx
  clear hw''
  go_wp2
  go_ret
  refine ⟨ret_str ?_, hXb.out.trans (hx.out.mono hXb.out.size)⟩
  apply str_eq
  simp only [list_append]
  rw [E1.out, E2.out, str_list, str_list]
  simp

set_option maxRecDepth 100000 in
set_option maxHeartbeats 4000000 in
theorem l2Text6 (a b n : Int) (fa : Fits a) (fb : Fits b) (fn : Fits n) (w : World) :
    Calls Tryz.prog 25 #[.agg #[.int .i64 6, .int .i64 a, .int .i64 b, .int .i64 n]] w fun e w' => e = .returned (.string (str ([108, 101, 115, 115] ++ (32 :: Lib.itoa a) ++ (32 :: Lib.itoa b) ++ (32 :: Lib.itoa n)))) ∧ Below w.heap.size w w' := by
  obtain ⟨s1, e1⟩ : ∃ s, s = str (Lib.itoa a) := ⟨_, rfl⟩
  have z1 : s1.size ≤ 21 := by rw [e1, str_size]; exact itoa_len a fa
  have E1 : Hid (s1 = str (Lib.itoa a)) := e1
  clear e1
  obtain ⟨s2, e2⟩ : ∃ s, s = str (Lib.itoa b) := ⟨_, rfl⟩
  have z2 : s2.size ≤ 21 := by rw [e2, str_size]; exact itoa_len b fb
  have E2 : Hid (s2 = str (Lib.itoa b)) := e2
  clear e2
  obtain ⟨s3, e3⟩ : ∃ s, s = str (Lib.itoa n) := ⟨_, rfl⟩
  have z3 : s3.size ≤ 21 := by rw [e3, str_size]; exact itoa_len n fn
  have E3 : Hid (s3 = str (Lib.itoa n)) := e3
  clear e3
  obtain ⟨X, hX⟩ : ∃ X, X = w.alloc (.cells #[.int .i64 6, .int .i64 a, .int .i64 b, .int .i64 n] 41) := ⟨_, rfl⟩
  have hX0 : X.heap[w.heap.size]? = some (.cells #[.int .i64 6, .int .i64 a, .int .i64 b, .int .i64 n] 41) := by rw [hX]; exact heap_new _ _
  have hXb : Hid (Below w.heap.size w X) := by show Below _ _ _; rw [hX]; exact (Below.refl _ _).alloc (Nat.le_refl _) _
  have HX : Hid (X = w.alloc (.cells #[.int .i64 6, .int .i64 a, .int .i64 b, .int .i64 n] 41)) := hX
  have Q1 : Hid (∀ d os, Calls Tryz.prog 48 #[.int .i64 a] (grow (redrawn X d) os) fun e w'' => e = .returned (.string s1) ∧ ∃ p : Regrown, w'' = grow (redrawn X p.d) p.os) := fun d os => Calls.regrown_of (by rw [E1.out]; exact l15Dec a _ fa.1 fa.2)
  have Q2 : Hid (∀ d os, Calls Tryz.prog 48 #[.int .i64 b] (grow (redrawn X d) os) fun e w'' => e = .returned (.string s2) ∧ ∃ p : Regrown, w'' = grow (redrawn X p.d) p.os) := fun d os => Calls.regrown_of (by rw [E2.out]; exact l15Dec b _ fb.1 fb.2)
  have Q3 : Hid (∀ d os, Calls Tryz.prog 48 #[.int .i64 n] (grow (redrawn X d) os) fun e w'' => e = .returned (.string s3) ∧ ∃ p : Regrown, w'' = grow (redrawn X p.d) p.os) := fun d os => Calls.regrown_of (by rw [E3.out]; exact l15Dec n _ fn.1 fn.2)
  have m1 := cell_regrown (show X.cell? ⟨w.heap.size, 1, none⟩ = some (.int .i64 a) by rw [cell_heap hX0]; rfl)
  have m2 := cell_regrown (show X.cell? ⟨w.heap.size, 2, none⟩ = some (.int .i64 b) by rw [cell_heap hX0]; rfl)
  have m3 := cell_regrown (show X.cell? ⟨w.heap.size, 3, none⟩ = some (.int .i64 n) by rw [cell_heap hX0]; rfl)
  clear hX hX0
  have n0 : ¬ 9223372036854775807 < 5 + s1.size := by omega
  have n1 : ¬ 9223372036854775807 < 5 + s1.size + 1 := by omega
  have n2 : ¬ 9223372036854775807 < 5 + s1.size + 1 + s2.size := by omega
  have n3 : ¬ 9223372036854775807 < 5 + s1.size + 1 + s2.size + 1 := by omega
  have n4 : ¬ 9223372036854775807 < 5 + s1.size + 1 + s2.size + 1 + s3.size := by omega
  go_enter Tryz.func25, Tryz.ntmps25
  go_wp2_with fail
  rw [← HX.out]
  refine wp_region_quiet_below (by kernel_rfl) (by kernel_rfl) ?_
  repeat (quiet_step (first | (go_at_call_of 48 (Value.int IntKind.i64 a); exact Q1.out _ _) | (go_at_call_of 48 (Value.int IntKind.i64 b); exact Q2.out _ _) | (go_at_call_of 48 (Value.int IntKind.i64 n); exact Q3.out _ _)))
  refine wpQuiet_nil ?_
  intro _ hw'
  obtain ⟨⟨dq, osq⟩, hw''⟩ := hw'
  have hx : Hid (Below X.heap.size X (grow (redrawn X dq) osq)) := below_regrown X dq osq
  rw [← hw''] at hx
  clear hw''
  go_wp2
  go_ret
  refine ⟨ret_str ?_, hXb.out.trans (hx.out.mono hXb.out.size)⟩
  apply str_eq
  simp only [list_append]
  rw [E1.out, E2.out, E3.out, str_list, str_list, str_list]
  simp

set_option maxHeartbeats 1000000 in
theorem l2Text7 (a b n : Int) (w : World) :
    Calls Tryz.prog 25 #[.agg #[.int .i64 7, .int .i64 a, .int .i64 b, .int .i64 n]] w fun e w' => e = .returned (.string (str [102, 97, 105, 108])) ∧ Below w.heap.size w w' := by
  go_enter Tryz.func25, Tryz.ntmps25
  go_wp2
  go_ret
  exact ⟨rfl, (Below.refl _ _).alloc (Nat.le_refl _) _⟩

set_option maxHeartbeats 1000000 in
theorem l2TextNo (k a b n : Int) (w : World) (h1 : (k == 1) = false) (h2 : (k == 2) = false) (h3 : (k == 3) = false) (h4 : (k == 4) = false) (h5 : (k == 5) = false) (h6 : (k == 6) = false) (h7 : (k == 7) = false) :
    Calls Tryz.prog 25 #[.agg #[.int .i64 k, .int .i64 a, .int .i64 b, .int .i64 n]] w fun e w' => e = .returned (.string (str [110, 111, 110, 101])) ∧ Below w.heap.size w w' := by
  go_enter Tryz.func25, Tryz.ntmps25
  go_wp2
  go_ret
  exact ⟨rfl, (Below.refl _ _).alloc (Nat.le_refl _) _⟩
end Go.Proofs.YtbcnmmofccackaaGreatDoor.Own

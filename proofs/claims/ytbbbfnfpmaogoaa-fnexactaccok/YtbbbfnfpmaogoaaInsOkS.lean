/-
  Own text: what spec.l2Reg, l2Box, l2Ins and ProgOk do.
-/
import Derived.Test.YtbbbfnfpmaogoaaProgOk2
namespace Go.Proofs.Ytbbbfnfpmaogoaa.Own
open Go.RowKit
set_option linter.unusedVariables false
set_option linter.unusedSimpArgs false

set_option maxHeartbeats 400000 in
theorem l2Reg (n : Int) (w : World) : Calls Try.prog 155 #[.int .i64 n] w fun e w' => e = .returned (.bool (regOk n)) ∧ w' = w := by
  have e : Hid (regOk n = (decide (0 ≤ n) && decide (n ≤ 3))) := rfl
  generalize regOk n = r at e ⊢
  by_cases h1 : 0 ≤ n
  · by_cases h2 : n < 4
    all_goals
      go_enter Try.func155, Try.ntmps155
      go_wp2
      go_ret
      exact ⟨ret_bool (by rw [e.out]; simp [h1]; omega), rfl⟩
  · have h1' : n < 0 := by omega
    go_enter Try.func155, Try.ntmps155
    go_wp2
    go_ret
    exact ⟨ret_bool (by rw [e.out]; simp; omega), rfl⟩

set_option maxHeartbeats 400000 in
theorem l2Box (n : Int) (w : World) : Calls Try.prog 145 #[.int .i64 n] w fun e w' => e = .returned (.bool (regOk n)) ∧ w' = w := by
  have e : Hid (regOk n = (decide (0 ≤ n) && decide (n ≤ 3))) := rfl
  generalize regOk n = r at e ⊢
  by_cases h1 : 0 ≤ n
  · by_cases h2 : n < 4
    all_goals
      go_enter Try.func145, Try.ntmps145
      go_wp2
      go_ret
      exact ⟨ret_bool (by rw [e.out]; simp [h1]; omega), rfl⟩
  · have h1' : n < 0 := by omega
    go_enter Try.func145, Try.ntmps145
    go_wp2
    go_ret
    exact ⟨ret_bool (by rw [e.out]; simp; omega), rfl⟩

set_option maxHeartbeats 400000 in
theorem l1Num2 (n : Int) (w : World) : Calls Try.prog 144 #[.int .i64 n] w fun e w' => e = .returned (.bool (numOk2 n)) ∧ w' = w := by
  have e : Hid (numOk2 n = (decide (-1000000 ≤ n) && decide (n ≤ 1000000))) := rfl
  generalize numOk2 n = r at e ⊢
  by_cases h1 : -1000000 ≤ n
  · by_cases h2 : n ≤ 1000000
    all_goals
      go_enter Try.func144, Try.ntmps144
      go_wp2
      go_ret
      exact ⟨ret_bool (by rw [e.out]; simp [h1, h2]), rfl⟩
  · have h1' : n < -1000000 := by omega
    go_enter Try.func144, Try.ntmps144
    go_wp2
    go_ret
    exact ⟨ret_bool (by rw [e.out]; simp; omega), rfl⟩

set_option maxRecDepth 100000 in
set_option maxHeartbeats 2000000 in
theorem l2Ins1 (a b n : Int) (w : World) : Calls Try.prog 152 #[.agg #[.int .i64 1, .int .i64 a, .int .i64 b, .int .i64 n]] w fun e w' => e = .returned (.bool (regOk a && regOk b && (n == 0))) ∧ Below w.heap.size w w' := by
  cases ha : regOk a with
  | false =>
    go_enter Try.func152, Try.ntmps152
    go_wp2_with (first | (go_at_call 155; refine (l2Reg _ _).mono ?_; rintro e w' ⟨rfl, rfl⟩) | (go_at_call 145; refine (l2Box _ _).mono ?_; rintro e w' ⟨rfl, rfl⟩) | (go_at_call 144; refine (l1Num2 _ _).mono ?_; rintro e w' ⟨rfl, rfl⟩))
    go_ret
    exact ⟨ret_bool (by simp), (Below.refl _ _).alloc (Nat.le_refl _) _⟩
  | true =>
    cases hb : regOk b with
    | false =>
      go_enter Try.func152, Try.ntmps152
      go_wp2_with (first | (go_at_call 155; refine (l2Reg _ _).mono ?_; rintro e w' ⟨rfl, rfl⟩) | (go_at_call 145; refine (l2Box _ _).mono ?_; rintro e w' ⟨rfl, rfl⟩) | (go_at_call 144; refine (l1Num2 _ _).mono ?_; rintro e w' ⟨rfl, rfl⟩))
      go_ret
      exact ⟨ret_bool (by simp), (Below.refl _ _).alloc (Nat.le_refl _) _⟩
    | true =>
      cases hn : (n == 0) with
      | false =>
        go_enter Try.func152, Try.ntmps152
        go_wp2_with (first | (go_at_call 155; refine (l2Reg _ _).mono ?_; rintro e w' ⟨rfl, rfl⟩) | (go_at_call 145; refine (l2Box _ _).mono ?_; rintro e w' ⟨rfl, rfl⟩) | (go_at_call 144; refine (l1Num2 _ _).mono ?_; rintro e w' ⟨rfl, rfl⟩))
        go_ret
        exact ⟨ret_bool (by simp), (Below.refl _ _).alloc (Nat.le_refl _) _⟩
      | true =>
        go_enter Try.func152, Try.ntmps152
        go_wp2_with (first | (go_at_call 155; refine (l2Reg _ _).mono ?_; rintro e w' ⟨rfl, rfl⟩) | (go_at_call 145; refine (l2Box _ _).mono ?_; rintro e w' ⟨rfl, rfl⟩) | (go_at_call 144; refine (l1Num2 _ _).mono ?_; rintro e w' ⟨rfl, rfl⟩))
        go_ret
        exact ⟨ret_bool (by simp), (Below.refl _ _).alloc (Nat.le_refl _) _⟩

set_option maxRecDepth 100000 in
set_option maxHeartbeats 2000000 in
theorem l2Ins2 (a b n : Int) (w : World) : Calls Try.prog 152 #[.agg #[.int .i64 2, .int .i64 a, .int .i64 b, .int .i64 n]] w fun e w' => e = .returned (.bool (regOk a && regOk b && (n == 0))) ∧ Below w.heap.size w w' := by
  cases ha : regOk a with
  | false =>
    go_enter Try.func152, Try.ntmps152
    go_wp2_with (first | (go_at_call 155; refine (l2Reg _ _).mono ?_; rintro e w' ⟨rfl, rfl⟩) | (go_at_call 145; refine (l2Box _ _).mono ?_; rintro e w' ⟨rfl, rfl⟩) | (go_at_call 144; refine (l1Num2 _ _).mono ?_; rintro e w' ⟨rfl, rfl⟩))
    go_ret
    exact ⟨ret_bool (by simp), (Below.refl _ _).alloc (Nat.le_refl _) _⟩
  | true =>
    cases hb : regOk b with
    | false =>
      go_enter Try.func152, Try.ntmps152
      go_wp2_with (first | (go_at_call 155; refine (l2Reg _ _).mono ?_; rintro e w' ⟨rfl, rfl⟩) | (go_at_call 145; refine (l2Box _ _).mono ?_; rintro e w' ⟨rfl, rfl⟩) | (go_at_call 144; refine (l1Num2 _ _).mono ?_; rintro e w' ⟨rfl, rfl⟩))
      go_ret
      exact ⟨ret_bool (by simp), (Below.refl _ _).alloc (Nat.le_refl _) _⟩
    | true =>
      cases hn : (n == 0) with
      | false =>
        go_enter Try.func152, Try.ntmps152
        go_wp2_with (first | (go_at_call 155; refine (l2Reg _ _).mono ?_; rintro e w' ⟨rfl, rfl⟩) | (go_at_call 145; refine (l2Box _ _).mono ?_; rintro e w' ⟨rfl, rfl⟩) | (go_at_call 144; refine (l1Num2 _ _).mono ?_; rintro e w' ⟨rfl, rfl⟩))
        go_ret
        exact ⟨ret_bool (by simp), (Below.refl _ _).alloc (Nat.le_refl _) _⟩
      | true =>
        go_enter Try.func152, Try.ntmps152
        go_wp2_with (first | (go_at_call 155; refine (l2Reg _ _).mono ?_; rintro e w' ⟨rfl, rfl⟩) | (go_at_call 145; refine (l2Box _ _).mono ?_; rintro e w' ⟨rfl, rfl⟩) | (go_at_call 144; refine (l1Num2 _ _).mono ?_; rintro e w' ⟨rfl, rfl⟩))
        go_ret
        exact ⟨ret_bool (by simp), (Below.refl _ _).alloc (Nat.le_refl _) _⟩

set_option maxRecDepth 100000 in
set_option maxHeartbeats 2000000 in
theorem l2Ins3 (a b n : Int) (w : World) : Calls Try.prog 152 #[.agg #[.int .i64 3, .int .i64 a, .int .i64 b, .int .i64 n]] w fun e w' => e = .returned (.bool (regOk a && (b == 0) && numOk2 n)) ∧ Below w.heap.size w w' := by
  cases ha : regOk a with
  | false =>
    go_enter Try.func152, Try.ntmps152
    go_wp2_with (first | (go_at_call 155; refine (l2Reg _ _).mono ?_; rintro e w' ⟨rfl, rfl⟩) | (go_at_call 145; refine (l2Box _ _).mono ?_; rintro e w' ⟨rfl, rfl⟩) | (go_at_call 144; refine (l1Num2 _ _).mono ?_; rintro e w' ⟨rfl, rfl⟩))
    go_ret
    exact ⟨ret_bool (by simp), (Below.refl _ _).alloc (Nat.le_refl _) _⟩
  | true =>
    cases hb : (b == 0) with
    | false =>
      go_enter Try.func152, Try.ntmps152
      go_wp2_with (first | (go_at_call 155; refine (l2Reg _ _).mono ?_; rintro e w' ⟨rfl, rfl⟩) | (go_at_call 145; refine (l2Box _ _).mono ?_; rintro e w' ⟨rfl, rfl⟩) | (go_at_call 144; refine (l1Num2 _ _).mono ?_; rintro e w' ⟨rfl, rfl⟩))
      go_ret
      exact ⟨ret_bool (by simp), (Below.refl _ _).alloc (Nat.le_refl _) _⟩
    | true =>
      cases hn : numOk2 n with
      | false =>
        go_enter Try.func152, Try.ntmps152
        go_wp2_with (first | (go_at_call 155; refine (l2Reg _ _).mono ?_; rintro e w' ⟨rfl, rfl⟩) | (go_at_call 145; refine (l2Box _ _).mono ?_; rintro e w' ⟨rfl, rfl⟩) | (go_at_call 144; refine (l1Num2 _ _).mono ?_; rintro e w' ⟨rfl, rfl⟩))
        go_ret
        exact ⟨ret_bool (by simp), (Below.refl _ _).alloc (Nat.le_refl _) _⟩
      | true =>
        go_enter Try.func152, Try.ntmps152
        go_wp2_with (first | (go_at_call 155; refine (l2Reg _ _).mono ?_; rintro e w' ⟨rfl, rfl⟩) | (go_at_call 145; refine (l2Box _ _).mono ?_; rintro e w' ⟨rfl, rfl⟩) | (go_at_call 144; refine (l1Num2 _ _).mono ?_; rintro e w' ⟨rfl, rfl⟩))
        go_ret
        exact ⟨ret_bool (by simp), (Below.refl _ _).alloc (Nat.le_refl _) _⟩

set_option maxRecDepth 100000 in
set_option maxHeartbeats 2000000 in
theorem l2Ins4 (a b n : Int) (w : World) : Calls Try.prog 152 #[.agg #[.int .i64 4, .int .i64 a, .int .i64 b, .int .i64 n]] w fun e w' => e = .returned (.bool (regOk a && regOk b && (n == 0))) ∧ Below w.heap.size w w' := by
  cases ha : regOk a with
  | false =>
    go_enter Try.func152, Try.ntmps152
    go_wp2_with (first | (go_at_call 155; refine (l2Reg _ _).mono ?_; rintro e w' ⟨rfl, rfl⟩) | (go_at_call 145; refine (l2Box _ _).mono ?_; rintro e w' ⟨rfl, rfl⟩) | (go_at_call 144; refine (l1Num2 _ _).mono ?_; rintro e w' ⟨rfl, rfl⟩))
    go_ret
    exact ⟨ret_bool (by simp), (Below.refl _ _).alloc (Nat.le_refl _) _⟩
  | true =>
    cases hb : regOk b with
    | false =>
      go_enter Try.func152, Try.ntmps152
      go_wp2_with (first | (go_at_call 155; refine (l2Reg _ _).mono ?_; rintro e w' ⟨rfl, rfl⟩) | (go_at_call 145; refine (l2Box _ _).mono ?_; rintro e w' ⟨rfl, rfl⟩) | (go_at_call 144; refine (l1Num2 _ _).mono ?_; rintro e w' ⟨rfl, rfl⟩))
      go_ret
      exact ⟨ret_bool (by simp), (Below.refl _ _).alloc (Nat.le_refl _) _⟩
    | true =>
      cases hn : (n == 0) with
      | false =>
        go_enter Try.func152, Try.ntmps152
        go_wp2_with (first | (go_at_call 155; refine (l2Reg _ _).mono ?_; rintro e w' ⟨rfl, rfl⟩) | (go_at_call 145; refine (l2Box _ _).mono ?_; rintro e w' ⟨rfl, rfl⟩) | (go_at_call 144; refine (l1Num2 _ _).mono ?_; rintro e w' ⟨rfl, rfl⟩))
        go_ret
        exact ⟨ret_bool (by simp), (Below.refl _ _).alloc (Nat.le_refl _) _⟩
      | true =>
        go_enter Try.func152, Try.ntmps152
        go_wp2_with (first | (go_at_call 155; refine (l2Reg _ _).mono ?_; rintro e w' ⟨rfl, rfl⟩) | (go_at_call 145; refine (l2Box _ _).mono ?_; rintro e w' ⟨rfl, rfl⟩) | (go_at_call 144; refine (l1Num2 _ _).mono ?_; rintro e w' ⟨rfl, rfl⟩))
        go_ret
        exact ⟨ret_bool (by simp), (Below.refl _ _).alloc (Nat.le_refl _) _⟩

set_option maxRecDepth 100000 in
set_option maxHeartbeats 2000000 in
theorem l2Ins5 (a b n : Int) (w : World) : Calls Try.prog 152 #[.agg #[.int .i64 5, .int .i64 a, .int .i64 b, .int .i64 n]] w fun e w' => e = .returned (.bool (regOk a && regOk b && (n == 0))) ∧ Below w.heap.size w w' := by
  cases ha : regOk a with
  | false =>
    go_enter Try.func152, Try.ntmps152
    go_wp2_with (first | (go_at_call 155; refine (l2Reg _ _).mono ?_; rintro e w' ⟨rfl, rfl⟩) | (go_at_call 145; refine (l2Box _ _).mono ?_; rintro e w' ⟨rfl, rfl⟩) | (go_at_call 144; refine (l1Num2 _ _).mono ?_; rintro e w' ⟨rfl, rfl⟩))
    go_ret
    exact ⟨ret_bool (by simp), (Below.refl _ _).alloc (Nat.le_refl _) _⟩
  | true =>
    cases hb : regOk b with
    | false =>
      go_enter Try.func152, Try.ntmps152
      go_wp2_with (first | (go_at_call 155; refine (l2Reg _ _).mono ?_; rintro e w' ⟨rfl, rfl⟩) | (go_at_call 145; refine (l2Box _ _).mono ?_; rintro e w' ⟨rfl, rfl⟩) | (go_at_call 144; refine (l1Num2 _ _).mono ?_; rintro e w' ⟨rfl, rfl⟩))
      go_ret
      exact ⟨ret_bool (by simp), (Below.refl _ _).alloc (Nat.le_refl _) _⟩
    | true =>
      cases hn : (n == 0) with
      | false =>
        go_enter Try.func152, Try.ntmps152
        go_wp2_with (first | (go_at_call 155; refine (l2Reg _ _).mono ?_; rintro e w' ⟨rfl, rfl⟩) | (go_at_call 145; refine (l2Box _ _).mono ?_; rintro e w' ⟨rfl, rfl⟩) | (go_at_call 144; refine (l1Num2 _ _).mono ?_; rintro e w' ⟨rfl, rfl⟩))
        go_ret
        exact ⟨ret_bool (by simp), (Below.refl _ _).alloc (Nat.le_refl _) _⟩
      | true =>
        go_enter Try.func152, Try.ntmps152
        go_wp2_with (first | (go_at_call 155; refine (l2Reg _ _).mono ?_; rintro e w' ⟨rfl, rfl⟩) | (go_at_call 145; refine (l2Box _ _).mono ?_; rintro e w' ⟨rfl, rfl⟩) | (go_at_call 144; refine (l1Num2 _ _).mono ?_; rintro e w' ⟨rfl, rfl⟩))
        go_ret
        exact ⟨ret_bool (by simp), (Below.refl _ _).alloc (Nat.le_refl _) _⟩

set_option maxRecDepth 100000 in
set_option maxHeartbeats 2000000 in
theorem l2Ins7 (a b n : Int) (w : World) : Calls Try.prog 152 #[.agg #[.int .i64 7, .int .i64 a, .int .i64 b, .int .i64 n]] w fun e w' => e = .returned (.bool ((a == 0) && (b == 0) && (n == 0))) ∧ Below w.heap.size w w' := by
  cases ha : (a == 0) with
  | false =>
    go_enter Try.func152, Try.ntmps152
    go_wp2_with (first | (go_at_call 155; refine (l2Reg _ _).mono ?_; rintro e w' ⟨rfl, rfl⟩) | (go_at_call 145; refine (l2Box _ _).mono ?_; rintro e w' ⟨rfl, rfl⟩) | (go_at_call 144; refine (l1Num2 _ _).mono ?_; rintro e w' ⟨rfl, rfl⟩))
    go_ret
    exact ⟨ret_bool (by simp), (Below.refl _ _).alloc (Nat.le_refl _) _⟩
  | true =>
    cases hb : (b == 0) with
    | false =>
      go_enter Try.func152, Try.ntmps152
      go_wp2_with (first | (go_at_call 155; refine (l2Reg _ _).mono ?_; rintro e w' ⟨rfl, rfl⟩) | (go_at_call 145; refine (l2Box _ _).mono ?_; rintro e w' ⟨rfl, rfl⟩) | (go_at_call 144; refine (l1Num2 _ _).mono ?_; rintro e w' ⟨rfl, rfl⟩))
      go_ret
      exact ⟨ret_bool (by simp), (Below.refl _ _).alloc (Nat.le_refl _) _⟩
    | true =>
      cases hn : (n == 0) with
      | false =>
        go_enter Try.func152, Try.ntmps152
        go_wp2_with (first | (go_at_call 155; refine (l2Reg _ _).mono ?_; rintro e w' ⟨rfl, rfl⟩) | (go_at_call 145; refine (l2Box _ _).mono ?_; rintro e w' ⟨rfl, rfl⟩) | (go_at_call 144; refine (l1Num2 _ _).mono ?_; rintro e w' ⟨rfl, rfl⟩))
        go_ret
        exact ⟨ret_bool (by simp), (Below.refl _ _).alloc (Nat.le_refl _) _⟩
      | true =>
        go_enter Try.func152, Try.ntmps152
        go_wp2_with (first | (go_at_call 155; refine (l2Reg _ _).mono ?_; rintro e w' ⟨rfl, rfl⟩) | (go_at_call 145; refine (l2Box _ _).mono ?_; rintro e w' ⟨rfl, rfl⟩) | (go_at_call 144; refine (l1Num2 _ _).mono ?_; rintro e w' ⟨rfl, rfl⟩))
        go_ret
        exact ⟨ret_bool (by simp), (Below.refl _ _).alloc (Nat.le_refl _) _⟩

set_option maxRecDepth 100000 in
set_option maxHeartbeats 2000000 in
theorem l2Ins6 (a b n : Int) (w : World) : Calls Try.prog 152 #[.agg #[.int .i64 6, .int .i64 a, .int .i64 b, .int .i64 n]] w fun e w' => e = .returned (.bool (regOk a && regOk b && lessOk n)) ∧ Below w.heap.size w w' := by
  cases ha : regOk a with
  | false =>
    go_enter Try.func152, Try.ntmps152
    go_wp2_with (first | (go_at_call 155; refine (l2Reg _ _).mono ?_; rintro e w' ⟨rfl, rfl⟩) | (go_at_call 145; refine (l2Box _ _).mono ?_; rintro e w' ⟨rfl, rfl⟩) | (go_at_call 144; refine (l1Num2 _ _).mono ?_; rintro e w' ⟨rfl, rfl⟩))
    go_ret
    exact ⟨ret_bool (by simp), (Below.refl _ _).alloc (Nat.le_refl _) _⟩
  | true =>
    cases hb : regOk b with
    | false =>
      go_enter Try.func152, Try.ntmps152
      go_wp2_with (first | (go_at_call 155; refine (l2Reg _ _).mono ?_; rintro e w' ⟨rfl, rfl⟩) | (go_at_call 145; refine (l2Box _ _).mono ?_; rintro e w' ⟨rfl, rfl⟩) | (go_at_call 144; refine (l1Num2 _ _).mono ?_; rintro e w' ⟨rfl, rfl⟩))
      go_ret
      exact ⟨ret_bool (by simp), (Below.refl _ _).alloc (Nat.le_refl _) _⟩
    | true =>
      have e : Hid (lessOk n = (decide (1 ≤ n) && decide (n ≤ 10))) := rfl
      generalize lessOk n = r at e ⊢
      by_cases h1 : 1 ≤ n
      · by_cases h2 : n ≤ 10
        all_goals
          go_enter Try.func152, Try.ntmps152
          go_wp2_with (first | (go_at_call 155; refine (l2Reg _ _).mono ?_; rintro e w' ⟨rfl, rfl⟩) | (go_at_call 145; refine (l2Box _ _).mono ?_; rintro e w' ⟨rfl, rfl⟩) | (go_at_call 144; refine (l1Num2 _ _).mono ?_; rintro e w' ⟨rfl, rfl⟩))
          go_ret
          exact ⟨ret_bool (by rw [e.out]; simp [h1, h2]), (Below.refl _ _).alloc (Nat.le_refl _) _⟩
      · have h1' : n < 1 := by omega
        have h1'' : decide (1 ≤ n) = false := by simpa using h1
        go_enter Try.func152, Try.ntmps152
        go_wp2_with (first | (go_at_call 155; refine (l2Reg _ _).mono ?_; rintro e w' ⟨rfl, rfl⟩) | (go_at_call 145; refine (l2Box _ _).mono ?_; rintro e w' ⟨rfl, rfl⟩) | (go_at_call 144; refine (l1Num2 _ _).mono ?_; rintro e w' ⟨rfl, rfl⟩))
        go_ret
        exact ⟨ret_bool (by rw [e.out, h1'']; rfl), (Below.refl _ _).alloc (Nat.le_refl _) _⟩

/-- A kind that there is not. -/
def NoKindS (k : Int) : Prop := (k == 1) = false ∧ (k == 2) = false ∧ (k == 3) = false ∧ (k == 4) = false ∧ (k == 5) = false ∧ (k == 6) = false ∧ (k == 7) = false
theorem noKindS_of {k : Int} (h1 : k ≠ 1) (h2 : k ≠ 2) (h3 : k ≠ 3) (h4 : k ≠ 4) (h5 : k ≠ 5) (h6 : k ≠ 6) (h7 : k ≠ 7) : NoKindS k := by
  simp [NoKindS, h1, h2, h3, h4, h5, h6, h7]

set_option maxRecDepth 100000 in
set_option maxHeartbeats 2000000 in
theorem l2InsNo (k a b n : Int) (w : World) (h : NoKindS k) : Calls Try.prog 152 #[.agg #[.int .i64 k, .int .i64 a, .int .i64 b, .int .i64 n]] w fun e w' => e = .returned (.bool false) ∧ Below w.heap.size w w' := by
  obtain ⟨h1, h2, h3, h4, h5, h6, h7⟩ := h
  go_enter Try.func152, Try.ntmps152
  go_wp2
  go_ret
  exact ⟨rfl, (Below.refl _ _).alloc (Nat.le_refl _) _⟩

theorem l2Ins (p : Q4) (w : World) : Calls Try.prog 152 #[.agg #[.int .i64 p.1, .int .i64 p.2.1, .int .i64 p.2.2.1, .int .i64 p.2.2.2]] w fun e w' => e = .returned (.bool (insOk p)) ∧ Below w.heap.size w w' := by
  obtain ⟨k, a, b, n⟩ := p
  by_cases h1 : k = 1
  · subst h1; rw [insOk_1]; exact l2Ins1 a b n w
  by_cases h2 : k = 2
  · subst h2; rw [insOk_2]; exact l2Ins2 a b n w
  by_cases h3 : k = 3
  · subst h3; rw [insOk_3]; exact l2Ins3 a b n w
  by_cases h4 : k = 4
  · subst h4; rw [insOk_4]; exact l2Ins4 a b n w
  by_cases h5 : k = 5
  · subst h5; rw [insOk_5]; exact l2Ins5 a b n w
  by_cases h6 : k = 6
  · subst h6; rw [insOk_6]; exact l2Ins6 a b n w
  by_cases h7 : k = 7
  · subst h7; rw [insOk_7]; exact l2Ins7 a b n w
  · rw [insOk_no a b n ⟨h1, h2, h3, h4, h5, h6, h7⟩]
    exact l2InsNo k a b n w (noKindS_of h1 h2 h3 h4 h5 h6 h7)
end Go.Proofs.Ytbbbfnfpmaogoaa.Own

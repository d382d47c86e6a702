/-
  Own text: whose a ballot is, both sides.
-/
import Derived.Test.YtmcpefikmcaemaaBase
namespace Go.Proofs.Ytmcpefikmcaemaa.Own
open Go.RowKit
set_option linter.unusedVariables false

/-- A ballot is 1 to 3000. -/
def isBal (n : Int) : Bool := decide (1 ≤ n) && decide (n ≤ 3000)
theorem isBal_iff {n : Int} : isBal n = true ↔ 1 ≤ n ∧ n ≤ 3000 := by simp [isBal]
theorem isBal_not {n : Int} : isBal n = false ↔ (n < 1 ∨ 3000 < n) := by
  rw [← Bool.not_eq_true, isBal_iff]; omega
/-- Whose a ballot is. -/
def ownerOf (n : Int) : Int := if isBal n then n % 3 else -1

set_option maxRecDepth 100000 in
set_option maxHeartbeats 1000000 in
theorem implIsBallot (n : Int) (w : World) : Calls Try.prog 85 #[.int .i64 n] w fun e w' => e = .returned (.bool (isBal n)) ∧ w' = w := by
  by_cases h1 : 1 ≤ n
  · by_cases h2 : n ≤ 3000
    · have e : isBal n = true := isBal_iff.2 ⟨h1, h2⟩
      rw [e]
      go_enter Try.func85, Try.ntmps85
      go_wp2
      go_ret
      first | exact ⟨rfl, rfl⟩ | (refine ⟨?_, rfl⟩; simp [h1, h2])
    · have e : isBal n = false := isBal_not.2 (by omega)
      rw [e]
      go_enter Try.func85, Try.ntmps85
      go_wp2
      go_ret
      first | exact ⟨rfl, rfl⟩ | (refine ⟨?_, rfl⟩; simp [h1, h2])
  · have e : isBal n = false := isBal_not.2 (by omega)
    rw [e]
    go_enter Try.func85, Try.ntmps85
    go_wp2
    go_ret
    first | exact ⟨rfl, rfl⟩ | (refine ⟨?_, rfl⟩; simp [h1])

set_option maxRecDepth 100000 in
set_option maxHeartbeats 1000000 in
theorem specBal (n : Int) (w : World) : Calls Try.prog 58 #[.int .i64 n] w fun e w' => e = .returned (.bool (isBal n)) ∧ w' = w := by
  by_cases h1 : 1 ≤ n
  · by_cases h2 : n ≤ 3000
    · have e : isBal n = true := isBal_iff.2 ⟨h1, h2⟩
      rw [e]
      go_enter Try.func58, Try.ntmps58
      go_wp2
      go_ret
      first | exact ⟨rfl, rfl⟩ | (refine ⟨?_, rfl⟩; simp [h1, h2])
    · have e : isBal n = false := isBal_not.2 (by omega)
      rw [e]
      go_enter Try.func58, Try.ntmps58
      go_wp2
      go_ret
      first | exact ⟨rfl, rfl⟩ | (refine ⟨?_, rfl⟩; simp [h1, h2])
  · have e : isBal n = false := isBal_not.2 (by omega)
    rw [e]
    go_enter Try.func58, Try.ntmps58
    go_wp2
    go_ret
    first | exact ⟨rfl, rfl⟩ | (refine ⟨?_, rfl⟩; simp [h1])

set_option maxRecDepth 100000 in
set_option maxHeartbeats 1000000 in
theorem implOwner (n : Int) (w : World) : Calls Try.prog 34 #[.int .i64 n] w fun e w' => e = .returned (.int .i64 (ownerOf n)) ∧ w' = w := by
  cases hb : isBal n with
  | true =>
    have h := isBal_iff.1 hb
    have e : ownerOf n = n % 3 := by unfold ownerOf; rw [if_pos hb]
    have B : Hid (Calls Try.prog 85 #[.int .i64 n] w fun e w' => e = .returned (.bool true) ∧ w' = w) := hb ▸ implIsBallot n w
    rw [e]
    have ht : n.tmod 3 = n % 3 := Int.tmod_eq_emod_of_nonneg (by omega)
    clear hb e
    go_enter Try.func34, Try.ntmps34
    go_wp2_with fail
    refine Calls.mono B.out ?_
    rintro e w1 ⟨rfl, rfl⟩
    go_wp2_with fail
    go_ret
    exact ⟨ret_int (by first | exact ht | rfl), rfl⟩
  | false =>
    have e : ownerOf n = -1 := by unfold ownerOf; rw [if_neg (by rw [hb]; decide)]
    have B : Hid (Calls Try.prog 85 #[.int .i64 n] w fun e w' => e = .returned (.bool false) ∧ w' = w) := hb ▸ implIsBallot n w
    rw [e]
    clear hb e
    go_enter Try.func34, Try.ntmps34
    go_wp2_with fail
    refine Calls.mono B.out ?_
    rintro e w1 ⟨rfl, rfl⟩
    go_wp2_with fail
    go_ret
    exact ⟨rfl, rfl⟩

set_option maxRecDepth 100000 in
set_option maxHeartbeats 1000000 in
theorem specOwner (n : Int) (w : World) : Calls Try.prog 39 #[.int .i64 n] w fun e w' => e = .returned (.int .i64 (ownerOf n)) ∧ w' = w := by
  cases hb : isBal n with
  | true =>
    have h := isBal_iff.1 hb
    have e : ownerOf n = n % 3 := by unfold ownerOf; rw [if_pos hb]
    have B : Hid (Calls Try.prog 58 #[.int .i64 n] w fun e w' => e = .returned (.bool true) ∧ w' = w) := hb ▸ specBal n w
    rw [e]
    have ht : n.tmod 3 = n % 3 := Int.tmod_eq_emod_of_nonneg (by omega)
    clear hb e
    go_enter Try.func39, Try.ntmps39
    go_wp2_with fail
    refine Calls.mono B.out ?_
    rintro e w1 ⟨rfl, rfl⟩
    go_wp2_with fail
    go_ret
    exact ⟨ret_int (by first | exact ht | rfl), rfl⟩
  | false =>
    have e : ownerOf n = -1 := by unfold ownerOf; rw [if_neg (by rw [hb]; decide)]
    have B : Hid (Calls Try.prog 58 #[.int .i64 n] w fun e w' => e = .returned (.bool false) ∧ w' = w) := hb ▸ specBal n w
    rw [e]
    clear hb e
    go_enter Try.func39, Try.ntmps39
    go_wp2_with fail
    refine Calls.mono B.out ?_
    rintro e w1 ⟨rfl, rfl⟩
    go_wp2_with fail
    go_ret
    exact ⟨rfl, rfl⟩
end Go.Proofs.Ytmcpefikmcaemaa.Own

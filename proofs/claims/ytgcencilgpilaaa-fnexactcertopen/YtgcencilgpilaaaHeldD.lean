/-
  Own text: what laws.heldDoneS does.
-/
import Derived.Test.YtgcencilgpilaaaBase4
namespace Go.Proofs.Ytgcencilgpilaaa.Own
open Go.RowKit

set_option maxHeartbeats 1000000 in
theorem heldDoneS (b off n c : Nat) (k : Int) (w : World) (hn : n ≤ 2 ^ 40) (hk0 : 0 ≤ k) (hk : k ≤ 2 ^ 40) (hat : At4 w b off (marks4 k n)) :
    Calls Try.prog 102 #[.slice (some ⟨b, off, none⟩) n c, .int .i64 k] w fun e w' => e = .returned (.int .i64 (k + 4 * n)) ∧ w' = w := by
  have HA : Hid (At4 w b off (marks4 k n)) := hat
  clear hat
  go_enter Try.func102, Try.ntmps102
  go_wp2
  go_loop [1, 5] (fun q i => ∃ j : Nat, j ≤ n ∧ i = .int .i64 j ∧ q = .int .i64 (k + 4 * j)) (fun _ i => n - (intOf i).toNat)
  case atStart => exact ⟨0, Nat.zero_le _, rfl, by simp⟩
  case round =>
    obtain ⟨j, hj, rfl, rfl⟩ := hrel
    by_cases hlt : j < n
    · obtain ⟨c1, c2, c3, c4⟩ := HA.out.2 j (by rw [marks4_length]; exact hlt)
      rw [marks4_getD _ _ _ hlt] at c1 c2 c3 c4
      go_wp2
      go_round
      case rel => exact ⟨j + 1, by omega, by go_num, by go_num⟩
      case measure => simp [intOf]; omega
    · go_wp2
      go_ret
      have : j = n := by omega
      subst this
      exact ⟨rfl, rfl⟩

theorem heldDoneS0 (a : Option Addr) (c : Nat) (k : Int) (w : World) :
    Calls Try.prog 102 #[.slice a 0 c, .int .i64 k] w fun e w' => e = .returned (.int .i64 k) ∧ w' = w := by
  go_enter Try.func102, Try.ntmps102
  go_wp2
  go_loop [1, 5] (fun q i => i = .int .i64 0 ∧ q = .int .i64 k) (fun _ i => 0)
  case atStart => exact ⟨rfl, rfl⟩
  case round =>
    obtain ⟨rfl, rfl⟩ := hrel
    go_wp2
    go_ret
    exact ⟨rfl, rfl⟩
end Go.Proofs.Ytgcencilgpilaaa.Own

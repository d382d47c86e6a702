/-
  Own text: no votes mark and hold nothing; a list of one's own, empty or not.
-/
import Derived.Test.YtfifiobcmdmefaaHeldVoteS
import Derived.Test.YtfifiobcmdmefaaOwnL
namespace Go.Proofs.Ytfifiobcmdmefaa.Own
open Go.RowKit
set_option linter.unusedVariables false
set_option linter.unusedSimpArgs false

set_option maxHeartbeats 1000000 in
theorem markVoteS0 (a : Option Addr) (c : Nat) (k : Int) (w : World) :
    Calls Try.prog 112 #[.slice a 0 c, .int .i64 k] w fun e w' => e = .returned (.int .i64 k) ∧ w' = w := by
  go_enter Try.func112, Try.ntmps112
  go_wp2
  go_loop [1, 5] (fun q i => i = .int .i64 0 ∧ q = .int .i64 k) (fun _ _ => 0)
  case atStart => exact ⟨rfl, rfl⟩
  case round =>
    obtain ⟨rfl, rfl⟩ := hrel
    go_wp2
    go_ret
    exact ⟨rfl, rfl⟩
set_option maxHeartbeats 1000000 in
theorem heldVoteS0 (a : Option Addr) (c : Nat) (k : Int) (w : World) :
    Calls Try.prog 115 #[.slice a 0 c, .int .i64 k] w fun e w' => e = .returned (.int .i64 k) ∧ w' = w := by
  go_enter Try.func115, Try.ntmps115
  go_wp2
  go_loop [1, 5] (fun q i => i = .int .i64 0 ∧ q = .int .i64 k) (fun _ _ => 0)
  case atStart => exact ⟨rfl, rfl⟩
  case round =>
    obtain ⟨rfl, rfl⟩ := hrel
    go_wp2
    go_ret
    exact ⟨rfl, rfl⟩

/-- The marks of a list that appends made, whatever its length. -/
theorem markOwnL (v : Value) (B : Nat) (vs : List VM) (k0 : Int) (w : World) (h : OwnL w B v vs) (hn : vs.length ≤ 2 ^ 30) (hk0 : 0 ≤ k0) (hk1 : k0 ≤ 2 ^ 30) (hs : stepsV vs vs.length ≤ 2 ^ 30) :
    Calls Try.prog 112 #[v, .int .i64 k0] w fun e w' => e = .returned (.int .i64 (k0 + (stepsV vs vs.length : Nat))) ∧ (vs ≠ [] → ∃ g cap, v = .slice (some ⟨g, 0, none⟩) vs.length cap ∧ B ≤ g ∧ OwnVs w' B g (mixV k0 vs vs.length) ∧ ManyV g vs w w' ∧ Sep g vs) ∧ (vs = [] → w' = w) := by
  by_cases h0 : vs = []
  · subst h0
    obtain ⟨_, hr⟩ := h.row
    rcases hr with ⟨hv, _⟩ | ⟨g, cap, cur, hv, _⟩
    · rw [hv]
      refine (markVoteS0 none 0 k0 w).mono ?_
      rintro e w' ⟨rfl, rfl⟩
      exact ⟨by simp [stepsV], fun h => absurd rfl h, fun _ => rfl⟩
    · rw [hv]
      refine (markVoteS0 (some ⟨g, 0, none⟩) cap k0 w).mono ?_
      rintro e w' ⟨rfl, rfl⟩
      exact ⟨by simp [stepsV], fun h => absurd rfl h, fun _ => rfl⟩
  · obtain ⟨g, cap, hv, hcap, ho, hsep⟩ := h.vs h0
    rw [hv]
    refine (markVoteS g cap B vs k0 w ho hsep hn hk0 hk1 hs).mono ?_
    rintro e w' ⟨rfl, h1, h2⟩
    exact ⟨rfl, fun _ => ⟨g, cap, rfl, ho.lo, h1, h2, hsep⟩, fun h => absurd h h0⟩
/-- And what is held of them. -/
theorem heldOwnL (v : Value) (B : Nat) (vs : List VM) (k0 : Int) (w : World) (hv0 : vs = [] → ∃ a c, v = .slice a 0 c) (hv1 : vs ≠ [] → ∃ g cap, v = .slice (some ⟨g, 0, none⟩) vs.length cap ∧ OwnVs w B g (mixV k0 vs vs.length)) (hn : vs.length ≤ 2 ^ 30) (hk0 : 0 ≤ k0) (hk1 : k0 ≤ 2 ^ 30) (hs : stepsV vs vs.length ≤ 2 ^ 30) :
    Calls Try.prog 115 #[v, .int .i64 k0] w fun e w' => e = .returned (.int .i64 (k0 + (stepsV vs vs.length : Nat))) ∧ w' = w := by
  by_cases h0 : vs = []
  · obtain ⟨a, c, rfl⟩ := hv0 h0
    subst h0
    refine (heldVoteS0 a c k0 w).mono ?_
    rintro e w' ⟨rfl, rfl⟩
    exact ⟨by simp [stepsV], rfl⟩
  · obtain ⟨g, cap, rfl, ho⟩ := hv1 h0
    exact heldVoteS g cap B vs k0 w ho hn hk0 hk1 hs
end Go.Proofs.Ytfifiobcmdmefaa.Own

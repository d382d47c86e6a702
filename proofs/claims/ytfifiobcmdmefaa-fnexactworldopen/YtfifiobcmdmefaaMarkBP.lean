/-
  Own text, by program out of MarkB.lean: the same over []Put.
-/
import Derived.Test.YtfifiobcmdmefaaMarkP
import Derived.Test.YtfifiobcmdmefaaOwnB
namespace Go.Proofs.Ytfifiobcmdmefaa.Own
open Go.RowKit
set_option linter.unusedVariables false

set_option maxHeartbeats 1000000 in
theorem markPutS0 (a : Option Addr) (c : Nat) (k : Int) (w : World) :
    Calls Try.prog 92 #[.slice a 0 c, .int .i64 k] w fun e w' => e = .returned (.int .i64 k) ∧ w' = w := by
  go_enter Try.func92, Try.ntmps92
  go_wp2
  go_loop [1, 5] (fun q i => i = .int .i64 0 ∧ q = .int .i64 k) (fun _ _ => 0)
  case atStart => exact ⟨rfl, rfl⟩
  case round =>
    obtain ⟨rfl, rfl⟩ := hrel
    go_wp2
    go_ret
    exact ⟨rfl, rfl⟩
set_option maxHeartbeats 1000000 in
theorem heldPutS0 (a : Option Addr) (c : Nat) (k : Int) (w : World) :
    Calls Try.prog 94 #[.slice a 0 c, .int .i64 k] w fun e w' => e = .returned (.int .i64 k) ∧ w' = w := by
  go_enter Try.func94, Try.ntmps94
  go_wp2
  go_loop [1, 5] (fun q i => i = .int .i64 0 ∧ q = .int .i64 k) (fun _ _ => 0)
  case atStart => exact ⟨rfl, rfl⟩
  case round =>
    obtain ⟨rfl, rfl⟩ := hrel
    go_wp2
    go_ret
    exact ⟨rfl, rfl⟩

theorem markPutB (a : Option Addr) (c n B : Nat) (xs : List (Int × Int)) (k : Int) (w : World) (h : OwnB w B a xs) (hl : xs.length = n) (hn : n ≤ 2 ^ 40) (hk0 : 0 ≤ k) (hk : k ≤ 2 ^ 40) :
    Calls Try.prog 92 #[.slice a n c, .int .i64 k] w fun e w' => e = .returned (.int .i64 (k + 2 * n)) ∧ OwnB w' B a (marks k n) ∧ OnlyB a xs w w' := by
  subst hl
  rcases h with h | ⟨g, rfl, hB, h, hf⟩
  · subst h
    refine (markPutS0 a c k w).mono ?_
    rintro e w' ⟨rfl, rfl⟩
    exact ⟨by simp, .inl rfl, .inl ⟨rfl, rfl⟩⟩
  · by_cases h0 : xs = []
    · subst h0
      refine (markPutS0 _ c k w).mono ?_
      rintro e w' ⟨rfl, rfl⟩
      exact ⟨by simp, .inl rfl, .inl ⟨rfl, rfl⟩⟩
    refine (markPutS g 0 xs.length c k w hn hk0 hk hf ?_ h.1).mono ?_
    · intro i hi
      have := h.2 (i / 2) (by omega)
      rcases Nat.mod_two_eq_zero_or_one i with m | m
      · exact ⟨_, by rw [show 0 + i = 0 + i / 2 * 2 by omega]; exact this.1, rfl⟩
      · exact ⟨_, by rw [show 0 + i = 0 + i / 2 * 2 + 1 by omega]; exact this.2, rfl⟩
    · rintro e w' ⟨rfl, hm, ho⟩
      exact ⟨rfl, .inr ⟨g, rfl, hB, hm, fun o => by rw [ho.frozen]; exact hf o⟩, .inr ⟨g, h0, rfl, ho⟩⟩
theorem heldPutB (a : Option Addr) (c n B : Nat) (k : Int) (w : World) (h : OwnB w B a (marks k n)) (hn : n ≤ 2 ^ 40) (hk0 : 0 ≤ k) (hk : k ≤ 2 ^ 40) :
    Calls Try.prog 94 #[.slice a n c, .int .i64 k] w fun e w' => e = .returned (.int .i64 (k + 2 * n)) ∧ w' = w := by
  by_cases h0 : n = 0
  · subst h0
    refine (heldPutS0 a c k w).mono ?_
    rintro e w' ⟨rfl, rfl⟩
    exact ⟨by simp, rfl⟩
  rcases h with h | ⟨g, rfl, hB, h, hf⟩
  · have := marks_length k n
    rw [h] at this
    simp at this
    omega
  · exact heldPutS g 0 n c k w hn hk0 hk h
end Go.Proofs.Ytfifiobcmdmefaa.Own

/-
  Own text: what impl.AccOk does.
-/
import Derived.Test.YtbbbfnfpmaogoaaPk6
import Derived.Deep.Cut
namespace Go.Proofs.Ytbbbfnfpmaogoaa.Own
open Go.RowKit
set_option linter.unusedVariables false
set_option linter.unusedSimpArgs false

set_option maxRecDepth 100000 in
set_option maxHeartbeats 1000000 in
theorem implAccOk (m : Int) (a : Option Addr) (c : Nat) (vs : List VM) (w : World) (h : SlV w a vs) (hn : vs.length ≤ 2 ^ 40) (hl : VLs vs) :
    Calls Try.prog 22 #[.agg #[.int .i64 m, .slice a vs.length c]] w fun e w' => e = .returned (.bool (accOk m (bodies vs))) ∧ Below w.heap.size w w' := by
  have E : Hid (accOk m (bodies vs) = (decide (0 ≤ m) && decide (m ≤ 3000) && votesUpto m (bodies vs))) := accOk_upto m _
  obtain ⟨W, hW⟩ : ∃ W, W = w.alloc (.cells #[.int .i64 m, .slice a vs.length c] 24) := ⟨_, rfl⟩
  have BW : Hid (Below w.heap.size w W) := by show Below _ _ _; rw [hW]; exact (Below.refl _ _).alloc (Nat.le_refl _) _
  have HW : Hid (W = _) := hW
  clear hW
  have HC : Hid _ := implVotesOk m a c vs W (h.below BW.out) hn hl
  clear h hl
  generalize accOk m (bodies vs) = T at E ⊢
  generalize votesUpto m (bodies vs) = U at E HC
  cases h1 : decide (0 ≤ m) with
  | false =>
    have F : Hid (T = false) := by show _ = _; rw [E.out, h1]; rfl
    clear E
    go_enter Try.func22, Try.ntmps22
    go_wp2_with fail
    go_ret
    exact ⟨ret_bool F.out.symm, by rw [← HW.out]; exact BW.out⟩
  | true =>
    cases h2 : decide (m ≤ 3000) with
    | false =>
      have F : Hid (T = false) := by show _ = _; rw [E.out, h1, h2]; rfl
      clear E
      go_enter Try.func22, Try.ntmps22
      go_wp2_with fail
      go_ret
      exact ⟨ret_bool F.out.symm, by rw [← HW.out]; exact BW.out⟩
    | true =>
      have F : Hid (T = U) := by show _ = _; rw [E.out, h1, h2]; rfl
      clear E
      go_enter Try.func22, Try.ntmps22
      go_wp2_with fail
      rw [← HW.out]
      refine Calls.mono HC.out ?_
      rintro e w1 ⟨rfl, b1⟩
      have B1 : Hid (Below w.heap.size w w1) := BW.out.trans (b1.mono BW.out.size)
      clear b1
      go_wp2_with fail
      go_ret
      exact ⟨ret_bool F.out.symm, B1.out⟩
end Go.Proofs.Ytbbbfnfpmaogoaa.Own

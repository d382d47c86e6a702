/-
  Own text: what impl.BoxOk does.
-/
import Derived.Test.YtgcencilgpilaaaOk
namespace Go.Proofs.Ytgcencilgpilaaa.Own
open Go.RowKit

theorem four {xs : List (Int × Int)} (h : xs.length = 4) : [((fromD xs 0 0).1, (fromD xs 0 0).2), ((fromD xs 0 1).1, (fromD xs 0 1).2), ((fromD xs 0 2).1, (fromD xs 0 2).2), ((fromD xs 0 3).1, (fromD xs 0 3).2)] = xs := by
  match xs, h with
  | [a, b, c, d], _ => rfl

set_option maxHeartbeats 1000000 in
theorem implOk (a : Option Addr) (c : Nat) (xs : List (Int × Int)) (w : World) (h : Sl w a xs) (hc : xs.length ≤ c) :
    Calls Try.prog 21 #[.slice a xs.length c] w fun e w' => e = .returned (.bool (boxOk xs)) ∧ Below w.heap.size w w' := by
  have E : Hid (boxOk xs = (xs.length == 4 && xs.all boxOk1)) := rfl
  by_cases hl : xs.length = 4
  · have hl' : ((xs.length : Int) == 4) = true := by simp [hl]
    have HL : Hid (xs.length = 4) := hl
    clear hl
    go_enter Try.func21, Try.ntmps21
    go_wp2_with fail
    refine (boxesFrom a c xs 0 w h hc (Nat.zero_le _)).mono ?_
    rintro e w1 ⟨rfl, hb1⟩
    go_wp2_with fail
    refine (arrOk _ _ _ _ _ _ _ _ _).mono ?_
    rintro e w2 ⟨rfl, hb2⟩
    rw [four HL.out]
    have B2 : Hid (Below w.heap.size w w2) := hb1.trans (hb2.mono hb1.size)
    clear hb1 hb2
    go_wp2
    go_ret
    refine ⟨ret_bool ?_, B2.out⟩
    rw [E.out, HL.out]; rfl
  · have hl' : ((xs.length : Int) == 4) = false := by simp; omega
    go_enter Try.func21, Try.ntmps21
    go_wp2
    go_ret
    refine ⟨ret_bool ?_, Below.refl _ _⟩
    rw [E.out]; simp [hl]
end Go.Proofs.Ytgcencilgpilaaa.Own

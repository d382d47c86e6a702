/-
  Own text: impl.BoxOk, and laws.FnExactBoxOk.
-/
import Derived.Test.YtipbabkbmiaalaaOk
import Derived.Test.YtipbabkbmiaalaaTo
import Derived.Test.YtipbabkbmiaalaaEq
namespace Go.Proofs.Ytipbabkbmiaalaa.Own
open Go.RowKit

theorem four {xs : List (Int × Int)} (h : xs.length = 4) : [((fromD xs 0 0).1, (fromD xs 0 0).2), ((fromD xs 0 1).1, (fromD xs 0 1).2), ((fromD xs 0 2).1, (fromD xs 0 2).2), ((fromD xs 0 3).1, (fromD xs 0 3).2)] = xs := by
  match xs, h with
  | [a, b, c, d], _ => rfl

set_option maxHeartbeats 1000000 in
theorem implOk (a : Option Addr) (c : Nat) (xs : List (Int × Int)) (w : World) (h : Sl w a xs) (hc : xs.length ≤ c) :
    Calls Try.prog 9 #[.slice a xs.length c] w fun e w' => e = .returned (.bool (boxOk xs)) ∧ Below w.heap.size w w' := by
  have E : Hid (boxOk xs = (xs.length == 4 && xs.all boxOk1)) := rfl
  by_cases hl : xs.length = 4
  · have hl' : ((xs.length : Int) == 4) = true := by simp [hl]
    have HL : Hid (xs.length = 4) := hl
    clear hl
    go_enter Try.func9, Try.ntmps9
    go_wp2_with fail
    refine (boxesFrom a c xs 0 w h hc (Nat.zero_le _)).mono ?_
    rintro e w1 ⟨rfl, hb1⟩
    go_wp2_with fail
    refine (arrOk _ _ _ _ _ _ _ _ _).mono ?_
    rintro e w2 ⟨rfl, hb2⟩
    rw [four HL.out]
    have B2 : Hid (Below w.heap.size w w2) := hb1.trans (hb2.mono hb1.size)
    clear hb1 hb2
    go_wp2
    go_ret
    refine ⟨ret_bool ?_, B2.out⟩
    rw [E.out, HL.out]; rfl
  · have hl' : ((xs.length : Int) == 4) = false := by simp; omega
    go_enter Try.func9, Try.ntmps9
    go_wp2
    go_ret
    refine ⟨ret_bool ?_, Below.refl _ _⟩
    rw [E.out]; simp [hl]

set_option maxHeartbeats 1000000 in
theorem lawOk (a : Option Addr) (c : Nat) (xs : List (Int × Int)) (w : World) (h : Sl w a xs) (hm : xs.length ≤ maxLen) :
    Calls Try.prog 5 #[.slice a xs.length c] w fun e w' => e = .returned (.bool true) ∧ Below w.heap.size w w' := by
  have HS : Hid (Sl w a xs) := h
  clear h
  by_cases hn : xs.length ≤ 1048576
  · go_enter Try.func5, Try.ntmps5
    go_wp2_with fail
    refine (szBoxS a xs.length c 1048576 w hm (by decide) (by decide)).mono ?_
    rintro e w' ⟨rfl, hw⟩
    subst hw
    rw [if_neg (by omega)]
    go_wp2_with fail
    refine (toBoxS a c xs w' HS.out (by omega)).mono ?_
    rintro e w1 ⟨rfl, a1, r1, b1⟩
    have A1 : Hid (BoxAt w1 w'.heap.size 0 xs) := a1
    have B1 : Hid (Below w'.heap.size w' w1) := b1
    clear a1 r1 b1
    go_wp2_with fail
    refine (specOk _ xs.length xs w1 (.inr ⟨_, _, rfl, A1.out⟩) (by omega)).mono ?_
    rintro e w1' ⟨rfl, hw⟩
    subst hw
    go_wp2_with fail
    refine (toBoxS a c xs w1' (HS.out.below B1.out) (by omega)).mono ?_
    rintro e w2 ⟨rfl, a2, r2, b2⟩
    have A2 : Hid (BoxAt w2 w1'.heap.size 0 xs) := a2
    have B2 : Hid (Below w'.heap.size w' w2) := B1.out.trans (b2.mono B1.out.size)
    clear a2 r2 b2
    go_wp2_with fail
    refine (implOk _ xs.length xs w2 (.inr ⟨_, _, rfl, A2.out⟩) (by omega)).mono ?_
    rintro e w3 ⟨rfl, b3⟩
    have A3 : Hid (BoxAt w3 w1'.heap.size 0 xs) := A2.out.below b3
    have B3 : Hid (Below w'.heap.size w' w3) := B2.out.trans (b3.mono B2.out.size)
    clear b3
    generalize boxOk xs = ok
    go_wp2_with fail
    refine (toBoxS a c xs w3 (HS.out.below B3.out) (by omega)).mono ?_
    rintro e w4 ⟨rfl, a4, r4, b4⟩
    have A4 : Hid (BoxAt w4 w3.heap.size 0 xs) := a4
    have A4' : Hid (BoxAt w4 w1'.heap.size 0 xs) := A3.out.below b4
    have B4 : Hid (Below w'.heap.size w' w4) := B3.out.trans (b4.mono B3.out.size)
    clear a4 r4 b4
    go_wp2_with fail
    refine (eqBoxS _ _ xs.length xs.length xs xs w4 (.inr ⟨_, _, rfl, A4'.out⟩) (.inr ⟨_, _, rfl, A4.out⟩) (by omega) (by omega)).mono ?_
    rintro e w5 ⟨rfl, b5⟩
    have B5 : Hid (Below w'.heap.size w' w5) := B4.out.trans (b5.mono B4.out.size)
    rw [show (xs == xs) = true from by simp]
    clear b5
    go_wp2_with fail
    go_ret
    exact ⟨rfl, B5.out⟩
  · go_enter Try.func5, Try.ntmps5
    go_wp2_with fail
    refine (szBoxS a xs.length c 1048576 w hm (by decide) (by decide)).mono ?_
    rintro e w' ⟨rfl, hw⟩
    subst hw
    rw [if_pos (by omega)]
    go_wp2_with fail
    go_ret
    exact ⟨rfl, Below.refl _ _⟩
end Go.Proofs.Ytipbabkbmiaalaa.Own

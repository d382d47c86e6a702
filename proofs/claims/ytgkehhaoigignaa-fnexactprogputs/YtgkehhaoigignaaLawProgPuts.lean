/-
  Own text: laws.FnExactProgPuts.
-/
import Derived.Test.YtgkehhaoigignaaGatherP
import Derived.Test.YtgkehhaoigignaaBoxesSP
import Derived.Test.YtgkehhaoigignaaOwnInts
import Derived.Test.YtgkehhaoigignaaMark4
import Derived.Test.YtgkehhaoigignaaTo4
import Derived.Test.YtgkehhaoigignaaEq4
namespace Go.Proofs.Ytgkehhaoigignaa.Own
open Go.RowKit
set_option linter.unusedVariables false

set_option maxHeartbeats 2000000 in
theorem lawProgPuts (a : Option Addr) (c : Nat) (xs : List Q4) (w : World) (h : Sl4 w a xs) (hm : xs.length ≤ maxLen) :
    Calls Try.prog 7 #[.slice a xs.length c] w fun e w' => e = .returned (.bool true) ∧ Below w.heap.size w w' := by
  have HS : Hid (Sl4 w a xs) := h
  clear h
  by_cases hn : xs.length ≤ 1048576
  · obtain ⟨ys, hys⟩ : ∃ ys, ys = boxesTo putsQ xs 4 := ⟨_, rfl⟩
    have hyl : ys.length ≤ 4 := by rw [hys]; exact boxesTo_len _ _ _
    have HY : Hid (ys = boxesTo putsQ xs 4) := hys
    clear hys
    go_enter Try.func7, Try.ntmps7
    go_wp2_with fail
    refine (szInsS a xs.length c 1048576 w hm (by decide) (by decide)).mono ?_
    rintro e w' ⟨rfl, hw⟩
    subst hw
    rw [if_neg (by omega)]
    go_wp2_with fail
    refine (toInsS a c xs w' HS.out (by omega)).mono ?_
    rintro e w1 ⟨rfl, a1, r1, b1⟩
    have A1 : Hid (At4 w1 w'.heap.size 0 xs) := a1
    have B1 : Hid (Below w'.heap.size w' w1) := b1
    clear a1 r1 b1
    go_wp2_with fail
    refine (specProgPuts _ xs.length xs w1 (.inr ⟨_, _, rfl, A1.out⟩) (by omega)).mono ?_
    rintro e w2 ⟨⟨v0, rfl, o2⟩, b2⟩
    have O2 : Hid (OwnI w2 w1.heap.size v0 ys) := by show OwnI _ _ _ _; rw [HY.out]; exact o2
    have B2 : Hid (Below w'.heap.size w' w2) := B1.out.trans (b2.mono B1.out.size)
    clear o2 b2
    go_wp2_with fail
    refine (toInsS a c xs w2 (HS.out.below B2.out) (by omega)).mono ?_
    rintro e w3 ⟨rfl, a3, r3, b3⟩
    have A3 : Hid (At4 w3 w2.heap.size 0 xs) := a3
    have R3 : Hid (Row4 w3 w2.heap.size xs.length) := r3
    have B3 : Hid (Below w'.heap.size w' w3) := B2.out.trans (b3.mono B2.out.size)
    have K3 : Hid (Below w2.heap.size w2 w3) := b3
    clear a3 r3 b3
    go_wp2_with fail
    refine (implProgPuts _ xs.length xs (by omega) w3 (.inr ⟨_, _, rfl, A3.out⟩)).mono ?_
    rintro e w4 ⟨⟨v1, rfl, o4⟩, b4⟩
    have O4 : Hid (OwnI w4 w3.heap.size v1 ys) := by show OwnI _ _ _ _; rw [HY.out]; exact o4
    have A4 : Hid (At4 w4 w2.heap.size 0 xs) := A3.out.below b4
    have R4 : Hid (Row4 w4 w2.heap.size xs.length) := R3.out.below b4 R3.out.lt
    have B4 : Hid (Below w'.heap.size w' w4) := B3.out.trans (b4.mono B3.out.size)
    have K4 : Hid (Below w2.heap.size w2 w4) := K3.out.trans (b4.mono K3.out.size)
    have S34 : Hid (w3.heap.size ≤ w4.heap.size) := b4.size
    clear o4 b4
    go_wp2_with fail
    refine (eqOwn v1 v0 _ _ ys w4 O4.out (O2.out.keep K4.out) (by omega)).mono ?_
    rintro e w5 ⟨rfl, b5⟩
    have O5 : Hid (OwnI w5 w3.heap.size v1 ys) := O4.out.keep b5
    have A5 : Hid (At4 w5 w2.heap.size 0 xs) := A4.out.below b5
    have R5 : Hid (Row4 w5 w2.heap.size xs.length) := R4.out.below b5 R4.out.lt
    have B5 : Hid (Below w'.heap.size w' w5) := B4.out.trans (b5.mono B4.out.size)
    have K5 : Hid (Below w2.heap.size w2 w5) := K4.out.trans (b5.mono K4.out.size)
    have S35 : Hid (w3.heap.size ≤ w5.heap.size) := Nat.le_trans S34.out b5.size
    clear b5
    go_wp2_with fail
    refine (toInsS a c xs w5 (HS.out.below B5.out) (by omega)).mono ?_
    rintro e w6 ⟨rfl, a6, r6, b6⟩
    have A6' : Hid (At4 w6 w5.heap.size 0 xs) := a6
    have O6 : Hid (OwnI w6 w3.heap.size v1 ys) := O5.out.keep b6
    have A6 : Hid (At4 w6 w2.heap.size 0 xs) := A5.out.below b6
    have R6 : Hid (Row4 w6 w2.heap.size xs.length) := R5.out.below b6 R5.out.lt
    have B6 : Hid (Below w'.heap.size w' w6) := B5.out.trans (b6.mono B5.out.size)
    have K6 : Hid (Below w2.heap.size w2 w6) := K5.out.trans (b6.mono K5.out.size)
    have S36 : Hid (w3.heap.size ≤ w6.heap.size) := Nat.le_trans S35.out b6.size
    clear a6 r6 b6
    go_wp2_with fail
    refine (eqInsS _ _ xs.length xs.length xs xs w6 (.inr ⟨_, _, rfl, A6.out⟩) (.inr ⟨_, _, rfl, A6'.out⟩) (by omega) (by omega)).mono ?_
    rintro e w7 ⟨rfl, b7⟩
    rw [show (xs == xs) = true from by simp]
    have O7 : Hid (OwnI w7 w3.heap.size v1 ys) := O6.out.keep b7
    have R7 : Hid (Row4 w7 w2.heap.size xs.length) := R6.out.below b7 R6.out.lt
    have B7 : Hid (Below w'.heap.size w' w7) := B6.out.trans (b7.mono B6.out.size)
    have K7 : Hid (Below w2.heap.size w2 w7) := K6.out.trans (b7.mono K6.out.size)
    have S37 : Hid (w3.heap.size ≤ w7.heap.size) := Nat.le_trans S36.out b7.size
    clear b7
    go_wp2_with fail
    refine (markInsS w2.heap.size 0 xs.length xs.length 1 w7 (by omega) (by decide) (by decide) (fun o => R7.out.frozen o) (fun i hi => by rw [Nat.zero_add]; exact R7.out.cell i (by omega)) R7.out.lt).mono ?_
    rintro e w8 ⟨rfl, -, b8⟩
    have O8 : Hid (OwnI w8 w3.heap.size v1 ys) := O7.out.only b8 R3.out.lt
    have B8 : Hid (Below w'.heap.size w' w8) := B7.out.trans ((b8.below (Nat.le_refl _)).mono B2.out.size)
    have K8 : Hid (Below w2.heap.size w2 w8) := K7.out.trans (b8.below (Nat.le_refl _))
    have S38 : Hid (w3.heap.size ≤ w8.heap.size) := by show _ ≤ _; rw [b8.size]; exact S37.out
    clear b8
    go_wp2_with fail
    refine (eqOwn v1 v0 _ _ ys w8 O8.out (O2.out.keep K8.out) (by omega)).mono ?_
    rintro e w9 ⟨rfl, b9⟩
    have O9 : Hid (OwnI w9 w3.heap.size v1 ys) := O8.out.keep b9
    have B9 : Hid (Below w'.heap.size w' w9) := B8.out.trans (b9.mono B8.out.size)
    have K9 : Hid (Below w2.heap.size w2 w9) := K8.out.trans (b9.mono K8.out.size)
    have S39 : Hid (w3.heap.size ≤ w9.heap.size) := Nat.le_trans S38.out b9.size
    clear b9
    go_wp2_with fail
    refine (markOwn v1 w3.heap.size ys w9 O9.out (by omega) S39.out).mono ?_
    rintro e w10 ⟨rfl, m10, b10⟩
    have M10 : Hid (HeldI w10 w3.heap.size v1 ys.length) := m10
    have B10 : Hid (Below w'.heap.size w' w10) := B9.out.trans (b10.mono B3.out.size)
    have K10 : Hid (Below w2.heap.size w2 w10) := K9.out.trans (b10.mono K3.out.size)
    clear m10 b10
    go_wp2_with fail
    refine (heldOwn v1 w3.heap.size ys.length w10 M10.out (by omega)).mono ?_
    rintro e w10' ⟨rfl, hw⟩
    subst hw
    go_wp2_with fail
    refine (toInsS a c xs w10' (HS.out.below B10.out) (by omega)).mono ?_
    rintro e w11 ⟨rfl, a11, r11, b11⟩
    have A11 : Hid (At4 w11 w10'.heap.size 0 xs) := a11
    have M11 : Hid (HeldI w11 w3.heap.size v1 ys.length) := M10.out.keep b11
    have B11 : Hid (Below w'.heap.size w' w11) := B10.out.trans (b11.mono B10.out.size)
    have K11 : Hid (Below w2.heap.size w2 w11) := K10.out.trans (b11.mono K10.out.size)
    clear a11 r11 b11
    go_wp2_with fail
    refine (implProgPuts _ xs.length xs (by omega) w11 (.inr ⟨_, _, rfl, A11.out⟩)).mono ?_
    rintro e w12 ⟨⟨v3, rfl, o12⟩, b12⟩
    have O12 : Hid (OwnI w12 w11.heap.size v3 ys) := by show OwnI _ _ _ _; rw [HY.out]; exact o12
    have M12 : Hid (HeldI w12 w3.heap.size v1 ys.length) := M11.out.keep b12
    have B12 : Hid (Below w'.heap.size w' w12) := B11.out.trans (b12.mono B11.out.size)
    have K12 : Hid (Below w2.heap.size w2 w12) := K11.out.trans (b12.mono K11.out.size)
    clear o12 b12
    go_wp2_with fail
    refine (eqOwn v3 v0 _ _ ys w12 O12.out (O2.out.keep K12.out) (by omega)).mono ?_
    rintro e w13 ⟨rfl, b13⟩
    have M13 : Hid (HeldI w13 w3.heap.size v1 ys.length) := M12.out.keep b13
    have B13 : Hid (Below w'.heap.size w' w13) := B12.out.trans (b13.mono B12.out.size)
    clear b13
    go_wp2_with fail
    refine (heldOwn v1 w3.heap.size ys.length w13 M13.out (by omega)).mono ?_
    rintro e w13' ⟨rfl, hw⟩
    subst hw
    go_wp2_with fail
    go_ret
    exact ⟨rfl, B13.out⟩
  · go_enter Try.func7, Try.ntmps7
    go_wp2_with fail
    refine (szInsS a xs.length c 1048576 w hm (by decide) (by decide)).mono ?_
    rintro e w' ⟨rfl, hw⟩
    subst hw
    rw [if_pos (by omega)]
    go_wp2_with fail
    go_ret
    exact ⟨rfl, Below.refl _ _⟩
end Go.Proofs.Ytgkehhaoigignaa.Own

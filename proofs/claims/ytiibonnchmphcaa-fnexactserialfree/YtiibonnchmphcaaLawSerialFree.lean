/-
  Own text: laws.FnExactSerialFree.
-/
import Derived.Test.YtiibonnchmphcaaFreeI
import Derived.Test.YtiibonnchmphcaaFreeS
import Derived.Test.YtiibonnchmphcaaTo4
import Derived.Test.YtiibonnchmphcaaEq4
namespace Go.Proofs.Ytiibonnchmphcaa.Own
open Go.RowKit
set_option linter.unusedVariables false

set_option maxHeartbeats 1000000 in
theorem lawSerialFree (a1 a2 : Option Addr) (c1 c2 : Nat) (xs ys : List Q4) (w : World) (h1 : Sl4 w a1 xs) (h2 : Sl4 w a2 ys) (m1 : xs.length ≤ maxLen) (m2 : ys.length ≤ maxLen) :
    Calls Try.prog 14 #[.slice a1 xs.length c1, .slice a2 ys.length c2] w fun e w' => e = .returned (.bool true) ∧ Below w.heap.size w w' := by
  have H1 : Hid (Sl4 w a1 xs) := h1
  have H2 : Hid (Sl4 w a2 ys) := h2
  clear h1 h2
  by_cases hn : xs.length ≤ 1048576
  · by_cases hn2 : ys.length ≤ 1048576 - xs.length
    · go_enter Try.func14, Try.ntmps14
      go_wp2_with fail
      refine (szInsS a1 xs.length c1 1048576 w m1 (by decide) (by decide)).mono ?_
      rintro e w' ⟨rfl, hw⟩
      subst hw
      rw [if_neg (by omega)]
      go_wp2_with fail
      refine (szInsS a2 ys.length c2 (1048576 - xs.length) w' m2 (by omega) (by omega)).mono ?_
      rintro e w'' ⟨rfl, hw⟩
      subst hw
      rw [if_neg (by omega)]
      go_wp2_with fail
      refine (toInsS a1 c1 xs w'' H1.out (by omega)).mono ?_
      rintro e w1 ⟨rfl, x1, _, b1⟩
      have X1 : Hid (At4 w1 w''.heap.size 0 xs) := x1
      have B1 : Hid (Below w''.heap.size w'' w1) := b1
      clear x1 b1
      go_wp2_with fail
      refine (toInsS a2 c2 ys w1 (H2.out.below B1.out) (by omega)).mono ?_
      rintro e w2 ⟨rfl, y2, _, b2⟩
      have X2 : Hid (At4 w2 w''.heap.size 0 xs) := X1.out.below b2
      have Y2 : Hid (At4 w2 w1.heap.size 0 ys) := y2
      have B2 : Hid (Below w''.heap.size w'' w2) := B1.out.trans (b2.mono B1.out.size)
      clear y2 b2
      go_wp2_with fail
      refine (specSerialFree _ _ xs.length ys.length xs ys w2 (.inr ⟨_, _, rfl, X2.out⟩) (.inr ⟨_, _, rfl, Y2.out⟩) (by omega) (by omega)).mono ?_
      rintro e w3 ⟨rfl, b3⟩
      have B3 : Hid (Below w''.heap.size w'' w3) := B2.out.trans (b3.mono B2.out.size)
      clear b3
      go_wp2_with fail
      refine (toInsS a1 c1 xs w3 (H1.out.below B3.out) (by omega)).mono ?_
      rintro e w4 ⟨rfl, x4, _, b4⟩
      have X4 : Hid (At4 w4 w3.heap.size 0 xs) := x4
      have B4 : Hid (Below w''.heap.size w'' w4) := B3.out.trans (b4.mono B3.out.size)
      clear x4 b4
      go_wp2_with fail
      refine (toInsS a2 c2 ys w4 (H2.out.below B4.out) (by omega)).mono ?_
      rintro e w5 ⟨rfl, y5, _, b5⟩
      have X5 : Hid (At4 w5 w3.heap.size 0 xs) := X4.out.below b5
      have Y5 : Hid (At4 w5 w4.heap.size 0 ys) := y5
      have B5 : Hid (Below w''.heap.size w'' w5) := B4.out.trans (b5.mono B4.out.size)
      clear y5 b5
      go_wp2_with fail
      refine (implSerialFree _ _ xs.length ys.length xs ys w5 (.inr ⟨_, _, rfl, X5.out⟩) (.inr ⟨_, _, rfl, Y5.out⟩) (by omega) (by omega)).mono ?_
      rintro e w6 ⟨rfl, b6⟩
      have X6 : Hid (At4 w6 w3.heap.size 0 xs) := X5.out.below b6
      have Y6 : Hid (At4 w6 w4.heap.size 0 ys) := Y5.out.below b6
      have B6 : Hid (Below w''.heap.size w'' w6) := B5.out.trans (b6.mono B5.out.size)
      clear b6
      generalize serialFree xs ys = ok
      go_wp2_with fail
      refine (toInsS a1 c1 xs w6 (H1.out.below B6.out) (by omega)).mono ?_
      rintro e w7 ⟨rfl, x7, _, b7⟩
      have X7 : Hid (At4 w7 w3.heap.size 0 xs) := X6.out.below b7
      have Y7 : Hid (At4 w7 w4.heap.size 0 ys) := Y6.out.below b7
      have X7' : Hid (At4 w7 w6.heap.size 0 xs) := x7
      have B7 : Hid (Below w''.heap.size w'' w7) := B6.out.trans (b7.mono B6.out.size)
      clear x7 b7
      go_wp2_with fail
      refine (eqInsS _ _ xs.length xs.length xs xs w7 (.inr ⟨_, _, rfl, X7.out⟩) (.inr ⟨_, _, rfl, X7'.out⟩) (by omega) (by omega)).mono ?_
      rintro e w8 ⟨rfl, b8⟩
      rw [show (xs == xs) = true from by simp]
      have Y8 : Hid (At4 w8 w4.heap.size 0 ys) := Y7.out.below b8
      have B8 : Hid (Below w''.heap.size w'' w8) := B7.out.trans (b8.mono B7.out.size)
      clear b8
      go_wp2_with fail
      refine (toInsS a2 c2 ys w8 (H2.out.below B8.out) (by omega)).mono ?_
      rintro e w9 ⟨rfl, y9, _, b9⟩
      have Y9 : Hid (At4 w9 w4.heap.size 0 ys) := Y8.out.below b9
      have Y9' : Hid (At4 w9 w8.heap.size 0 ys) := y9
      have B9 : Hid (Below w''.heap.size w'' w9) := B8.out.trans (b9.mono B8.out.size)
      clear y9 b9
      go_wp2_with fail
      refine (eqInsS _ _ ys.length ys.length ys ys w9 (.inr ⟨_, _, rfl, Y9.out⟩) (.inr ⟨_, _, rfl, Y9'.out⟩) (by omega) (by omega)).mono ?_
      rintro e w10 ⟨rfl, b10⟩
      rw [show (ys == ys) = true from by simp]
      have B10 : Hid (Below w''.heap.size w'' w10) := B9.out.trans (b10.mono B9.out.size)
      clear b10
      go_wp2_with fail
      go_ret
      exact ⟨rfl, B10.out⟩
    · go_enter Try.func14, Try.ntmps14
      go_wp2_with fail
      refine (szInsS a1 xs.length c1 1048576 w m1 (by decide) (by decide)).mono ?_
      rintro e w' ⟨rfl, hw⟩
      subst hw
      rw [if_neg (by omega)]
      go_wp2_with fail
      refine (szInsS a2 ys.length c2 (1048576 - xs.length) w' m2 (by omega) (by omega)).mono ?_
      rintro e w'' ⟨rfl, hw⟩
      subst hw
      rw [if_pos (by omega)]
      go_wp2_with fail
      go_ret
      exact ⟨rfl, Below.refl _ _⟩
  · go_enter Try.func14, Try.ntmps14
    go_wp2_with fail
    refine (szInsS a1 xs.length c1 1048576 w m1 (by decide) (by decide)).mono ?_
    rintro e w' ⟨rfl, hw⟩
    subst hw
    rw [if_pos (by omega)]
    go_wp2_with fail
    go_ret
    exact ⟨rfl, Below.refl _ _⟩

theorem lawSerialFree' (a1 : Option Addr) (c1 : Nat) (xs : List Q4) (a2 : Option Addr) (c2 : Nat) (ys : List Q4) (w : World) (h1 : Sl4 w a1 xs) (m1 : xs.length ≤ maxLen) (h2 : Sl4 w a2 ys) (m2 : ys.length ≤ maxLen) :
    Calls Try.prog 14 #[.slice a1 xs.length c1, .slice a2 ys.length c2] w fun e w' => e = .returned (.bool true) ∧ Below w.heap.size w w' :=
  lawSerialFree a1 a2 c1 c2 xs ys w h1 h2 m1 m2
end Go.Proofs.Ytiibonnchmphcaa.Own

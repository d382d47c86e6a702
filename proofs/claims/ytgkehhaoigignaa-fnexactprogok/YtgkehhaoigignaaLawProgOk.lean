/-
  Own text: laws.FnExactProgOk.
-/
import Derived.Test.YtgkehhaoigignaaProgOkI
import Derived.Test.YtgkehhaoigignaaProgOkS
import Derived.Test.YtgkehhaoigignaaTo4
import Derived.Test.YtgkehhaoigignaaEq4
namespace Go.Proofs.Ytgkehhaoigignaa.Own
open Go.RowKit
set_option linter.unusedVariables false

set_option maxHeartbeats 1000000 in
theorem lawProgOk (a : Option Addr) (c : Nat) (xs : List Q4) (w : World) (h : Sl4 w a xs) (hm : xs.length ≤ maxLen) :
    Calls Try.prog 4 #[.slice a xs.length c] w fun e w' => e = .returned (.bool true) ∧ Below w.heap.size w w' := by
  have HS : Hid (Sl4 w a xs) := h
  clear h
  by_cases hn : xs.length ≤ 1048576
  · go_enter Try.func4, Try.ntmps4
    go_wp2_with fail
    refine (szInsS a xs.length c 1048576 w hm (by decide) (by decide)).mono ?_
    rintro e w' ⟨rfl, hw⟩
    subst hw
    rw [if_neg (by omega)]
    go_wp2_with fail
    refine (toInsS a c xs w' HS.out (by omega)).mono ?_
    rintro e w1 ⟨rfl, a1, r1, b1⟩
    have A1 : Hid (At4 w1 w'.heap.size 0 xs) := a1
    have B1 : Hid (Below w'.heap.size w' w1) := b1
    clear a1 r1 b1
    go_wp2_with fail
    refine (specProgOk _ xs.length xs w1 (.inr ⟨_, _, rfl, A1.out⟩) (by omega)).mono ?_
    rintro e w1' ⟨rfl, b1'⟩
    have B1' : Hid (Below w'.heap.size w' w1') := B1.out.trans (b1'.mono B1.out.size)
    clear b1'
    go_wp2_with fail
    refine (toInsS a c xs w1' (HS.out.below B1'.out) (by omega)).mono ?_
    rintro e w2 ⟨rfl, a2, r2, b2⟩
    have A2 : Hid (At4 w2 w1'.heap.size 0 xs) := a2
    have B2 : Hid (Below w'.heap.size w' w2) := B1'.out.trans (b2.mono B1'.out.size)
    clear a2 r2 b2
    go_wp2_with fail
    refine (implProgOk _ xs.length xs w2 (.inr ⟨_, _, rfl, A2.out⟩) (by omega)).mono ?_
    rintro e w3 ⟨rfl, b3⟩
    have A3 : Hid (At4 w3 w1'.heap.size 0 xs) := A2.out.below b3
    have B3 : Hid (Below w'.heap.size w' w3) := B2.out.trans (b3.mono B2.out.size)
    clear b3
    generalize progOk xs = ok
    go_wp2_with fail
    refine (toInsS a c xs w3 (HS.out.below B3.out) (by omega)).mono ?_
    rintro e w4 ⟨rfl, a4, r4, b4⟩
    have A4 : Hid (At4 w4 w3.heap.size 0 xs) := a4
    have A4' : Hid (At4 w4 w1'.heap.size 0 xs) := A3.out.below b4
    have B4 : Hid (Below w'.heap.size w' w4) := B3.out.trans (b4.mono B3.out.size)
    clear a4 r4 b4
    go_wp2_with fail
    refine (eqInsS _ _ xs.length xs.length xs xs w4 (.inr ⟨_, _, rfl, A4'.out⟩) (.inr ⟨_, _, rfl, A4.out⟩) (by omega) (by omega)).mono ?_
    rintro e w5 ⟨rfl, b5⟩
    have B5 : Hid (Below w'.heap.size w' w5) := B4.out.trans (b5.mono B4.out.size)
    rw [show (xs == xs) = true from by simp]
    clear b5
    go_wp2_with fail
    go_ret
    exact ⟨rfl, B5.out⟩
  · go_enter Try.func4, Try.ntmps4
    go_wp2_with fail
    refine (szInsS a xs.length c 1048576 w hm (by decide) (by decide)).mono ?_
    rintro e w' ⟨rfl, hw⟩
    subst hw
    rw [if_pos (by omega)]
    go_wp2_with fail
    go_ret
    exact ⟨rfl, Below.refl _ _⟩
end Go.Proofs.Ytgkehhaoigignaa.Own

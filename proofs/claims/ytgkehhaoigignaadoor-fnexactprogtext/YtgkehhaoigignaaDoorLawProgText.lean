/-
  Own text: laws.FnExactProgText.
-/
import Derived.Test.YtgkehhaoigignaaDoorProgTextI
import Derived.Test.YtgkehhaoigignaaDoorProgTextS
import Derived.Test.YtgkehhaoigignaaDoorTo4
import Derived.Test.YtgkehhaoigignaaDoorEq4
namespace Go.Proofs.YtgkehhaoigignaaDoor.Own
open Go.RowKit
set_option linter.unusedVariables false

set_option maxHeartbeats 1000000 in
theorem lawProgText (a : Option Addr) (c : Nat) (xs : List Q4) (w : World) (ht : Tab w) (h : Sl4 w a xs) (hm : xs.length ≤ maxLen) (hw : Wf4 xs) :
    Calls Tryd.prog 4 #[.slice a xs.length c] w fun e w' => e = .returned (.bool true) ∧ Below w.heap.size w w' := by
  have HS : Hid (Sl4 w a xs) := h
  have HW : Hid (Wf4 xs) := hw
  have HT : Hid (Tab w) := ht
  clear h hw ht
  by_cases hn : xs.length ≤ 1048576
  · go_enter Tryd.func4, Tryd.ntmps4
    go_wp2_with fail
    refine (szInsS a xs.length c 1048576 w hm (by decide) (by decide)).mono ?_
    rintro e w' ⟨rfl, hw⟩
    subst hw
    rw [if_neg (by omega)]
    go_wp2_with fail
    refine (toInsS a c xs w' HS.out (by omega)).mono ?_
    rintro e w1 ⟨rfl, a1, r1, b1⟩
    have A1 : Hid (At4 w1 w'.heap.size 0 xs) := a1
    have B1 : Hid (Below w'.heap.size w' w1) := b1
    clear a1 r1 b1
    go_wp2_with fail
    refine (specProgText _ xs.length xs w1 (.inr ⟨_, _, rfl, A1.out⟩) (by omega) HW.out).mono ?_
    rintro e w2 ⟨rfl, b2⟩
    have B2 : Hid (Below w'.heap.size w' w2) := B1.out.trans (b2.mono B1.out.size)
    clear b2
    go_wp2_with fail
    refine (toInsS a c xs w2 (HS.out.below B2.out) (by omega)).mono ?_
    rintro e w3 ⟨rfl, a3, r3, b3⟩
    have A3 : Hid (At4 w3 w2.heap.size 0 xs) := a3
    have B3 : Hid (Below w'.heap.size w' w3) := B2.out.trans (b3.mono B2.out.size)
    clear a3 r3 b3
    go_wp2_with fail
    refine (implProgText _ xs.length xs w3 (.inr ⟨_, _, rfl, A3.out⟩) (by omega) HW.out (tab_below HT.out HT.out B3.out (Nat.le_refl _))).mono ?_
    rintro e w4 ⟨rfl, b4⟩
    have A4 : Hid (At4 w4 w2.heap.size 0 xs) := A3.out.below b4
    have B4 : Hid (Below w'.heap.size w' w4) := B3.out.trans (b4.mono B3.out.size)
    clear b4
    generalize str (progTo xs xs.length) = t
    go_wp2_with fail
    refine (toInsS a c xs w4 (HS.out.below B4.out) (by omega)).mono ?_
    rintro e w5 ⟨rfl, a5, r5, b5⟩
    have A5 : Hid (At4 w5 w4.heap.size 0 xs) := a5
    have A5' : Hid (At4 w5 w2.heap.size 0 xs) := A4.out.below b5
    have B5 : Hid (Below w'.heap.size w' w5) := B4.out.trans (b5.mono B4.out.size)
    clear a5 r5 b5
    go_wp2_with fail
    refine (eqInsS _ _ xs.length xs.length xs xs w5 (.inr ⟨_, _, rfl, A5'.out⟩) (.inr ⟨_, _, rfl, A5.out⟩) (by omega) (by omega)).mono ?_
    rintro e w6 ⟨rfl, b6⟩
    have B6 : Hid (Below w'.heap.size w' w6) := B5.out.trans (b6.mono B5.out.size)
    rw [show (xs == xs) = true from by simp]
    clear b6
    go_wp2_with fail
    go_ret
    exact ⟨rfl, B6.out⟩
  · go_enter Tryd.func4, Tryd.ntmps4
    go_wp2_with fail
    refine (szInsS a xs.length c 1048576 w hm (by decide) (by decide)).mono ?_
    rintro e w' ⟨rfl, hw⟩
    subst hw
    rw [if_pos (by omega)]
    go_wp2_with fail
    go_ret
    exact ⟨rfl, Below.refl _ _⟩
end Go.Proofs.YtgkehhaoigignaaDoor.Own

/-
  Own text, by program (gen_lawbest.py): laws.FnExactAccBest.
-/
import Derived.Test.YtbbbfnfpmaogoaaPk8
import Derived.Test.YtbbbfnfpmaogoaaPk10
namespace Go.Proofs.Ytbbbfnfpmaogoaa.Own
open Go.RowKit
set_option linter.unusedVariables false
set_option linter.unusedSimpArgs false

set_option maxRecDepth 100000 in
set_option maxHeartbeats 1500000 in
theorem lawAccBest (a b : Option Addr) (c d : Nat) (vs us : List VM) (w : World) (h1 : SlV w a vs) (h2 : SlV w b us) (n1 : vs.length ≤ maxLen) (n2 : us.length ≤ maxLen) (m1 : ∀ i, i < vs.length → (vs.getD i v0).b.xs.length ≤ maxLen ∧ (vs.getD i v0).b.ys.length ≤ maxLen) (m2 : ∀ i, i < us.length → (us.getD i v0).b.xs.length ≤ maxLen ∧ (us.getD i v0).b.ys.length ≤ maxLen) :
    Calls Try.prog 7 #[.slice a vs.length c, .slice b us.length d] w fun e w' => e = .returned (.bool true) ∧ Below w.heap.size w w' := by
  have HA0 : Hid (SlV w a vs) := h1
  have HB0 : Hid (SlV w b us) := h2
  have M1 : Hid (∀ i, i < vs.length → (vs.getD i v0).b.xs.length ≤ maxLen ∧ (vs.getD i v0).b.ys.length ≤ maxLen) := m1
  have M2 : Hid (∀ i, i < us.length → (us.getD i v0).b.xs.length ≤ maxLen ∧ (us.getD i v0).b.ys.length ≤ maxLen) := m2
  have N1 : Hid (vs.length ≤ maxLen) := n1
  have N2 : Hid (us.length ≤ maxLen) := n2
  clear h1 h2 m1 m2 n1 n2
  obtain ⟨s1, hs1⟩ : ∃ s, s = vs.length + sumV vs vs.length := ⟨_, rfl⟩
  obtain ⟨s2, hs2⟩ : ∃ s, s = us.length + sumV us us.length := ⟨_, rfl⟩
  have HS1 : Hid (s1 = vs.length + sumV vs vs.length) := hs1
  have HS2 : Hid (s2 = us.length + sumV us us.length) := hs2
  clear hs1 hs2
  have CZ1 : Hid (Calls Try.prog 34 #[.slice a vs.length c, .int .i64 1048576] w fun e w'' => e = .returned (.int .i64 (if (1048576 : Int) < (s1 : Nat) then -1 else 1048576 - (s1 : Nat))) ∧ Below w.heap.size w w'') := by
    show Calls _ _ _ _ _
    rw [HS1.out]
    exact szVoteS a c vs 1048576 w HA0.out N1.out M1.out (by decide) (by decide)
  have CZ2 : Hid (∀ z : Int, 0 ≤ z → z ≤ 1048576 → ∀ w', Below w.heap.size w w' → Calls Try.prog 34 #[.slice b us.length d, .int .i64 z] w' fun e w'' => e = .returned (.int .i64 (if z < (s2 : Nat) then -1 else z - (s2 : Nat))) ∧ Below w'.heap.size w' w'') := fun z h0 h1 w' hb => by
    rw [HS2.out]
    exact szVoteS b d us z w' (HB0.out.below hb) N2.out M2.out h0 (by omega)
  by_cases hn : s1 ≤ 1048576
  case neg =>
    have F : (if (1048576 : Int) < (s1 : Nat) then (-1 : Int) else 1048576 - (s1 : Nat)) = -1 := if_pos (by omega)
    rw [F] at CZ1
    clear F CZ2 hn
    go_enter Try.func7, Try.ntmps7
    go_wp2_with fail
    refine Calls.mono CZ1.out ?_
    rintro e w1 ⟨rfl, b1⟩
    go_wp2_with fail
    go_ret
    exact ⟨rfl, b1⟩
  have F : (if (1048576 : Int) < (s1 : Nat) then (-1 : Int) else 1048576 - (s1 : Nat)) = 1048576 - (s1 : Nat) := if_neg (by omega)
  rw [F] at CZ1
  clear F
  obtain ⟨z, hz⟩ : ∃ z : Int, z = 1048576 - (s1 : Nat) := ⟨_, rfl⟩
  rw [← hz] at CZ1
  have C2 := CZ2.out z (by omega) (by omega)
  have hz0 : ¬ z < 0 := by omega
  by_cases hn2 : s1 + s2 ≤ 1048576
  case neg =>
    have F : (if z < (s2 : Nat) then (-1 : Int) else z - (s2 : Nat)) = -1 := if_pos (by omega)
    rw [F] at C2
    have D2 : Hid _ := C2
    clear F CZ2 C2 hn hn2 hz
    go_enter Try.func7, Try.ntmps7
    go_wp2_with fail
    refine Calls.mono CZ1.out ?_
    rintro e w1 ⟨rfl, b1⟩
    have B1 : Hid (Below w.heap.size w w1) := b1
    clear b1
    go_wp2_with fail
    refine Calls.mono (D2.out w1 B1.out) ?_
    rintro e w2 ⟨rfl, b2⟩
    go_wp2_with fail
    go_ret
    exact ⟨rfl, B1.out.trans (b2.mono B1.out.size)⟩
  have F : (if z < (s2 : Nat) then (-1 : Int) else z - (s2 : Nat)) = z - (s2 : Nat) := if_neg (by omega)
  rw [F] at C2
  obtain ⟨z2, hz2⟩ : ∃ z' : Int, z' = z - (s2 : Nat) := ⟨_, rfl⟩
  rw [← hz2] at C2
  have hz3 : ¬ z2 < 0 := by omega
  have D2 : Hid _ := C2
  have SA : Hid (Short (2 ^ 21) (bodies vs)) := (Short.of (n := s1) (Nat.le_of_eq HS1.out.symm)).mono (by omega)
  have SB : Hid (Short (2 ^ 21) (bodies us)) := (Short.of (n := s2) (Nat.le_of_eq HS2.out.symm)).mono (by omega)
  have NA : vs.length ≤ 2 ^ 21 := by have := HS1.out; omega
  have NB : us.length ≤ 2 ^ 21 := by have := HS2.out; omega
  have ND : sumV vs vs.length ≤ 2 ^ 21 ∧ sumV us us.length ≤ 2 ^ 21 := by have := HS1.out; have := HS2.out; omega
  clear F CZ2 C2 hn hn2 hz hz2
  go_enter Try.func7, Try.ntmps7
  go_wp2_with fail
  refine Calls.mono CZ1.out ?_
  rintro e w1 ⟨rfl, b1⟩
  have B1 : Hid (Below w.heap.size w w1) := b1
  clear b1
  go_wp2_with fail
  refine Calls.mono (D2.out w1 B1.out) ?_
  rintro e u0 ⟨rfl, b2⟩
  have BW : Hid (Below w.heap.size w u0) := B1.out.trans (b2.mono B1.out.size)
  have HA : Hid (SlV w a vs) := HA0.out
  have HB : Hid (SlV w b us) := HB0.out
  clear b2 B1 CZ1 D2
  have HA : Hid (SlV u0 a vs) := HA.out.below BW.out
  have HB : Hid (SlV u0 b us) := HB.out.below BW.out
  have ZZ : Hid (w.heap.size ≤ u0.heap.size) := BW.out.size
  go_wp2_with fail
  refine (toR a c vs u0 HA.out (by omega) (SA.out.mono (by decide))).mono ?_
  rintro e u1 ⟨p0, Lp0, rfl, o_, y_, l_, b_⟩
  have ZZ : Hid (w.heap.size ≤ u0.heap.size ∧ u0.heap.size ≤ u1.heap.size) := by show w.heap.size ≤ u0.heap.size ∧ u0.heap.size ≤ u1.heap.size; have := ZZ.out; have := b_.size; omega
  have HA : Hid (SlV u1 a vs) := HA.out.below b_
  have HB : Hid (SlV u1 b us) := HB.out.below b_
  have Op0 : Hid (OwnR u1 u0.heap.size u1.heap.size p0 Lp0) := o_
  have Yp0 : Hid (bodies Lp0 = bodies vs) := y_
  have Vp0 : Hid (VLs Lp0) := l_
  have BW : Hid (Below w.heap.size w u1) := BW.out.trans (b_.mono BW.out.size)
  clear b_ o_ y_ l_
  go_wp2_with fail
  refine (toR b d us u1 HB.out (by omega) (SB.out.mono (by decide))).mono ?_
  rintro e u2 ⟨p1, Lp1, rfl, o_, y_, l_, b_⟩
  have ZZ : Hid (w.heap.size ≤ u0.heap.size ∧ u0.heap.size ≤ u1.heap.size ∧ u1.heap.size ≤ u2.heap.size) := by show w.heap.size ≤ u0.heap.size ∧ u0.heap.size ≤ u1.heap.size ∧ u1.heap.size ≤ u2.heap.size; have := ZZ.out; have := b_.size; omega
  have HA : Hid (SlV u2 a vs) := HA.out.below b_
  have HB : Hid (SlV u2 b us) := HB.out.below b_
  have Op0 : Hid (OwnR u2 u0.heap.size u1.heap.size p0 Lp0) := Op0.out.keep b_
  have Op1 : Hid (OwnR u2 u1.heap.size u2.heap.size p1 Lp1) := o_
  have Yp1 : Hid (bodies Lp1 = bodies us) := y_
  have Vp1 : Hid (VLs Lp1) := l_
  have BW : Hid (Below w.heap.size w u2) := BW.out.trans (b_.mono BW.out.size)
  clear b_ o_ y_ l_
  go_wp2_with fail
  refine (bestS _ _ _ _ p0 p1 Lp0 Lp1 u2 Op0.out Op1.out Vp0.out Vp1.out (by have := (bodies_eq Yp0.out).1; omega) (by have := (bodies_eq Yp1.out).1; omega)).mono ?_
  rintro e u3 ⟨vS, LvS, rfl, o_, y_, b_⟩
  have ZZ : Hid (w.heap.size ≤ u0.heap.size ∧ u0.heap.size ≤ u1.heap.size ∧ u1.heap.size ≤ u2.heap.size ∧ u2.heap.size ≤ u3.heap.size) := by show w.heap.size ≤ u0.heap.size ∧ u0.heap.size ≤ u1.heap.size ∧ u1.heap.size ≤ u2.heap.size ∧ u2.heap.size ≤ u3.heap.size; have := ZZ.out; have := b_.size; omega
  have HA : Hid (SlV u3 a vs) := HA.out.below b_
  have HB : Hid (SlV u3 b us) := HB.out.below b_
  have Op0 : Hid (OwnR u3 u0.heap.size u1.heap.size p0 Lp0) := Op0.out.keep b_
  have Op1 : Hid (OwnR u3 u1.heap.size u2.heap.size p1 Lp1) := Op1.out.keep b_
  have OvS : Hid (OwnR u3 u2.heap.size u3.heap.size vS LvS) := o_
  have YvS : Hid (bodies LvS = bestOf (bodies vs) (bodies us)) := by show _ = _; rw [y_, Yp0.out, Yp1.out]
  have BW : Hid (Below w.heap.size w u3) := BW.out.trans (b_.mono BW.out.size)
  clear b_ o_ y_
  go_wp2_with fail
  refine (toR a c vs u3 HA.out (by omega) (SA.out.mono (by decide))).mono ?_
  rintro e u4 ⟨x0, Lx0, rfl, o_, y_, l_, b_⟩
  have ZZ : Hid (w.heap.size ≤ u0.heap.size ∧ u0.heap.size ≤ u1.heap.size ∧ u1.heap.size ≤ u2.heap.size ∧ u2.heap.size ≤ u3.heap.size ∧ u3.heap.size ≤ u4.heap.size) := by show w.heap.size ≤ u0.heap.size ∧ u0.heap.size ≤ u1.heap.size ∧ u1.heap.size ≤ u2.heap.size ∧ u2.heap.size ≤ u3.heap.size ∧ u3.heap.size ≤ u4.heap.size; have := ZZ.out; have := b_.size; omega
  have HA : Hid (SlV u4 a vs) := HA.out.below b_
  have HB : Hid (SlV u4 b us) := HB.out.below b_
  have OvS : Hid (OwnR u4 u2.heap.size u3.heap.size vS LvS) := OvS.out.keep b_
  have Ox0 : Hid (OwnR u4 u3.heap.size u4.heap.size x0 Lx0) := o_
  have Yx0 : Hid (bodies Lx0 = bodies vs) := y_
  have Vx0 : Hid (VLs Lx0) := l_
  have BW : Hid (Below w.heap.size w u4) := BW.out.trans (b_.mono BW.out.size)
  clear b_ Op0 Yp0 Vp0 Op1 Yp1 Vp1 o_ y_ l_
  go_wp2_with fail
  refine (toR b d us u4 HB.out (by omega) (SB.out.mono (by decide))).mono ?_
  rintro e u5 ⟨x1, Lx1, rfl, o_, y_, l_, b_⟩
  have ZZ : Hid (w.heap.size ≤ u0.heap.size ∧ u0.heap.size ≤ u1.heap.size ∧ u1.heap.size ≤ u2.heap.size ∧ u2.heap.size ≤ u3.heap.size ∧ u3.heap.size ≤ u4.heap.size ∧ u4.heap.size ≤ u5.heap.size) := by show w.heap.size ≤ u0.heap.size ∧ u0.heap.size ≤ u1.heap.size ∧ u1.heap.size ≤ u2.heap.size ∧ u2.heap.size ≤ u3.heap.size ∧ u3.heap.size ≤ u4.heap.size ∧ u4.heap.size ≤ u5.heap.size; have := ZZ.out; have := b_.size; omega
  have HA : Hid (SlV u5 a vs) := HA.out.below b_
  have HB : Hid (SlV u5 b us) := HB.out.below b_
  have OvS : Hid (OwnR u5 u2.heap.size u3.heap.size vS LvS) := OvS.out.keep b_
  have Ox0 : Hid (OwnR u5 u3.heap.size u4.heap.size x0 Lx0) := Ox0.out.keep b_
  have Ox1 : Hid (OwnR u5 u4.heap.size u5.heap.size x1 Lx1) := o_
  have Yx1 : Hid (bodies Lx1 = bodies us) := y_
  have Vx1 : Hid (VLs Lx1) := l_
  have BW : Hid (Below w.heap.size w u5) := BW.out.trans (b_.mono BW.out.size)
  clear b_ o_ y_ l_
  go_wp2_with fail
  refine (bestI _ _ _ _ x0 x1 Lx0 Lx1 u5 Ox0.out Ox1.out Vx0.out Vx1.out (by have := (bodies_eq Yx0.out).1; omega) (by have := (bodies_eq Yx1.out).1; omega)).mono ?_
  rintro e u6 ⟨vG, LvG, rfl, o_, y_, b_⟩
  have ZZ : Hid (w.heap.size ≤ u0.heap.size ∧ u0.heap.size ≤ u1.heap.size ∧ u1.heap.size ≤ u2.heap.size ∧ u2.heap.size ≤ u3.heap.size ∧ u3.heap.size ≤ u4.heap.size ∧ u4.heap.size ≤ u5.heap.size ∧ u5.heap.size ≤ u6.heap.size) := by show w.heap.size ≤ u0.heap.size ∧ u0.heap.size ≤ u1.heap.size ∧ u1.heap.size ≤ u2.heap.size ∧ u2.heap.size ≤ u3.heap.size ∧ u3.heap.size ≤ u4.heap.size ∧ u4.heap.size ≤ u5.heap.size ∧ u5.heap.size ≤ u6.heap.size; have := ZZ.out; have := b_.size; omega
  have HA : Hid (SlV u6 a vs) := HA.out.below b_
  have HB : Hid (SlV u6 b us) := HB.out.below b_
  have OvS : Hid (OwnR u6 u2.heap.size u3.heap.size vS LvS) := OvS.out.keep b_
  have Ox0 : Hid (OwnR u6 u3.heap.size u4.heap.size x0 Lx0) := Ox0.out.keep b_
  have Ox1 : Hid (OwnR u6 u4.heap.size u5.heap.size x1 Lx1) := Ox1.out.keep b_
  have OvG : Hid (OwnR u6 u5.heap.size u6.heap.size vG LvG) := o_
  have YvG : Hid (bodies LvG = bestOf (bodies vs) (bodies us)) := by show _ = _; rw [y_, Yx0.out, Yx1.out]
  have BW : Hid (Below w.heap.size w u6) := BW.out.trans (b_.mono BW.out.size)
  clear b_ o_ y_
  go_wp2_with fail
  refine (eqR _ _ _ _ vG vS LvG LvS u6 OvG.out OvS.out (YvG.out.trans YvS.out.symm) (by have := (best_steps YvG.out SA.out SB.out).1; omega) (fun i hi => by have := (Short.vm (n := 2 ^ 21) (by rw [YvG.out]; exact bestOf_short SA.out SB.out)) i hi; omega)).mono ?_
  rintro e u7 ⟨rfl, b_⟩
  have ZZ : Hid (w.heap.size ≤ u0.heap.size ∧ u0.heap.size ≤ u1.heap.size ∧ u1.heap.size ≤ u2.heap.size ∧ u2.heap.size ≤ u3.heap.size ∧ u3.heap.size ≤ u4.heap.size ∧ u4.heap.size ≤ u5.heap.size ∧ u5.heap.size ≤ u6.heap.size ∧ u6.heap.size ≤ u7.heap.size) := by show w.heap.size ≤ u0.heap.size ∧ u0.heap.size ≤ u1.heap.size ∧ u1.heap.size ≤ u2.heap.size ∧ u2.heap.size ≤ u3.heap.size ∧ u3.heap.size ≤ u4.heap.size ∧ u4.heap.size ≤ u5.heap.size ∧ u5.heap.size ≤ u6.heap.size ∧ u6.heap.size ≤ u7.heap.size; have := ZZ.out; have := b_.size; omega
  have HA : Hid (SlV u7 a vs) := HA.out.below b_
  have HB : Hid (SlV u7 b us) := HB.out.below b_
  have OvS : Hid (OwnR u7 u2.heap.size u3.heap.size vS LvS) := OvS.out.keep b_
  have Ox0 : Hid (OwnR u7 u3.heap.size u4.heap.size x0 Lx0) := Ox0.out.keep b_
  have Ox1 : Hid (OwnR u7 u4.heap.size u5.heap.size x1 Lx1) := Ox1.out.keep b_
  have OvG : Hid (OwnR u7 u5.heap.size u6.heap.size vG LvG) := OvG.out.keep b_
  have BW : Hid (Below w.heap.size w u7) := BW.out.trans (b_.mono BW.out.size)
  clear b_ 
  go_wp2_with fail
  refine (toR a c vs u7 HA.out (by omega) (SA.out.mono (by decide))).mono ?_
  rintro e u8 ⟨y0, Ly0, rfl, o_, y_, l_, b_⟩
  have ZZ : Hid (w.heap.size ≤ u0.heap.size ∧ u0.heap.size ≤ u1.heap.size ∧ u1.heap.size ≤ u2.heap.size ∧ u2.heap.size ≤ u3.heap.size ∧ u3.heap.size ≤ u4.heap.size ∧ u4.heap.size ≤ u5.heap.size ∧ u5.heap.size ≤ u6.heap.size ∧ u6.heap.size ≤ u7.heap.size ∧ u7.heap.size ≤ u8.heap.size) := by show w.heap.size ≤ u0.heap.size ∧ u0.heap.size ≤ u1.heap.size ∧ u1.heap.size ≤ u2.heap.size ∧ u2.heap.size ≤ u3.heap.size ∧ u3.heap.size ≤ u4.heap.size ∧ u4.heap.size ≤ u5.heap.size ∧ u5.heap.size ≤ u6.heap.size ∧ u6.heap.size ≤ u7.heap.size ∧ u7.heap.size ≤ u8.heap.size; have := ZZ.out; have := b_.size; omega
  have HA : Hid (SlV u8 a vs) := HA.out.below b_
  have HB : Hid (SlV u8 b us) := HB.out.below b_
  have OvS : Hid (OwnR u8 u2.heap.size u3.heap.size vS LvS) := OvS.out.keep b_
  have Ox0 : Hid (OwnR u8 u3.heap.size u4.heap.size x0 Lx0) := Ox0.out.keep b_
  have Ox1 : Hid (OwnR u8 u4.heap.size u5.heap.size x1 Lx1) := Ox1.out.keep b_
  have OvG : Hid (OwnR u8 u5.heap.size u6.heap.size vG LvG) := OvG.out.keep b_
  have Oy0 : Hid (OwnR u8 u7.heap.size u8.heap.size y0 Ly0) := o_
  have Yy0 : Hid (bodies Ly0 = bodies vs) := y_
  have Vy0 : Hid (VLs Ly0) := l_
  have BW : Hid (Below w.heap.size w u8) := BW.out.trans (b_.mono BW.out.size)
  clear b_ o_ y_ l_
  go_wp2_with fail
  refine (eqR _ _ _ _ x0 y0 Lx0 Ly0 u8 Ox0.out Oy0.out (Yx0.out.trans Yy0.out.symm) (by have := (bodies_eq Yx0.out).1; omega) (fun i hi => by have := (Short.vm (n := 2 ^ 21) (by rw [Yx0.out]; exact SA.out)) i hi; omega)).mono ?_
  rintro e u9 ⟨rfl, b_⟩
  have ZZ : Hid (w.heap.size ≤ u0.heap.size ∧ u0.heap.size ≤ u1.heap.size ∧ u1.heap.size ≤ u2.heap.size ∧ u2.heap.size ≤ u3.heap.size ∧ u3.heap.size ≤ u4.heap.size ∧ u4.heap.size ≤ u5.heap.size ∧ u5.heap.size ≤ u6.heap.size ∧ u6.heap.size ≤ u7.heap.size ∧ u7.heap.size ≤ u8.heap.size ∧ u8.heap.size ≤ u9.heap.size) := by show w.heap.size ≤ u0.heap.size ∧ u0.heap.size ≤ u1.heap.size ∧ u1.heap.size ≤ u2.heap.size ∧ u2.heap.size ≤ u3.heap.size ∧ u3.heap.size ≤ u4.heap.size ∧ u4.heap.size ≤ u5.heap.size ∧ u5.heap.size ≤ u6.heap.size ∧ u6.heap.size ≤ u7.heap.size ∧ u7.heap.size ≤ u8.heap.size ∧ u8.heap.size ≤ u9.heap.size; have := ZZ.out; have := b_.size; omega
  have HA : Hid (SlV u9 a vs) := HA.out.below b_
  have HB : Hid (SlV u9 b us) := HB.out.below b_
  have OvS : Hid (OwnR u9 u2.heap.size u3.heap.size vS LvS) := OvS.out.keep b_
  have Ox0 : Hid (OwnR u9 u3.heap.size u4.heap.size x0 Lx0) := Ox0.out.keep b_
  have Ox1 : Hid (OwnR u9 u4.heap.size u5.heap.size x1 Lx1) := Ox1.out.keep b_
  have OvG : Hid (OwnR u9 u5.heap.size u6.heap.size vG LvG) := OvG.out.keep b_
  have Oy0 : Hid (OwnR u9 u7.heap.size u8.heap.size y0 Ly0) := Oy0.out.keep b_
  have BW : Hid (Below w.heap.size w u9) := BW.out.trans (b_.mono BW.out.size)
  clear b_ 
  go_wp2_with fail
  refine (toR b d us u9 HB.out (by omega) (SB.out.mono (by decide))).mono ?_
  rintro e u10 ⟨y1, Ly1, rfl, o_, y_, l_, b_⟩
  have ZZ : Hid (w.heap.size ≤ u0.heap.size ∧ u0.heap.size ≤ u1.heap.size ∧ u1.heap.size ≤ u2.heap.size ∧ u2.heap.size ≤ u3.heap.size ∧ u3.heap.size ≤ u4.heap.size ∧ u4.heap.size ≤ u5.heap.size ∧ u5.heap.size ≤ u6.heap.size ∧ u6.heap.size ≤ u7.heap.size ∧ u7.heap.size ≤ u8.heap.size ∧ u8.heap.size ≤ u9.heap.size ∧ u9.heap.size ≤ u10.heap.size) := by show w.heap.size ≤ u0.heap.size ∧ u0.heap.size ≤ u1.heap.size ∧ u1.heap.size ≤ u2.heap.size ∧ u2.heap.size ≤ u3.heap.size ∧ u3.heap.size ≤ u4.heap.size ∧ u4.heap.size ≤ u5.heap.size ∧ u5.heap.size ≤ u6.heap.size ∧ u6.heap.size ≤ u7.heap.size ∧ u7.heap.size ≤ u8.heap.size ∧ u8.heap.size ≤ u9.heap.size ∧ u9.heap.size ≤ u10.heap.size; have := ZZ.out; have := b_.size; omega
  have HA : Hid (SlV u10 a vs) := HA.out.below b_
  have HB : Hid (SlV u10 b us) := HB.out.below b_
  have OvS : Hid (OwnR u10 u2.heap.size u3.heap.size vS LvS) := OvS.out.keep b_
  have Ox0 : Hid (OwnR u10 u3.heap.size u4.heap.size x0 Lx0) := Ox0.out.keep b_
  have Ox1 : Hid (OwnR u10 u4.heap.size u5.heap.size x1 Lx1) := Ox1.out.keep b_
  have OvG : Hid (OwnR u10 u5.heap.size u6.heap.size vG LvG) := OvG.out.keep b_
  have Oy1 : Hid (OwnR u10 u9.heap.size u10.heap.size y1 Ly1) := o_
  have Yy1 : Hid (bodies Ly1 = bodies us) := y_
  have Vy1 : Hid (VLs Ly1) := l_
  have BW : Hid (Below w.heap.size w u10) := BW.out.trans (b_.mono BW.out.size)
  clear b_ Oy0 Yy0 Vy0 o_ y_ l_
  go_wp2_with fail
  refine (eqR _ _ _ _ x1 y1 Lx1 Ly1 u10 Ox1.out Oy1.out (Yx1.out.trans Yy1.out.symm) (by have := (bodies_eq Yx1.out).1; omega) (fun i hi => by have := (Short.vm (n := 2 ^ 21) (by rw [Yx1.out]; exact SB.out)) i hi; omega)).mono ?_
  rintro e u11 ⟨rfl, b_⟩
  have ZZ : Hid (w.heap.size ≤ u0.heap.size ∧ u0.heap.size ≤ u1.heap.size ∧ u1.heap.size ≤ u2.heap.size ∧ u2.heap.size ≤ u3.heap.size ∧ u3.heap.size ≤ u4.heap.size ∧ u4.heap.size ≤ u5.heap.size ∧ u5.heap.size ≤ u6.heap.size ∧ u6.heap.size ≤ u7.heap.size ∧ u7.heap.size ≤ u8.heap.size ∧ u8.heap.size ≤ u9.heap.size ∧ u9.heap.size ≤ u10.heap.size ∧ u10.heap.size ≤ u11.heap.size) := by show w.heap.size ≤ u0.heap.size ∧ u0.heap.size ≤ u1.heap.size ∧ u1.heap.size ≤ u2.heap.size ∧ u2.heap.size ≤ u3.heap.size ∧ u3.heap.size ≤ u4.heap.size ∧ u4.heap.size ≤ u5.heap.size ∧ u5.heap.size ≤ u6.heap.size ∧ u6.heap.size ≤ u7.heap.size ∧ u7.heap.size ≤ u8.heap.size ∧ u8.heap.size ≤ u9.heap.size ∧ u9.heap.size ≤ u10.heap.size ∧ u10.heap.size ≤ u11.heap.size; have := ZZ.out; have := b_.size; omega
  have HA : Hid (SlV u11 a vs) := HA.out.below b_
  have HB : Hid (SlV u11 b us) := HB.out.below b_
  have OvS : Hid (OwnR u11 u2.heap.size u3.heap.size vS LvS) := OvS.out.keep b_
  have Ox0 : Hid (OwnR u11 u3.heap.size u4.heap.size x0 Lx0) := Ox0.out.keep b_
  have Ox1 : Hid (OwnR u11 u4.heap.size u5.heap.size x1 Lx1) := Ox1.out.keep b_
  have OvG : Hid (OwnR u11 u5.heap.size u6.heap.size vG LvG) := OvG.out.keep b_
  have Oy1 : Hid (OwnR u11 u9.heap.size u10.heap.size y1 Ly1) := Oy1.out.keep b_
  have BW : Hid (Below w.heap.size w u11) := BW.out.trans (b_.mono BW.out.size)
  clear b_ 
  have MKx0 : Hid (stepsV Lx0 Lx0.length ≤ 2 ^ 24) := by show _ ≤ _; rw [stepsV_body Yx0.out, stepsV_sum]; omega
  have MNx0 : Hid (Lx0.length ≤ 2 ^ 30) := by show _ ≤ _; rw [(bodies_eq Yx0.out).1]; omega
  have MKx1 : Hid (stepsV Lx1 Lx1.length ≤ 2 ^ 24) := by show _ ≤ _; rw [stepsV_body Yx1.out, stepsV_sum]; omega
  have MNx1 : Hid (Lx1.length ≤ 2 ^ 30) := by show _ ≤ _; rw [(bodies_eq Yx1.out).1]; omega
  have MKvG : Hid (stepsV LvG LvG.length ≤ 2 ^ 30) := (best_steps YvG.out SA.out SB.out).2
  have MNvG : Hid (LvG.length ≤ 2 ^ 30) := by show _ ≤ _; have := (best_steps YvG.out SA.out SB.out).1; omega
  have MPx0 : Hid ((0 : Int) ≤ 1 ∧ (1 : Int) ≤ 2 ^ 30) := ⟨by decide, by decide⟩
  have MPvG : Hid ((0 : Int) ≤ 1 ∧ (1 : Int) ≤ 2 ^ 30) := ⟨by decide, by decide⟩
  have MPx1 : Hid ((0 : Int) ≤ (1 + (stepsV Lx0 Lx0.length : Nat) : Int) ∧ (1 + (stepsV Lx0 Lx0.length : Nat) : Int) ≤ 2 ^ 30) := by show _ ∧ _; have := MKx0.out; omega
  have MR : Hid (¬ ((1 + (stepsV Lx0 Lx0.length : Nat) + (stepsV Lx1 Lx1.length : Nat) : Int) < 0)) := by show ¬ _; omega
  have MRG : Hid (¬ ((1 + (stepsV LvG LvG.length : Nat) : Int) < 0)) := by show ¬ _; omega
  go_wp2_with fail
  refine (markR _ _ x0 Lx0 1 u11 Ox0.out MNx0.out (by have := MPx0.out; omega) (by have := MPx0.out; omega) (by have := MKx0.out; omega)).mono ?_
  rintro e u12 ⟨rfl, h_, o_⟩
  have ZZ : Hid (w.heap.size ≤ u0.heap.size ∧ u0.heap.size ≤ u1.heap.size ∧ u1.heap.size ≤ u2.heap.size ∧ u2.heap.size ≤ u3.heap.size ∧ u3.heap.size ≤ u4.heap.size ∧ u4.heap.size ≤ u5.heap.size ∧ u5.heap.size ≤ u6.heap.size ∧ u6.heap.size ≤ u7.heap.size ∧ u7.heap.size ≤ u8.heap.size ∧ u8.heap.size ≤ u9.heap.size ∧ u9.heap.size ≤ u10.heap.size ∧ u10.heap.size ≤ u11.heap.size ∧ u11.heap.size ≤ u12.heap.size) := by show w.heap.size ≤ u0.heap.size ∧ u0.heap.size ≤ u1.heap.size ∧ u1.heap.size ≤ u2.heap.size ∧ u2.heap.size ≤ u3.heap.size ∧ u3.heap.size ≤ u4.heap.size ∧ u4.heap.size ≤ u5.heap.size ∧ u5.heap.size ≤ u6.heap.size ∧ u6.heap.size ≤ u7.heap.size ∧ u7.heap.size ≤ u8.heap.size ∧ u8.heap.size ≤ u9.heap.size ∧ u9.heap.size ≤ u10.heap.size ∧ u10.heap.size ≤ u11.heap.size ∧ u11.heap.size ≤ u12.heap.size; have := ZZ.out; have := o_.size; omega
  have OvS : Hid (OwnR u12 u2.heap.size u3.heap.size vS LvS) := OvS.out.out o_ (by have := ZZ.out; omega)
  have Ox1 : Hid (OwnR u12 u4.heap.size u5.heap.size x1 Lx1) := Ox1.out.out o_ (by have := ZZ.out; omega)
  have OvG : Hid (OwnR u12 u5.heap.size u6.heap.size vG LvG) := OvG.out.out o_ (by have := ZZ.out; omega)
  have BW : Hid (Below w.heap.size w u12) := BW.out.trans (o_.below.mono (show w.heap.size ≤ u3.heap.size by have := ZZ.out; omega))
  have HA : Hid (SlV u12 a vs) := HA0.out.below BW.out
  have HB : Hid (SlV u12 b us) := HB0.out.below BW.out
  clear h_ o_
  go_wp2_with fail
  refine (markR _ _ x1 Lx1 (1 + (stepsV Lx0 Lx0.length : Nat)) u12 Ox1.out MNx1.out (by have := MPx1.out; omega) (by have := MPx1.out; omega) (by have := MKx1.out; omega)).mono ?_
  rintro e u13 ⟨rfl, h_, o_⟩
  have ZZ : Hid (w.heap.size ≤ u0.heap.size ∧ u0.heap.size ≤ u1.heap.size ∧ u1.heap.size ≤ u2.heap.size ∧ u2.heap.size ≤ u3.heap.size ∧ u3.heap.size ≤ u4.heap.size ∧ u4.heap.size ≤ u5.heap.size ∧ u5.heap.size ≤ u6.heap.size ∧ u6.heap.size ≤ u7.heap.size ∧ u7.heap.size ≤ u8.heap.size ∧ u8.heap.size ≤ u9.heap.size ∧ u9.heap.size ≤ u10.heap.size ∧ u10.heap.size ≤ u11.heap.size ∧ u11.heap.size ≤ u12.heap.size ∧ u12.heap.size ≤ u13.heap.size) := by show w.heap.size ≤ u0.heap.size ∧ u0.heap.size ≤ u1.heap.size ∧ u1.heap.size ≤ u2.heap.size ∧ u2.heap.size ≤ u3.heap.size ∧ u3.heap.size ≤ u4.heap.size ∧ u4.heap.size ≤ u5.heap.size ∧ u5.heap.size ≤ u6.heap.size ∧ u6.heap.size ≤ u7.heap.size ∧ u7.heap.size ≤ u8.heap.size ∧ u8.heap.size ≤ u9.heap.size ∧ u9.heap.size ≤ u10.heap.size ∧ u10.heap.size ≤ u11.heap.size ∧ u11.heap.size ≤ u12.heap.size ∧ u12.heap.size ≤ u13.heap.size; have := ZZ.out; have := o_.size; omega
  have OvS : Hid (OwnR u13 u2.heap.size u3.heap.size vS LvS) := OvS.out.out o_ (by have := ZZ.out; omega)
  have OvG : Hid (OwnR u13 u5.heap.size u6.heap.size vG LvG) := OvG.out.out o_ (by have := ZZ.out; omega)
  have BW : Hid (Below w.heap.size w u13) := BW.out.trans (o_.below.mono (show w.heap.size ≤ u4.heap.size by have := ZZ.out; omega))
  have HA : Hid (SlV u13 a vs) := HA0.out.below BW.out
  have HB : Hid (SlV u13 b us) := HB0.out.below BW.out
  clear h_ o_
  generalize hq1 : (1 + (stepsV Lx0 Lx0.length : Nat) + (stepsV Lx1 Lx1.length : Nat) : Int) = q1 at MR ⊢
  have mr := MR.out
  go_wp2_with fail
  refine (eqR _ _ _ _ vG vS LvG LvS u13 OvG.out OvS.out (YvG.out.trans YvS.out.symm) (by have := (best_steps YvG.out SA.out SB.out).1; omega) (fun i hi => by have := (Short.vm (n := 2 ^ 21) (by rw [YvG.out]; exact bestOf_short SA.out SB.out)) i hi; omega)).mono ?_
  rintro e u14 ⟨rfl, b_⟩
  have ZZ : Hid (w.heap.size ≤ u0.heap.size ∧ u0.heap.size ≤ u1.heap.size ∧ u1.heap.size ≤ u2.heap.size ∧ u2.heap.size ≤ u3.heap.size ∧ u3.heap.size ≤ u4.heap.size ∧ u4.heap.size ≤ u5.heap.size ∧ u5.heap.size ≤ u6.heap.size ∧ u6.heap.size ≤ u7.heap.size ∧ u7.heap.size ≤ u8.heap.size ∧ u8.heap.size ≤ u9.heap.size ∧ u9.heap.size ≤ u10.heap.size ∧ u10.heap.size ≤ u11.heap.size ∧ u11.heap.size ≤ u12.heap.size ∧ u12.heap.size ≤ u13.heap.size ∧ u13.heap.size ≤ u14.heap.size) := by show w.heap.size ≤ u0.heap.size ∧ u0.heap.size ≤ u1.heap.size ∧ u1.heap.size ≤ u2.heap.size ∧ u2.heap.size ≤ u3.heap.size ∧ u3.heap.size ≤ u4.heap.size ∧ u4.heap.size ≤ u5.heap.size ∧ u5.heap.size ≤ u6.heap.size ∧ u6.heap.size ≤ u7.heap.size ∧ u7.heap.size ≤ u8.heap.size ∧ u8.heap.size ≤ u9.heap.size ∧ u9.heap.size ≤ u10.heap.size ∧ u10.heap.size ≤ u11.heap.size ∧ u11.heap.size ≤ u12.heap.size ∧ u12.heap.size ≤ u13.heap.size ∧ u13.heap.size ≤ u14.heap.size; have := ZZ.out; have := b_.size; omega
  have HA : Hid (SlV u14 a vs) := HA.out.below b_
  have HB : Hid (SlV u14 b us) := HB.out.below b_
  have OvS : Hid (OwnR u14 u2.heap.size u3.heap.size vS LvS) := OvS.out.keep b_
  have OvG : Hid (OwnR u14 u5.heap.size u6.heap.size vG LvG) := OvG.out.keep b_
  have BW : Hid (Below w.heap.size w u14) := BW.out.trans (b_.mono BW.out.size)
  clear b_ Oy1 Yy1 Vy1
  go_wp2_with fail
  refine (markR _ _ vG LvG 1 u14 OvG.out MNvG.out (by have := MPvG.out; omega) (by have := MPvG.out; omega) (by have := MKvG.out; omega)).mono ?_
  rintro e u15 ⟨rfl, h_, o_⟩
  have ZZ : Hid (w.heap.size ≤ u0.heap.size ∧ u0.heap.size ≤ u1.heap.size ∧ u1.heap.size ≤ u2.heap.size ∧ u2.heap.size ≤ u3.heap.size ∧ u3.heap.size ≤ u4.heap.size ∧ u4.heap.size ≤ u5.heap.size ∧ u5.heap.size ≤ u6.heap.size ∧ u6.heap.size ≤ u7.heap.size ∧ u7.heap.size ≤ u8.heap.size ∧ u8.heap.size ≤ u9.heap.size ∧ u9.heap.size ≤ u10.heap.size ∧ u10.heap.size ≤ u11.heap.size ∧ u11.heap.size ≤ u12.heap.size ∧ u12.heap.size ≤ u13.heap.size ∧ u13.heap.size ≤ u14.heap.size ∧ u14.heap.size ≤ u15.heap.size) := by show w.heap.size ≤ u0.heap.size ∧ u0.heap.size ≤ u1.heap.size ∧ u1.heap.size ≤ u2.heap.size ∧ u2.heap.size ≤ u3.heap.size ∧ u3.heap.size ≤ u4.heap.size ∧ u4.heap.size ≤ u5.heap.size ∧ u5.heap.size ≤ u6.heap.size ∧ u6.heap.size ≤ u7.heap.size ∧ u7.heap.size ≤ u8.heap.size ∧ u8.heap.size ≤ u9.heap.size ∧ u9.heap.size ≤ u10.heap.size ∧ u10.heap.size ≤ u11.heap.size ∧ u11.heap.size ≤ u12.heap.size ∧ u12.heap.size ≤ u13.heap.size ∧ u13.heap.size ≤ u14.heap.size ∧ u14.heap.size ≤ u15.heap.size; have := ZZ.out; have := o_.size; omega
  have OvS : Hid (OwnR u15 u2.heap.size u3.heap.size vS LvS) := OvS.out.out o_ (by have := ZZ.out; omega)
  have BW : Hid (Below w.heap.size w u15) := BW.out.trans (o_.below.mono (show w.heap.size ≤ u5.heap.size by have := ZZ.out; omega))
  have KvG : Hid (HeldR u15 u5.heap.size u6.heap.size vG 1 LvG) := h_
  have HA : Hid (SlV u15 a vs) := HA0.out.below BW.out
  have HB : Hid (SlV u15 b us) := HB0.out.below BW.out
  clear h_ o_
  go_wp2_with fail
  refine (heldR _ _ vG LvG 1 u15 KvG.out MNvG.out (by decide) (by decide) MKvG.out).mono ?_
  rintro e u15' ⟨rfl, hw⟩
  subst hw
  have mrg := MRG.out
  generalize hq2 : (1 + (stepsV LvG LvG.length : Nat) : Int) = q2 at mrg ⊢
  have ZZ : Hid (w.heap.size ≤ u0.heap.size ∧ u0.heap.size ≤ u1.heap.size ∧ u1.heap.size ≤ u2.heap.size ∧ u2.heap.size ≤ u3.heap.size ∧ u3.heap.size ≤ u4.heap.size ∧ u4.heap.size ≤ u5.heap.size ∧ u5.heap.size ≤ u6.heap.size ∧ u6.heap.size ≤ u7.heap.size ∧ u7.heap.size ≤ u8.heap.size ∧ u8.heap.size ≤ u9.heap.size ∧ u9.heap.size ≤ u10.heap.size ∧ u10.heap.size ≤ u11.heap.size ∧ u11.heap.size ≤ u12.heap.size ∧ u12.heap.size ≤ u13.heap.size ∧ u13.heap.size ≤ u14.heap.size ∧ u14.heap.size ≤ u15'.heap.size) := ZZ.out
  go_wp2_with fail
  refine (toR a c vs u15' HA.out (by omega) (SA.out.mono (by decide))).mono ?_
  rintro e u16 ⟨z0, Lz0, rfl, o_, y_, l_, b_⟩
  have ZZ : Hid (w.heap.size ≤ u0.heap.size ∧ u0.heap.size ≤ u1.heap.size ∧ u1.heap.size ≤ u2.heap.size ∧ u2.heap.size ≤ u3.heap.size ∧ u3.heap.size ≤ u4.heap.size ∧ u4.heap.size ≤ u5.heap.size ∧ u5.heap.size ≤ u6.heap.size ∧ u6.heap.size ≤ u7.heap.size ∧ u7.heap.size ≤ u8.heap.size ∧ u8.heap.size ≤ u9.heap.size ∧ u9.heap.size ≤ u10.heap.size ∧ u10.heap.size ≤ u11.heap.size ∧ u11.heap.size ≤ u12.heap.size ∧ u12.heap.size ≤ u13.heap.size ∧ u13.heap.size ≤ u14.heap.size ∧ u14.heap.size ≤ u15'.heap.size ∧ u15'.heap.size ≤ u16.heap.size) := by show w.heap.size ≤ u0.heap.size ∧ u0.heap.size ≤ u1.heap.size ∧ u1.heap.size ≤ u2.heap.size ∧ u2.heap.size ≤ u3.heap.size ∧ u3.heap.size ≤ u4.heap.size ∧ u4.heap.size ≤ u5.heap.size ∧ u5.heap.size ≤ u6.heap.size ∧ u6.heap.size ≤ u7.heap.size ∧ u7.heap.size ≤ u8.heap.size ∧ u8.heap.size ≤ u9.heap.size ∧ u9.heap.size ≤ u10.heap.size ∧ u10.heap.size ≤ u11.heap.size ∧ u11.heap.size ≤ u12.heap.size ∧ u12.heap.size ≤ u13.heap.size ∧ u13.heap.size ≤ u14.heap.size ∧ u14.heap.size ≤ u15'.heap.size ∧ u15'.heap.size ≤ u16.heap.size; have := ZZ.out; have := b_.size; omega
  have HA : Hid (SlV u16 a vs) := HA.out.below b_
  have HB : Hid (SlV u16 b us) := HB.out.below b_
  have OvS : Hid (OwnR u16 u2.heap.size u3.heap.size vS LvS) := OvS.out.keep b_
  have KvG : Hid (HeldR u16 u5.heap.size u6.heap.size vG 1 LvG) := KvG.out.keep b_
  have Oz0 : Hid (OwnR u16 u15'.heap.size u16.heap.size z0 Lz0) := o_
  have Yz0 : Hid (bodies Lz0 = bodies vs) := y_
  have Vz0 : Hid (VLs Lz0) := l_
  have BW : Hid (Below w.heap.size w u16) := BW.out.trans (b_.mono BW.out.size)
  clear b_ o_ y_ l_
  go_wp2_with fail
  refine (toR b d us u16 HB.out (by omega) (SB.out.mono (by decide))).mono ?_
  rintro e u17 ⟨z1, Lz1, rfl, o_, y_, l_, b_⟩
  have ZZ : Hid (w.heap.size ≤ u0.heap.size ∧ u0.heap.size ≤ u1.heap.size ∧ u1.heap.size ≤ u2.heap.size ∧ u2.heap.size ≤ u3.heap.size ∧ u3.heap.size ≤ u4.heap.size ∧ u4.heap.size ≤ u5.heap.size ∧ u5.heap.size ≤ u6.heap.size ∧ u6.heap.size ≤ u7.heap.size ∧ u7.heap.size ≤ u8.heap.size ∧ u8.heap.size ≤ u9.heap.size ∧ u9.heap.size ≤ u10.heap.size ∧ u10.heap.size ≤ u11.heap.size ∧ u11.heap.size ≤ u12.heap.size ∧ u12.heap.size ≤ u13.heap.size ∧ u13.heap.size ≤ u14.heap.size ∧ u14.heap.size ≤ u15'.heap.size ∧ u15'.heap.size ≤ u16.heap.size ∧ u16.heap.size ≤ u17.heap.size) := by show w.heap.size ≤ u0.heap.size ∧ u0.heap.size ≤ u1.heap.size ∧ u1.heap.size ≤ u2.heap.size ∧ u2.heap.size ≤ u3.heap.size ∧ u3.heap.size ≤ u4.heap.size ∧ u4.heap.size ≤ u5.heap.size ∧ u5.heap.size ≤ u6.heap.size ∧ u6.heap.size ≤ u7.heap.size ∧ u7.heap.size ≤ u8.heap.size ∧ u8.heap.size ≤ u9.heap.size ∧ u9.heap.size ≤ u10.heap.size ∧ u10.heap.size ≤ u11.heap.size ∧ u11.heap.size ≤ u12.heap.size ∧ u12.heap.size ≤ u13.heap.size ∧ u13.heap.size ≤ u14.heap.size ∧ u14.heap.size ≤ u15'.heap.size ∧ u15'.heap.size ≤ u16.heap.size ∧ u16.heap.size ≤ u17.heap.size; have := ZZ.out; have := b_.size; omega
  have HA : Hid (SlV u17 a vs) := HA.out.below b_
  have HB : Hid (SlV u17 b us) := HB.out.below b_
  have OvS : Hid (OwnR u17 u2.heap.size u3.heap.size vS LvS) := OvS.out.keep b_
  have KvG : Hid (HeldR u17 u5.heap.size u6.heap.size vG 1 LvG) := KvG.out.keep b_
  have Oz0 : Hid (OwnR u17 u15'.heap.size u16.heap.size z0 Lz0) := Oz0.out.keep b_
  have Oz1 : Hid (OwnR u17 u16.heap.size u17.heap.size z1 Lz1) := o_
  have Yz1 : Hid (bodies Lz1 = bodies us) := y_
  have Vz1 : Hid (VLs Lz1) := l_
  have BW : Hid (Below w.heap.size w u17) := BW.out.trans (b_.mono BW.out.size)
  clear b_ o_ y_ l_
  go_wp2_with fail
  refine (bestI _ _ _ _ z0 z1 Lz0 Lz1 u17 Oz0.out Oz1.out Vz0.out Vz1.out (by have := (bodies_eq Yz0.out).1; omega) (by have := (bodies_eq Yz1.out).1; omega)).mono ?_
  rintro e u18 ⟨vH, LvH, rfl, o_, y_, b_⟩
  have ZZ : Hid (w.heap.size ≤ u0.heap.size ∧ u0.heap.size ≤ u1.heap.size ∧ u1.heap.size ≤ u2.heap.size ∧ u2.heap.size ≤ u3.heap.size ∧ u3.heap.size ≤ u4.heap.size ∧ u4.heap.size ≤ u5.heap.size ∧ u5.heap.size ≤ u6.heap.size ∧ u6.heap.size ≤ u7.heap.size ∧ u7.heap.size ≤ u8.heap.size ∧ u8.heap.size ≤ u9.heap.size ∧ u9.heap.size ≤ u10.heap.size ∧ u10.heap.size ≤ u11.heap.size ∧ u11.heap.size ≤ u12.heap.size ∧ u12.heap.size ≤ u13.heap.size ∧ u13.heap.size ≤ u14.heap.size ∧ u14.heap.size ≤ u15'.heap.size ∧ u15'.heap.size ≤ u16.heap.size ∧ u16.heap.size ≤ u17.heap.size ∧ u17.heap.size ≤ u18.heap.size) := by show w.heap.size ≤ u0.heap.size ∧ u0.heap.size ≤ u1.heap.size ∧ u1.heap.size ≤ u2.heap.size ∧ u2.heap.size ≤ u3.heap.size ∧ u3.heap.size ≤ u4.heap.size ∧ u4.heap.size ≤ u5.heap.size ∧ u5.heap.size ≤ u6.heap.size ∧ u6.heap.size ≤ u7.heap.size ∧ u7.heap.size ≤ u8.heap.size ∧ u8.heap.size ≤ u9.heap.size ∧ u9.heap.size ≤ u10.heap.size ∧ u10.heap.size ≤ u11.heap.size ∧ u11.heap.size ≤ u12.heap.size ∧ u12.heap.size ≤ u13.heap.size ∧ u13.heap.size ≤ u14.heap.size ∧ u14.heap.size ≤ u15'.heap.size ∧ u15'.heap.size ≤ u16.heap.size ∧ u16.heap.size ≤ u17.heap.size ∧ u17.heap.size ≤ u18.heap.size; have := ZZ.out; have := b_.size; omega
  have HA : Hid (SlV u18 a vs) := HA.out.below b_
  have HB : Hid (SlV u18 b us) := HB.out.below b_
  have OvS : Hid (OwnR u18 u2.heap.size u3.heap.size vS LvS) := OvS.out.keep b_
  have KvG : Hid (HeldR u18 u5.heap.size u6.heap.size vG 1 LvG) := KvG.out.keep b_
  have Oz0 : Hid (OwnR u18 u15'.heap.size u16.heap.size z0 Lz0) := Oz0.out.keep b_
  have Oz1 : Hid (OwnR u18 u16.heap.size u17.heap.size z1 Lz1) := Oz1.out.keep b_
  have OvH : Hid (OwnR u18 u17.heap.size u18.heap.size vH LvH) := o_
  have YvH : Hid (bodies LvH = bestOf (bodies vs) (bodies us)) := by show _ = _; rw [y_, Yz0.out, Yz1.out]
  have BW : Hid (Below w.heap.size w u18) := BW.out.trans (b_.mono BW.out.size)
  clear b_ o_ y_
  go_wp2_with fail
  refine (eqR _ _ _ _ vH vS LvH LvS u18 OvH.out OvS.out (YvH.out.trans YvS.out.symm) (by have := (best_steps YvH.out SA.out SB.out).1; omega) (fun i hi => by have := (Short.vm (n := 2 ^ 21) (by rw [YvH.out]; exact bestOf_short SA.out SB.out)) i hi; omega)).mono ?_
  rintro e u19 ⟨rfl, b_⟩
  have ZZ : Hid (w.heap.size ≤ u0.heap.size ∧ u0.heap.size ≤ u1.heap.size ∧ u1.heap.size ≤ u2.heap.size ∧ u2.heap.size ≤ u3.heap.size ∧ u3.heap.size ≤ u4.heap.size ∧ u4.heap.size ≤ u5.heap.size ∧ u5.heap.size ≤ u6.heap.size ∧ u6.heap.size ≤ u7.heap.size ∧ u7.heap.size ≤ u8.heap.size ∧ u8.heap.size ≤ u9.heap.size ∧ u9.heap.size ≤ u10.heap.size ∧ u10.heap.size ≤ u11.heap.size ∧ u11.heap.size ≤ u12.heap.size ∧ u12.heap.size ≤ u13.heap.size ∧ u13.heap.size ≤ u14.heap.size ∧ u14.heap.size ≤ u15'.heap.size ∧ u15'.heap.size ≤ u16.heap.size ∧ u16.heap.size ≤ u17.heap.size ∧ u17.heap.size ≤ u18.heap.size ∧ u18.heap.size ≤ u19.heap.size) := by show w.heap.size ≤ u0.heap.size ∧ u0.heap.size ≤ u1.heap.size ∧ u1.heap.size ≤ u2.heap.size ∧ u2.heap.size ≤ u3.heap.size ∧ u3.heap.size ≤ u4.heap.size ∧ u4.heap.size ≤ u5.heap.size ∧ u5.heap.size ≤ u6.heap.size ∧ u6.heap.size ≤ u7.heap.size ∧ u7.heap.size ≤ u8.heap.size ∧ u8.heap.size ≤ u9.heap.size ∧ u9.heap.size ≤ u10.heap.size ∧ u10.heap.size ≤ u11.heap.size ∧ u11.heap.size ≤ u12.heap.size ∧ u12.heap.size ≤ u13.heap.size ∧ u13.heap.size ≤ u14.heap.size ∧ u14.heap.size ≤ u15'.heap.size ∧ u15'.heap.size ≤ u16.heap.size ∧ u16.heap.size ≤ u17.heap.size ∧ u17.heap.size ≤ u18.heap.size ∧ u18.heap.size ≤ u19.heap.size; have := ZZ.out; have := b_.size; omega
  have HA : Hid (SlV u19 a vs) := HA.out.below b_
  have HB : Hid (SlV u19 b us) := HB.out.below b_
  have OvS : Hid (OwnR u19 u2.heap.size u3.heap.size vS LvS) := OvS.out.keep b_
  have KvG : Hid (HeldR u19 u5.heap.size u6.heap.size vG 1 LvG) := KvG.out.keep b_
  have Oz0 : Hid (OwnR u19 u15'.heap.size u16.heap.size z0 Lz0) := Oz0.out.keep b_
  have Oz1 : Hid (OwnR u19 u16.heap.size u17.heap.size z1 Lz1) := Oz1.out.keep b_
  have OvH : Hid (OwnR u19 u17.heap.size u18.heap.size vH LvH) := OvH.out.keep b_
  have BW : Hid (Below w.heap.size w u19) := BW.out.trans (b_.mono BW.out.size)
  clear b_ 
  go_wp2_with fail
  refine (heldR _ _ vG LvG 1 u19 KvG.out MNvG.out (by decide) (by decide) MKvG.out).mono ?_
  rintro e u20 ⟨rfl, hw⟩
  subst hw
  rw [hq2]
  go_wp2_with fail
  go_ret
  exact ⟨rfl, BW.out⟩
theorem lawAccBestF (a : Option Addr) (c : Nat) (vs : List VM) (b : Option Addr) (d : Nat) (us : List VM) (w : World) (h1 : SlV w a vs) (n1 : vs.length ≤ maxLen) (m1 : ∀ i, i < vs.length → (vs.getD i v0).b.xs.length ≤ maxLen ∧ (vs.getD i v0).b.ys.length ≤ maxLen) (h2 : SlV w b us) (n2 : us.length ≤ maxLen) (m2 : ∀ i, i < us.length → (us.getD i v0).b.xs.length ≤ maxLen ∧ (us.getD i v0).b.ys.length ≤ maxLen) :
    Calls Try.prog 7 #[.slice a vs.length c, .slice b us.length d] w fun e w' => e = .returned (.bool true) ∧ Below w.heap.size w w' := lawAccBest a b c d vs us w h1 h2 n1 n2 m1 m2
end Go.Proofs.Ytbbbfnfpmaogoaa.Own

/-
  Own text: laws.FnExactSerialOne.
-/
import Derived.Test.YtiibonnchmphcaaQSerOneS
import Derived.Test.YtiibonnchmphcaaQLawExecRun
namespace Go.Proofs.Ytiibonnchmphcaa.Own
open Go.RowKit
set_option linter.unusedVariables false
set_option linter.unusedSimpArgs false

theorem serialOne_len (bs : List P2) (xs : List Q4) : (serialOne bs xs).length ≤ 4 := by
  by_cases h : (execRun bs xs).code = 3
  · rw [(serialOne_form h).1]; simp
  · obtain ⟨h1, _, h3, _⟩ := serialOne_do h
    rw [h3, doPuts_length, boxOk_len h1]; exact Nat.le_refl _

set_option maxRecDepth 100000 in
set_option maxHeartbeats 4000000 in
theorem lawSerialOne (a : Option Addr) (c : Nat) (bs : List P2) (a' : Option Addr) (c' : Nat) (xs : List Q4) (w : World) (h0 : Sl w a bs) (m0 : bs.length ≤ maxLen) (h1 : Sl4 w a' xs) (m1 : xs.length ≤ maxLen) :
    Calls Try.prog 12 #[.slice a bs.length c, .slice a' xs.length c'] w fun e w' => e = .returned (.bool true) ∧ Below w.heap.size w w' := by
  have H0 : Hid (Sl w a bs) := h0
  have H1 : Hid (Sl4 w a' xs) := h1
  clear h0 h1
  by_cases hn : bs.length ≤ 1048576
  · by_cases hn2 : xs.length ≤ 1048576 - bs.length
    · have l0 : bs.length ≤ 2 ^ 40 := by omega
      have l1 : xs.length ≤ 2 ^ 40 := by omega
      have f1 := serialOne_len bs xs
      have IR : Hid (∀ (b g : Nat) (W : World), BoxAt W b 0 bs → At4 W g 0 xs → Calls Try.prog 42 #[.slice (some ⟨b, 0, none⟩) bs.length bs.length, .slice (some ⟨g, 0, none⟩) xs.length xs.length] W fun e w' => (∃ ad cap, e = .returned (.tuple #[.slice ad (serialOne bs xs).length cap, .int .i64 (execRun bs xs).val, .int .i64 (execRun bs xs).code]) ∧ OwnB w' W.heap.size ad (serialOne bs xs)) ∧ Below W.heap.size W w') := fun b g W hb hg => (implSerialOne _ _ bs.length xs.length bs xs W (.inr ⟨_, _, rfl, hb⟩) (.inr ⟨_, _, rfl, hg⟩) (Nat.le_refl _) l1).mono (fun e w' ⟨⟨ad, cap, h1, _, h3⟩, h4⟩ => ⟨⟨ad, cap, h1, h3⟩, h4⟩)
      have SR : Hid (∀ (b g : Nat) (W : World), BoxAt W b 0 bs → At4 W g 0 xs → Calls Try.prog 43 #[.slice (some ⟨b, 0, none⟩) bs.length bs.length, .slice (some ⟨g, 0, none⟩) xs.length xs.length] W fun e w' => (∃ ad cap, e = .returned (.tuple #[.slice ad (serialOne bs xs).length cap, .int .i64 (execRun bs xs).val, .int .i64 (execRun bs xs).code]) ∧ OwnB w' W.heap.size ad (serialOne bs xs)) ∧ Below W.heap.size W w') := fun b g W hb hg => (specSerialOne _ _ bs.length xs.length bs xs W (.inr ⟨_, _, rfl, hb⟩) (.inr ⟨_, _, rfl, hg⟩) l0 l1).mono (fun e w' ⟨⟨ad, cap, h1, _, h3⟩, h4⟩ => ⟨⟨ad, cap, h1, h3⟩, h4⟩)
      generalize serialOne bs xs = R at f1 IR SR
      generalize (execRun bs xs).val = vv at IR SR
      generalize (execRun bs xs).code = cc at IR SR
      have eb : (bs == bs) = true := by simp
      have ex : (xs == xs) = true := by simp
      have er : (R == R) = true := by simp
      have ev : (vv != vv) = false := by simp
      have ec : (cc != cc) = false := by simp
      go_enter Try.func12, Try.ntmps12
      go_wp2_with fail
      refine (szBoxS a bs.length c 1048576 w m0 (by decide) (by decide)).mono ?_
      rintro e w1 ⟨rfl, hw⟩
      subst hw
      rw [if_neg (by omega)]
      go_wp2_with fail
      refine (szInsS a' xs.length c' (1048576 - bs.length) w1 m1 (by omega) (by omega)).mono ?_
      rintro e w2 ⟨rfl, hw⟩
      subst hw
      rw [if_neg (by omega)]
      go_wp2_with fail
      refine (toBoxS a c bs w2 H0.out l0).mono ?_
      rintro e w3 ⟨rfl, x3, _, b3⟩
      have X3 : Hid (BoxAt w3 w2.heap.size 0 bs) := x3
      have B3 : Hid (Below w2.heap.size w2 w3) := b3
      clear x3 b3
      go_wp2_with fail
      refine (toInsS a' c' xs w3 (H1.out.below B3.out) l1).mono ?_
      rintro e w4 ⟨rfl, y4, _, b4⟩
      have X4 : Hid (BoxAt w4 w2.heap.size 0 bs) := X3.out.below b4
      have Y4 : Hid (At4 w4 w3.heap.size 0 xs) := y4
      have B4 : Hid (Below w2.heap.size w2 w4) := B3.out.trans (b4.mono B3.out.size)
      clear y4 b4
      go_wp2_with fail
      refine Calls.mono (SR.out _ _ w4 X4.out Y4.out) ?_
      rintro e X ⟨⟨s1, d1, rfl, hs⟩, b5⟩
      have SX : Hid (OwnB X w4.heap.size s1 R) := hs
      have SG : Hid (R = [] ∨ ∃ g, s1 = some ⟨g, 0, none⟩ ∧ g < X.heap.size) := by
        rcases hs with h | ⟨g, e, _, h, _⟩
        · exact .inl h
        · exact .inr ⟨g, e, h.1⟩
      have BX : Hid (Below w2.heap.size w2 X) := B4.out.trans (b5.mono B4.out.size)
      clear hs b5
      go_wp2_with fail
      refine (toBoxS a c bs X (H0.out.below BX.out) l0).mono ?_
      rintro e w6 ⟨rfl, x6, r6, b6⟩
      have X6 : Hid (BoxAt w6 X.heap.size 0 bs ∧ Row w6 X.heap.size bs.length) := ⟨x6, r6⟩
      have K6 : Hid (Below X.heap.size X w6) := b6
      clear x6 b6 r6
      go_wp2_with fail
      refine (toInsS a' c' xs w6 ((H1.out.below BX.out).below K6.out) l1).mono ?_
      rintro e w7 ⟨rfl, y7, r7, b7⟩
      have X7 : Hid (BoxAt w7 X.heap.size 0 bs ∧ Row w7 X.heap.size bs.length) := ⟨X6.out.1.below b7, X6.out.2.below b7 X6.out.1.1⟩
      have Y7 : Hid (At4 w7 w6.heap.size 0 xs ∧ Row4 w7 w6.heap.size xs.length) := ⟨y7, r7⟩
      have K7 : Hid (Below X.heap.size X w7) := K6.out.trans (b7.mono K6.out.size)
      have S67 : Hid (X.heap.size < w6.heap.size ∧ w6.heap.size < w7.heap.size) := ⟨X6.out.1.1, y7.1⟩
      clear y7 b7 r7
      go_wp2_with fail
      refine Calls.mono (IR.out _ _ w7 X7.out.1 Y7.out.1) ?_
      rintro e Z ⟨⟨g1, e1, rfl, hg⟩, bZ⟩
      have GZ : Hid (OwnB Z w7.heap.size g1 R) := hg
      have KZ : Hid (Below X.heap.size X Z) := K7.out.trans (bZ.mono K7.out.size)
      have XZ : Hid (BoxAt Z X.heap.size 0 bs ∧ Row Z X.heap.size bs.length) := ⟨X7.out.1.below bZ, X7.out.2.below bZ X7.out.1.1⟩
      have YZ : Hid (At4 Z w6.heap.size 0 xs ∧ Row4 Z w6.heap.size xs.length) := ⟨Y7.out.1.below bZ, Y7.out.2.below bZ Y7.out.1.1⟩
      have AT : Hid (∀ W : World, Below Z.heap.size Z W → Hid (OwnB W w4.heap.size s1 R ∧ OwnB W w7.heap.size g1 R ∧ (BoxAt W X.heap.size 0 bs ∧ Row W X.heap.size bs.length) ∧ At4 W w6.heap.size 0 xs ∧ Row4 W w6.heap.size xs.length) ∧ Hid (Sl W a bs ∧ Sl4 W a' xs)) := fun W hb =>
        ⟨⟨(SX.out.below KZ.out).below hb, GZ.out.below hb, ⟨XZ.out.1.below hb, XZ.out.2.below hb XZ.out.1.1⟩, YZ.out.1.below hb, YZ.out.2.below hb YZ.out.1.1⟩, (((H0.out.below BX.out).below KZ.out).below hb), (((H1.out.below BX.out).below KZ.out).below hb)⟩
      have BZ : Hid (Below w2.heap.size w2 Z) := BX.out.trans (KZ.out.mono BX.out.size)
      clear hg bZ
      obtain ⟨R0, SS0⟩ := AT.out Z (Below.refl _ _)
      go_wp2_with fail
      refine (eqBoxS g1 s1 e1 d1 R R Z R0.out.2.1.sl R0.out.1.sl (by omega) (by omega)).mono ?_
      rintro e w9 ⟨rfl, b9⟩
      rw [er]
      have K9 : Hid (Below Z.heap.size Z w9) := b9
      clear b9
      obtain ⟨R9, SS9⟩ := AT.out w9 K9.out
      go_wp2_with fail
      refine (toBoxS a c bs w9 SS9.out.1 l0).mono ?_
      rintro e w10 ⟨rfl, x10, _, b10⟩
      have K10 : Hid (Below Z.heap.size Z w10) := K9.out.trans (b10.mono K9.out.size)
      have X10 : Hid (BoxAt w10 w9.heap.size 0 bs) := x10
      clear x10 b10
      obtain ⟨R10, _⟩ := AT.out w10 K10.out
      go_wp2_with fail
      refine (eqBoxS _ _ bs.length bs.length bs bs w10 (.inr ⟨_, _, rfl, R10.out.2.2.1.1⟩) (.inr ⟨_, _, rfl, X10.out⟩) l0 l0).mono ?_
      rintro e w11 ⟨rfl, b11⟩
      rw [eb]
      have K11 : Hid (Below Z.heap.size Z w11) := K10.out.trans (b11.mono K10.out.size)
      clear b11
      obtain ⟨R11, SS11⟩ := AT.out w11 K11.out
      go_wp2_with fail
      refine (toInsS a' c' xs w11 SS11.out.2 l1).mono ?_
      rintro e w12 ⟨rfl, y12, _, b12⟩
      have K12 : Hid (Below Z.heap.size Z w12) := K11.out.trans (b12.mono K11.out.size)
      have Y12 : Hid (At4 w12 w11.heap.size 0 xs) := y12
      clear y12 b12
      obtain ⟨R12, _⟩ := AT.out w12 K12.out
      go_wp2_with fail
      refine (eqInsS _ _ xs.length xs.length xs xs w12 (.inr ⟨_, _, rfl, R12.out.2.2.2.1⟩) (.inr ⟨_, _, rfl, Y12.out⟩) l1 l1).mono ?_
      rintro e w13 ⟨rfl, b13⟩
      rw [ex]
      have K13 : Hid (Below Z.heap.size Z w13) := K12.out.trans (b13.mono K12.out.size)
      clear b13
      obtain ⟨R13, SS13⟩ := AT.out w13 K13.out
      go_wp2_with fail
      refine (markBoxB (some ⟨X.heap.size, 0, none⟩) bs.length bs.length 0 bs 1 w13 (.inr ⟨_, rfl, Nat.zero_le _, R13.out.2.2.1.1, fun o => R13.out.2.2.1.2.frozen o⟩) rfl l0 (by decide) (by decide)).mono ?_
      rintro e w14 ⟨rfl, _, t14⟩
      have T14 : Hid (Turned [X.heap.size] w13 w14) := Turned.ofOnlyB t14 (fun g e => by injection e with e; injection e with e1; simp [e1])
      clear t14
      have RW : Hid (Row4 w14 w6.heap.size xs.length) := R13.out.2.2.2.2.turned T14.out (by have := S67.out; simp; omega)
      go_wp2_with fail
      refine (markInsT w6.heap.size xs.length xs.length (1 + 2 * bs.length) w14 l1 (by omega) (by omega) RW.out).mono ?_
      rintro e w15 ⟨rfl, t15⟩
      have T15 : Hid (Turned [X.heap.size, w6.heap.size] w13 w15) := (T14.out.mono (by simp)).trans (t15.mono (by simp))
      clear t15
      have hs6 := S67.out
      have S15 : Hid (Sl w15 s1 R) := by
        rcases SG.out with h | ⟨g, e, h⟩
        · exact .inl h
        · exact R13.out.1.sl.turned T15.out (fun x e' => by rw [e] at e'; injection e' with e'; subst e'; simp; omega)
      have G15 : Hid (OwnB w15 w7.heap.size g1 R) := by
        by_cases hne : R = []
        · exact .inl hne
        · exact R13.out.2.1.turned T15.out (fun g e => by have := R13.out.2.1.from g hne e; simp; omega)
      have W15 : Hid (Below w2.heap.size w2 w15) := by
        have h := BZ.out.trans (K13.out.mono BZ.out.size)
        exact h.trans (T15.out.below (fun x hx => by have := BX.out.size; simp at hx; omega) h.size)
      have pos : ¬ (1 : Int) + 2 * (bs.length : Int) + 4 * (xs.length : Int) < 0 := by omega
      go_wp2_with fail
      refine (eqBoxS g1 s1 e1 d1 R R w15 G15.out.sl S15.out (by omega) (by omega)).mono ?_
      rintro e w16 ⟨rfl, b16⟩
      rw [er]
      have S16 : Hid (Sl w16 s1 R) := S15.out.below b16
      have G16 : Hid (OwnB w16 w7.heap.size g1 R) := G15.out.below b16
      have W16 : Hid (Below w2.heap.size w2 w16) := W15.out.trans (b16.mono W15.out.size)
      clear b16
      go_wp2_with fail
      refine (markBoxB g1 e1 R.length w7.heap.size R 1 w16 G16.out rfl (by omega) (by decide) (by decide)).mono ?_
      rintro e w17 ⟨rfl, k1, t17⟩
      have O1 : Hid (OwnB w17 w7.heap.size g1 (marks 1 R.length)) := k1
      have b17 : Below w7.heap.size w16 w17 := t17.below G16.out.from
      have S17 : Hid (Sl w17 s1 R) := by
        rcases SG.out with h' | ⟨g, e, h'⟩
        · exact .inl h'
        · rcases S16.out with h | ⟨b, off, e2, h⟩
          · exact .inl h
          · rw [e] at e2
            injection e2 with e2
            injection e2 with e3 e4
            subst e3 e4
            have hc : ∀ o, w17.cell? ⟨g, o, none⟩ = w16.cell? ⟨g, o, none⟩ := fun o => b17.cell (p := ⟨g, o, none⟩) (by show g < _; omega)
            exact .inr ⟨g, 0, e, Nat.lt_of_lt_of_le h.1 b17.size, fun i hi => by rw [hc, hc]; exact h.2 i hi⟩
      have W17 : Hid (Below w2.heap.size w2 w17) := W16.out.trans (b17.mono (by have := BX.out.size; omega))
      clear t17 k1 b17
      go_wp2_with fail
      refine (heldBoxB g1 e1 R.length w7.heap.size 1 w17 O1.out (by omega) (by decide) (by decide)).mono ?_
      rintro e w18 ⟨rfl, hw⟩
      subst hw
      have ps : ¬ (1 : Int) + 2 * (R.length : Int) < 0 := by omega
      have pe : ((1 : Int) + 2 * (R.length : Int) != 1 + 2 * (R.length : Int)) = false := by simp
      go_wp2_with fail
      refine (toBoxS a c bs w18 (H0.out.below W17.out) l0).mono ?_
      rintro e w19 ⟨rfl, x19, _, b19⟩
      have X19 : Hid (BoxAt w19 w18.heap.size 0 bs) := x19
      have K19 : Hid (Below w18.heap.size w18 w19) := b19
      clear x19 b19
      go_wp2_with fail
      refine (toInsS a' c' xs w19 ((H1.out.below W17.out).below K19.out) l1).mono ?_
      rintro e w20 ⟨rfl, y20, _, b20⟩
      have X20 : Hid (BoxAt w20 w18.heap.size 0 bs) := X19.out.below b20
      have Y20 : Hid (At4 w20 w19.heap.size 0 xs) := y20
      have K20 : Hid (Below w18.heap.size w18 w20) := K19.out.trans (b20.mono K19.out.size)
      clear y20 b20
      go_wp2_with fail
      refine Calls.mono (IR.out _ _ w20 X20.out Y20.out) ?_
      rintro e V ⟨⟨h1, i1, rfl, hv⟩, b21⟩
      have bV : Below w18.heap.size w18 V := K20.out.trans (b21.mono K20.out.size)
      have HV : Hid (OwnB V w20.heap.size h1 R) := hv
      have O1v : Hid (OwnB V w7.heap.size g1 (marks 1 R.length)) := O1.out.below bV
      have Sv : Hid (Sl V s1 R) := S17.out.below bV
      have Wv : Hid (Below w2.heap.size w2 V) := W17.out.trans (bV.mono W17.out.size)
      clear bV b21 hv
      go_wp2_with fail
      refine (eqBoxS h1 s1 i1 d1 R R V HV.out.sl Sv.out (by omega) (by omega)).mono ?_
      rintro e w22 ⟨rfl, b22⟩
      rw [er]
      have O1w : Hid (OwnB w22 w7.heap.size g1 (marks 1 R.length)) := O1v.out.below b22
      have Ww : Hid (Below w2.heap.size w2 w22) := Wv.out.trans (b22.mono Wv.out.size)
      clear b22
      go_wp2_with fail
      refine (heldBoxB g1 e1 R.length w7.heap.size 1 w22 O1w.out (by omega) (by decide) (by decide)).mono ?_
      rintro e w23 ⟨rfl, hw⟩
      subst hw
      go_wp2_with fail
      go_ret
      exact ⟨rfl, Ww.out⟩
    · go_enter Try.func12, Try.ntmps12
      go_wp2_with fail
      refine (szBoxS a bs.length c 1048576 w m0 (by decide) (by decide)).mono ?_
      rintro e w1 ⟨rfl, hw⟩
      subst hw
      rw [if_neg (by omega)]
      go_wp2_with fail
      refine (szInsS a' xs.length c' (1048576 - bs.length) w1 m1 (by omega) (by omega)).mono ?_
      rintro e w2 ⟨rfl, hw⟩
      subst hw
      rw [if_pos (by omega)]
      go_wp2_with fail
      go_ret
      exact ⟨rfl, Below.refl _ _⟩
  · go_enter Try.func12, Try.ntmps12
    go_wp2_with fail
    refine (szBoxS a bs.length c 1048576 w m0 (by decide) (by decide)).mono ?_
    rintro e w1 ⟨rfl, hw⟩
    subst hw
    rw [if_pos (by omega)]
    go_wp2_with fail
    go_ret
    exact ⟨rfl, Below.refl _ _⟩
end Go.Proofs.Ytiibonnchmphcaa.Own

/-
  Own text: laws.FnProg.
-/
import Derived.Test.YtbcnmmofccackaaGreatDoorProgMathZ
import Derived.Test.YtbcnmmofccackaaGreatDoorReadS3
import Derived.Test.YtbcnmmofccackaaGreatDoorProgSameI
import Derived.Test.YtbcnmmofccackaaGreatDoorProgOkI
import Derived.Test.YtbcnmmofccackaaGreatDoorProgOkS
import Derived.Test.YtbcnmmofccackaaGreatDoorGatherL
import Derived.Test.YtbcnmmofccackaaGreatDoorGatherP
import Derived.Test.YtbcnmmofccackaaGreatDoorBoxesSL
import Derived.Test.YtbcnmmofccackaaGreatDoorBoxesSP
import Derived.Test.YtbcnmmofccackaaGreatDoorProgTextI
namespace Go.Proofs.YtbcnmmofccackaaGreatDoor.Own
open Go.RowKit
set_option linter.unusedVariables false
set_option linter.unusedSimpArgs false

theorem Prog4.slAll {w w' : World} {g c : Nat} {xs : List Q4} (h : Prog4 w g c xs) (hb : Below w.heap.size w w') : Sl4 w' (some ⟨g, 0, none⟩) xs := .inr ⟨g, 0, rfl, h.1.below hb⟩

set_option maxRecDepth 100000 in
set_option maxHeartbeats 8000000 in
theorem lawProg (a : Option Addr) (n c : Nat) (a' : Option Addr) (n' c' : Nat) (w : World) (hE : Env w) (h : Bytes w w.heap.size a n) (hc : n ≤ c) (hm : c ≤ maxLen) (h' : Bytes w w.heap.size a' n') (hc' : n' ≤ c') (hm' : c' ≤ maxLen) :
    Calls Tryz.prog 3 #[.slice a n c, .slice a' n' c'] w fun e w' => e = .returned (.bool true) ∧ Below w.heap.size w w' := by
  have HE : Hid (Env w) := hE
  have HB : Hid (Bytes w w.heap.size a n) := h
  have HB' : Hid (Bytes w w.heap.size a' n') := h'
  have HM : Hid (c ≤ maxLen) := hm
  have HM' : Hid (c' ≤ maxLen) := hm'
  clear h h' hE
  unfold maxLen at hm hm'
  by_cases hn : n ≤ 1048576
  · have hd : decide ((1048576 : Int) < (n : Int)) = false := by simp; omega
    by_cases hn' : n' ≤ 1048576
    · have hd' : decide ((1048576 : Int) < (n' : Int)) = false := by simp; omega
      go_enter Tryz.func3, Tryz.ntmps3
      go_wp2_with fail
      refine (drawProgText a n c w HB.out hc HM.out).mono ?_
      rintro e w1 ⟨g1, c1, xs, rfl, p1, b1⟩
      have P1 : Hid (Prog4 w1 g1 c1 xs) := p1
      have B1 : Hid (Below w.heap.size w w1) := b1
      have l1 := p1.2.2.1
      have WF : Hid (Wf4 xs) := p1.2.2.2.wf
      clear p1 b1
      have ENV : Hid (∀ w', Below w1.heap.size w1 w' → Env w') := fun w' hb => HE.out.keep (B1.out.trans (hb.mono B1.out.size))
      have SL : Hid (∀ w', Below w1.heap.size w1 w' → Sl4 w' (some ⟨g1, 0, none⟩) xs) := fun w' hb => P1.out.slAll hb
      obtain ⟨s, hs⟩ : ∃ s, s = str (progTo xs xs.length) := ⟨_, rfl⟩
      have sz : s.size ≤ 1048576 := by
        have := progTo_len xs WF.out xs.length (Nat.le_refl _)
        rw [hs, str_size]; omega
      have SX : Hid (s.data.toList = progText xs) := by show _ = _; rw [hs, str_list, progTo_all]
      have IT : Hid (∀ w', Below w1.heap.size w1 w' → (Calls Tryz.prog 5 #[.slice (some ⟨g1, 0, none⟩) xs.length c1] w' fun e w'' => e = .returned (.string s) ∧ Below w'.heap.size w' w'') ∧ (Calls Tryz.prog 7 #[.slice (some ⟨g1, 0, none⟩) xs.length c1] w' fun e w'' => e = .returned (.string s) ∧ Below w'.heap.size w' w'')) := fun w' hb => by
        rw [hs]
        exact ⟨implProgText _ c1 xs w' (SL.out w' hb) (by omega) WF.out (ENV.out w' hb).1, specProgText _ c1 xs w' (SL.out w' hb) (by omega) WF.out⟩
      clear hs
      go_wp2_with fail
      refine (IT.out w1 (Below.refl _ _)).1.mono ?_
      rintro e w2 ⟨rfl, b2⟩
      have K2 : Hid (Below w1.heap.size w1 w2) := b2
      clear b2
      go_wp2_with fail
      refine (implProgRead s w2 sz (ENV.out w2 K2.out)).mono ?_
      rintro e w3 ⟨hr, b3⟩
      obtain ⟨ys, ok, v0, hrt, rfl, o3⟩ := reads_right hr
      rw [SX.out] at hrt
      have ly := right_len hrt
      have RT : Hid (Right (progText xs) ys ok) := hrt
      obtain ⟨ay, cy, rfl, sly, _⟩ := o3.open
      have SY : Hid (Sl4 w3 ay ys) := sly
      have K3 : Hid (Below w1.heap.size w1 w3) := K2.out.trans (b3.mono K2.out.size)
      clear hr hrt o3 sly b3
      have PO : Hid (∀ w', Below w1.heap.size w1 w' → (Calls Tryz.prog 8 #[.slice (some ⟨g1, 0, none⟩) xs.length c1] w' fun e w'' => e = .returned (.bool (progOk xs)) ∧ Below w'.heap.size w' w'') ∧ (Calls Tryz.prog 9 #[.slice (some ⟨g1, 0, none⟩) xs.length c1] w' fun e w'' => e = .returned (.bool (progOk xs)) ∧ Below w'.heap.size w' w'')) := fun w' hb =>
        ⟨implProgOk _ c1 xs w' (SL.out w' hb) (by omega), specProgOk _ c1 xs w' (SL.out w' hb) (by omega)⟩
      have PS : Hid (∀ w', Below w3.heap.size w3 w' → Below w1.heap.size w1 w' → Calls Tryz.prog 10 #[.slice ay ys.length cy, .slice (some ⟨g1, 0, none⟩) xs.length c1] w' fun e w'' => e = .returned (.bool (ys == xs)) ∧ Below w'.heap.size w' w'') := fun w' hb hb1 =>
        implProgSame _ _ cy c1 ys xs w' (SY.out.below hb) (SL.out w' hb1) (by omega) (by omega)
      have RG : Hid (progOk xs = true → ok = true ∧ (ys == xs) = true) := fun h => by
        obtain ⟨h1, h2⟩ := right_of RT.out h
        exact ⟨h1, by rw [h2]; simp⟩
      generalize progOk xs = rx at PO RG
      generalize (ys == xs) = q at PS RG
      go_upto_region 6 with fail
      go_cut [59] from 35 to 59 (fun x wx => x = .bool false ∧ Below w3.heap.size w3 wx)
      case first =>
        go_wp2_with fail
        refine (IT.out w3 K3.out).2.mono ?_
        rintro e w4 ⟨rfl, b4⟩
        have J4 : Hid (Below w3.heap.size w3 w4) := b4
        have K4 : Hid (Below w1.heap.size w1 w4) := K3.out.trans (b4.mono K3.out.size)
        clear b4
        go_wp2_with fail
        refine (PO.out w4 K4.out).1.mono ?_
        rintro e w5 ⟨rfl, b5⟩
        have J5 : Hid (Below w3.heap.size w3 w5) := J4.out.trans (b5.mono J4.out.size)
        have K5 : Hid (Below w1.heap.size w1 w5) := K4.out.trans (b5.mono K4.out.size)
        clear b5
        go_wp2_with fail
        refine (PO.out w5 K5.out).2.mono ?_
        rintro e w6 ⟨rfl, b6⟩
        have J6 : Hid (Below w3.heap.size w3 w6) := J5.out.trans (b6.mono J5.out.size)
        have K6 : Hid (Below w1.heap.size w1 w6) := K5.out.trans (b6.mono K5.out.size)
        clear b6
        cases rx with
        | false =>
          go_wp2_with fail
          refine (PO.out w6 K6.out).2.mono ?_
          rintro e w7 ⟨rfl, b7⟩
          have J7 : Hid (Below w3.heap.size w3 w7) := J6.out.trans (b7.mono J6.out.size)
          clear b7
          go_wp2_with fail
          go_meet
          exact ⟨rfl, J7.out⟩
        | true =>
          obtain ⟨rfl, rfl⟩ := RG.out rfl
          go_wp2_with fail
          refine (PO.out w6 K6.out).2.mono ?_
          rintro e w7 ⟨rfl, b7⟩
          have J7 : Hid (Below w3.heap.size w3 w7) := J6.out.trans (b7.mono J6.out.size)
          have K7 : Hid (Below w1.heap.size w1 w7) := K6.out.trans (b7.mono K6.out.size)
          clear b7
          go_wp2_with fail
          refine (PS.out w7 J7.out K7.out).mono ?_
          rintro e w8 ⟨rfl, b8⟩
          have J8 : Hid (Below w3.heap.size w3 w8) := J7.out.trans (b8.mono J7.out.size)
          clear b8
          go_wp2_with fail
          go_meet
          exact ⟨rfl, J8.out⟩
      case rest =>
        obtain ⟨rfl, hB4⟩ := hcut
        rename World => v4
        have K4 : Hid (Below w1.heap.size w1 v4) := K3.out.trans (hB4.mono K3.out.size)
        have W4 : Hid (Below w.heap.size w v4) := B1.out.trans (K4.out.mono B1.out.size)
        clear hB4 RG PS PO RT SX
        go_wp2_with fail
        refine (drawProgRead a' n' c' v4 (HB'.out.belowZ W4.out) hc' HM'.out).mono ?_
        rintro e w5 ⟨⟨t, rfl, tz⟩, b5⟩
        have K5 : Hid (Below w1.heap.size w1 w5) := K4.out.trans (b5.mono K4.out.size)
        clear b5
        go_wp2_with fail
        refine (implProgRead t w5 (by omega) (ENV.out w5 K5.out)).mono ?_
        rintro e w6 ⟨hr, b6⟩
        obtain ⟨zs, fine, v1, hrt, rfl, o6⟩ := reads_right hr
        have lz := right_len hrt
        have RT : Hid (Right t.data.toList zs fine) := hrt
        obtain ⟨az, cz, rfl, slz, _⟩ := o6.open
        have SZ : Hid (Sl4 w6 az zs) := slz
        have K6 : Hid (Below w1.heap.size w1 w6) := K5.out.trans (b6.mono K5.out.size)
        clear hr hrt o6 slz b6
        go_wp2_with fail
        refine (specProgRead t w6 (by omega)).mono ?_
        rintro e w7 ⟨hr, b7⟩
        obtain ⟨v2, rfl, _⟩ := reads_same hr RT.out
        have J7 : Hid (Below w6.heap.size w6 w7) := b7
        have K7 : Hid (Below w1.heap.size w1 w7) := K6.out.trans (b7.mono K6.out.size)
        clear hr b7
        have CZ : Hid (fine = true → ∀ w', Below w6.heap.size w6 w' → (Calls Tryz.prog 5 #[.slice az zs.length cz] w' fun e w'' => e = .returned (.string t) ∧ Below w'.heap.size w' w'') ∧ (Calls Tryz.prog 8 #[.slice az zs.length cz] w' fun e w'' => e = .returned (.bool true) ∧ Below w'.heap.size w' w'')) := fun hf w' hb => by
          rcases RT.out with ⟨_, h2, h3⟩ | ⟨h1, _, _⟩
          · have e1 : str (progTo zs zs.length) = t := by rw [progTo_all, h3, str_of]
            have x1 := implProgText az cz zs w' (SZ.out.below hb) (by omega) (progOk_wf h2) (ENV.out w' (K6.out.trans (hb.mono K6.out.size))).1
            have x2 := implProgOk az cz zs w' (SZ.out.below hb) (by omega)
            rw [e1] at x1
            rw [h2] at x2
            exact ⟨x1, x2⟩
          · rw [h1] at hf; cases hf
        go_upto_region 11 with fail
        go_cut [88] from 72 to 88 (fun x wx => x = .bool false ∧ Below w7.heap.size w7 wx)
        case first =>
          cases fine with
          | false =>
            go_wp2_with fail
            go_meet
            exact ⟨rfl, Below.refl _ _⟩
          | true =>
            go_wp2_with fail
            refine (CZ.out trivial w7 J7.out).1.mono ?_
            rintro e w8 ⟨rfl, b8⟩
            have J8 : Hid (Below w7.heap.size w7 w8) := b8
            have I8 : Hid (Below w6.heap.size w6 w8) := J7.out.trans (b8.mono J7.out.size)
            clear b8
            go_wp2_with fail
            refine (CZ.out trivial w8 I8.out).2.mono ?_
            rintro e w9 ⟨rfl, b9⟩
            have J9 : Hid (Below w7.heap.size w7 w9) := J8.out.trans (b9.mono J8.out.size)
            clear b9
            go_wp2_with fail
            go_meet
            exact ⟨rfl, J9.out⟩
        case rest =>
          obtain ⟨rfl, hB8⟩ := hcut
          rename World => v8
          have K8 : Hid (Below w1.heap.size w1 v8) := K7.out.trans (hB8.mono K7.out.size)
          clear hB8 CZ RT
          have LP : Hid (∀ w', Below w1.heap.size w1 w' → (Calls Tryz.prog 13 #[.slice (some ⟨g1, 0, none⟩) xs.length c1] w' fun e w'' => (∃ ad cap, e = .returned (.slice ad (boxesTo loadsQ xs 4).length cap) ∧ SlI w'' ad (boxesTo loadsQ xs 4)) ∧ Below w'.heap.size w' w'') ∧ (Calls Tryz.prog 14 #[.slice (some ⟨g1, 0, none⟩) xs.length c1] w' fun e w'' => (∃ ad cap, e = .returned (.slice ad (boxesTo putsQ xs 4).length cap) ∧ SlI w'' ad (boxesTo putsQ xs 4)) ∧ Below w'.heap.size w' w'') ∧ (Calls Tryz.prog 15 #[.slice (some ⟨g1, 0, none⟩) xs.length c1] w' fun e w'' => (∃ ad cap, e = .returned (.slice ad (boxesTo loadsQ xs 4).length cap)) ∧ Below w'.heap.size w' w'') ∧ (Calls Tryz.prog 16 #[.slice (some ⟨g1, 0, none⟩) xs.length c1] w' fun e w'' => (∃ ad cap, e = .returned (.slice ad (boxesTo putsQ xs 4).length cap)) ∧ Below w'.heap.size w' w'')) := fun w' hb => by
            refine ⟨(implProgLoads _ c1 xs (by omega) w' (SL.out w' hb)).mono ?_, (implProgPuts _ c1 xs (by omega) w' (SL.out w' hb)).mono ?_, (specProgLoads _ c1 xs w' (SL.out w' hb) (by omega)).mono ?_, (specProgPuts _ c1 xs w' (SL.out w' hb) (by omega)).mono ?_⟩
            · rintro e w'' ⟨⟨v, rfl, ho⟩, hb⟩
              obtain ⟨ad, cap, rfl, hs⟩ := row_ints ho
              exact ⟨⟨ad, cap, rfl, hs⟩, hb⟩
            · rintro e w'' ⟨⟨v, rfl, ho⟩, hb⟩
              obtain ⟨ad, cap, rfl, hs⟩ := row_ints ho
              exact ⟨⟨ad, cap, rfl, hs⟩, hb⟩
            · rintro e w'' ⟨⟨v, rfl, ho⟩, hb⟩
              obtain ⟨ad, cap, rfl, hs⟩ := row_ints ho
              exact ⟨⟨ad, cap, rfl⟩, hb⟩
            · rintro e w'' ⟨⟨v, rfl, ho⟩, hb⟩
              obtain ⟨ad, cap, rfl, hs⟩ := row_ints ho
              exact ⟨⟨ad, cap, rfl⟩, hb⟩
          have AL : Hid (∀ i, i < (boxesTo loadsQ xs 4).length → 0 ≤ (boxesTo loadsQ xs 4).getD i 0 ∧ (boxesTo loadsQ xs 4).getD i 0 < 4 ∧ (0 < i → (boxesTo loadsQ xs 4).getD (i - 1) 0 < (boxesTo loadsQ xs 4).getD i 0)) := fun i hi => boxesTo_asc loadsQ xs 4 i hi
          have AP : Hid (∀ i, i < (boxesTo putsQ xs 4).length → 0 ≤ (boxesTo putsQ xs 4).getD i 0 ∧ (boxesTo putsQ xs 4).getD i 0 < 4 ∧ (0 < i → (boxesTo putsQ xs 4).getD (i - 1) 0 < (boxesTo putsQ xs 4).getD i 0)) := fun i hi => boxesTo_asc putsQ xs 4 i hi
          have lL := boxesTo_len loadsQ xs 4
          have lP := boxesTo_len putsQ xs 4
          generalize boxesTo loadsQ xs 4 = L at LP AL lL
          generalize boxesTo putsQ xs 4 = P at LP AP lP
          go_wp2_with fail
          refine (LP.out v8 K8.out).1.mono ?_
          rintro e w9 ⟨⟨adl, capl, rfl, sll⟩, b9⟩
          have S9 : Hid (SlI w9 adl L) := sll
          have K9 : Hid (Below w1.heap.size w1 w9) := K8.out.trans (b9.mono K8.out.size)
          clear sll b9
          go_wp2_with fail
          refine (LP.out w9 K9.out).2.1.mono ?_
          rintro e w10 ⟨⟨adp, capp, rfl, slp⟩, b10⟩
          have SP : Hid (SlI w10 adp P) := slp
          have SLL : Hid (SlI w10 adl L) := S9.out.below b10
          have K10 : Hid (Below w1.heap.size w1 w10) := K9.out.trans (b10.mono K9.out.size)
          clear slp b10
          go_wp2_with fail
          go_loopw [16] (fun q wr => ∃ i : Nat, i ≤ L.length ∧ q = .int .i64 i ∧ Below w10.heap.size w10 wr) (fun q _ => L.length - (intOf q).toNat)
          case atStart => exact ⟨0, Nat.zero_le _, rfl, Below.refl _ _⟩
          case round =>
            obtain ⟨i, hi, rfl, hB⟩ := hrel
            have KR : Hid (Below w10.heap.size w10 wr) := hB
            have SR : Hid (SlI wr adl L) := SLL.out.below hB
            clear hB
            by_cases hlt : i < L.length
            · rcases SR.out with h0 | ⟨bn, on, rfl, hn1⟩
              · rw [h0] at hlt; simp at hlt
              obtain ⟨z0, z4, za⟩ := AL.out i hlt
              have cn := hn1.2 i hlt
              have hji : (i : Int) < ((L.length : Nat) : Int) := by omega
              rcases Nat.eq_zero_or_pos i with h0 | h0
              · subst h0
                generalize L.getD 0 0 = z at z0 z4 cn
                rw [Nat.add_zero] at cn
                have d1 : decide (z < 0) = false := by simp; omega
                have d2 : decide (4 ≤ z) = false := by simp; omega
                clear hn1 za
                go_wp2
                go_quiet (fail)
                go_wp2
                go_roundw
                case rel => exact ⟨1, by omega, by go_num, below_drewN' KR.out _⟩
                case measure => simp [intOf]; omega
              · have zb := za h0
                have cp := hn1.2 (i - 1) (by omega)
                generalize L.getD i 0 = z at z0 z4 cn zb
                generalize L.getD (i - 1) 0 = z' at cp zb
                obtain ⟨j, hj⟩ : ∃ j, j = i - 1 := ⟨_, rfl⟩
                rw [← hj] at cp
                have ej : (i : Int) - 1 = (j : Int) := by omega
                have d1 : decide (z < 0) = false := by simp; omega
                have d2 : decide (4 ≤ z) = false := by simp; omega
                have d3 : decide ((0 : Int) < (i : Int)) = true := by simp; omega
                have d4 : decide (z ≤ z') = false := by simp; omega
                have hjl : (j : Int) < ((L.length : Nat) : Int) := by omega
                clear hn1 za hj
                go_wp2
                go_quiet (fail)
                go_wp2
                go_roundw
                case rel => exact ⟨i + 1, by omega, by go_num, below_drewN' KR.out _⟩
                case measure => simp [intOf]; omega
            · have hil : i = L.length := by omega
              subst hil
              go_wp2_with fail
              go_loopw [17] (fun q wq => ∃ i : Nat, i ≤ P.length ∧ q = .int .i64 i ∧ Below w10.heap.size w10 wq) (fun q _ => P.length - (intOf q).toNat)
              case atStart => exact ⟨0, Nat.zero_le _, rfl, KR.out⟩
              case round =>
                obtain ⟨i, hi, rfl, hB⟩ := hrel
                rename World => wq
                have KQ : Hid (Below w10.heap.size w10 wq) := hB
                have SQ : Hid (SlI wq adp P) := SP.out.below hB
                clear hB
                by_cases hlt : i < P.length
                · rcases SQ.out with h0 | ⟨bn, on, rfl, hn1⟩
                  · rw [h0] at hlt; simp at hlt
                  obtain ⟨z0, z4, za⟩ := AP.out i hlt
                  have cn := hn1.2 i hlt
                  have hji : (i : Int) < ((P.length : Nat) : Int) := by omega
                  rcases Nat.eq_zero_or_pos i with h0 | h0
                  · subst h0
                    generalize P.getD 0 0 = z at z0 z4 cn
                    rw [Nat.add_zero] at cn
                    have d1 : decide (z < 0) = false := by simp; omega
                    have d2 : decide (4 ≤ z) = false := by simp; omega
                    clear hn1 za
                    go_wp2
                    go_quiet (fail)
                    go_wp2
                    go_roundw
                    case rel => exact ⟨1, by omega, by go_num, below_drewN' KQ.out _⟩
                    case measure => simp [intOf]; omega
                  · have zb := za h0
                    have cp := hn1.2 (i - 1) (by omega)
                    generalize P.getD i 0 = z at z0 z4 cn zb
                    generalize P.getD (i - 1) 0 = z' at cp zb
                    obtain ⟨j, hj⟩ : ∃ j, j = i - 1 := ⟨_, rfl⟩
                    rw [← hj] at cp
                    have ej : (i : Int) - 1 = (j : Int) := by omega
                    have d1 : decide (z < 0) = false := by simp; omega
                    have d2 : decide (4 ≤ z) = false := by simp; omega
                    have d3 : decide ((0 : Int) < (i : Int)) = true := by simp; omega
                    have d4 : decide (z ≤ z') = false := by simp; omega
                    have hjl : (j : Int) < ((P.length : Nat) : Int) := by omega
                    clear hn1 za hj
                    go_wp2
                    go_quiet (fail)
                    go_wp2
                    go_roundw
                    case rel => exact ⟨i + 1, by omega, by go_num, below_drewN' KQ.out _⟩
                    case measure => simp [intOf]; omega
                · have hil : i = P.length := by omega
                  subst hil
                  have KQ1 : Hid (Below w1.heap.size w1 wq) := K10.out.trans (KQ.out.mono K10.out.size)
                  go_wp2_with fail
                  refine (LP.out wq KQ1.out).2.2.1.mono ?_
                  rintro e w11 ⟨⟨ad1, cap1, rfl⟩, b11⟩
                  have K11 : Hid (Below w1.heap.size w1 w11) := KQ1.out.trans (b11.mono KQ1.out.size)
                  clear b11
                  go_wp2_with fail
                  refine (LP.out w11 K11.out).2.2.2.mono ?_
                  rintro e w12 ⟨⟨ad2, cap2, rfl⟩, b12⟩
                  have K12 : Hid (Below w1.heap.size w1 w12) := K11.out.trans (b12.mono K11.out.size)
                  clear b12
                  go_wp2_with fail
                  go_ret
                  exact ⟨rfl, B1.out.trans (K12.out.mono B1.out.size)⟩
    · go_enter Tryz.func3, Tryz.ntmps3
      go_wp2_with fail
      go_ret
      exact ⟨rfl, Below.refl _ _⟩
  · go_enter Tryz.func3, Tryz.ntmps3
    go_wp2_with fail
    go_ret
    exact ⟨rfl, Below.refl _ _⟩
end Go.Proofs.YtbcnmmofccackaaGreatDoor.Own

/-
  Own text: laws.FnSerialOne.
-/
import Derived.Test.YtiibonnchmphcaaQSerOneS
import Derived.Test.YtiibonnchmphcaaQDrawRun
import Derived.Test.YtiibonnchmphcaaQSameI
import Derived.Test.YtiibonnchmphcaaQGatherL
import Derived.Test.YtiibonnchmphcaaQGatherP
import Derived.BigQuiet
namespace Go.Proofs.Ytiibonnchmphcaa.Own
open Go.RowKit
set_option linter.unusedVariables false
set_option linter.unusedSimpArgs false

theorem meet_at {xs ys : List Int} {k j : Nat} (h : k < xs.length) (h2 : j < ys.length) (e : xs.getD k 0 = ys.getD j 0) : meetI xs ys = true :=
  meetI_iff.2 ⟨xs.getD k 0, by simp [List.getD, h], by rw [e]; simp [List.getD, h2]⟩
theorem meet_all {xs ys : List Int} (h : ∀ k, k < xs.length → ∀ j, j < ys.length → ¬ xs.getD k 0 = ys.getD j 0) : meetI xs ys = false := by
  rw [Bool.eq_false_iff]
  intro e
  obtain ⟨x, h1, h2⟩ := meetI_iff.1 e
  obtain ⟨k, hk, rfl⟩ := List.getElem_of_mem h1
  obtain ⟨j, hj, e2⟩ := List.getElem_of_mem h2
  exact h k hk j hj (by simp [List.getD, hk, hj, e2])
/-- A program that can put nowhere leaves all as it is. -/
theorem serialOne_none {bs : List P2} {xs : List Q4} (h : ¬ (execRun bs xs).code = 3) (hp : boxesTo putsQ xs 4 = []) : serialOne bs xs = bs := by
  rw [(serialOne_do h).2.2.1]
  have : (execRun bs xs).puts = [] := by
    cases e : (execRun bs xs).puts with
    | nil => rfl
    | cons p r =>
      obtain ⟨j, _, _, _, hm⟩ := execRun_puts bs xs p (by rw [e]; simp)
      rw [hp] at hm; simp at hm
  rw [this]; rfl
/-- Run twice it says the same. -/
theorem serialOne_twice {bs : List P2} {xs : List Q4} (h : ¬ (execRun bs xs).code = 3) (hm : meetI (boxesTo loadsQ xs 4) (boxesTo putsQ xs 4) = false) : (execRun (serialOne bs xs) xs).val = (execRun bs xs).val ∧ (execRun (serialOne bs xs) xs).code = (execRun bs xs).code := by
  obtain ⟨h1, _, h3, _⟩ := serialOne_do h
  rw [h3]
  rw [meetI_comm] at hm
  exact (run_behind h1 hm).2

set_option maxRecDepth 100000 in
set_option maxHeartbeats 4000000 in
theorem lawSerialOne2 (a : Option Addr) (n c : Nat) (w : World) (h : Bytes w w.heap.size a n) (hc : n ≤ c) (hm : c ≤ maxLen) :
    Calls Try.prog 9 #[.slice a n c] w fun e w' => e = .returned (.bool true) ∧ Below w.heap.size w w' := by
  have HB : Hid (Bytes w w.heap.size a n) := h
  have HM : Hid (c ≤ maxLen) := hm
  clear h
  unfold maxLen at hm
  by_cases hn : n ≤ 1048576
  · have hd : decide ((1048576 : Int) < (n : Int)) = false := by simp; omega
    go_enter Try.func9, Try.ntmps9
    go_wp2_with fail
    refine (drawSerialOne a n c w HB.out hc HM.out).mono ?_
    rintro e w1 ⟨gb, bs, g, cap, xs, rfl, ⟨lb, lx⟩, ⟨x1, y1⟩, hb⟩
    have X1 : Hid (Sl w1 (some ⟨gb, 0, none⟩) bs) := .inr ⟨gb, 0, rfl, x1⟩
    have Y1 : Hid (Sl4 w1 (some ⟨g, 0, none⟩) xs) := .inr ⟨g, 0, rfl, y1⟩
    have B1 : Hid (Below w.heap.size w w1) := hb
    have nx : xs.length ≤ 2 ^ 40 := by omega
    have nb : bs.length ≤ 2 ^ 40 := by omega
    clear x1 y1 hb
    -- what is known of the answer
    have R4 : (serialOne bs xs).length ≤ 4 := by
      by_cases h : (execRun bs xs).code = 3
      · rw [(serialOne_form h).1]; simp
      · obtain ⟨h1, _, h3, _⟩ := serialOne_do h
        rw [h3, doPuts_length, boxOk_len h1]; exact Nat.le_refl _
    have IS : Hid (∀ W, Below w1.heap.size w1 W → Calls Try.prog 42 #[.slice (some ⟨gb, 0, none⟩) bs.length 4, .slice (some ⟨g, 0, none⟩) xs.length cap] W fun e w' => (∃ ad cp, e = .returned (.tuple #[.slice ad (serialOne bs xs).length cp, .int .i64 (execRun bs xs).val, .int .i64 (execRun bs xs).code]) ∧ (serialOne bs xs).length ≤ cp ∧ OwnB w' W.heap.size ad (serialOne bs xs)) ∧ Below W.heap.size W w') := fun W hb => implSerialOne _ _ 4 cap bs xs W (X1.out.below hb) (Y1.out.below hb) lb nx
    have SS : Hid (∀ W, Below w1.heap.size w1 W → Calls Try.prog 43 #[.slice (some ⟨gb, 0, none⟩) bs.length 4, .slice (some ⟨g, 0, none⟩) xs.length cap] W fun e w' => (∃ ad cp, e = .returned (.tuple #[.slice ad (serialOne bs xs).length cp, .int .i64 (execRun bs xs).val, .int .i64 (execRun bs xs).code]) ∧ (serialOne bs xs).length ≤ cp ∧ OwnB w' W.heap.size ad (serialOne bs xs)) ∧ Below W.heap.size W w') := fun W hb => specSerialOne _ _ 4 cap bs xs W (X1.out.below hb) (Y1.out.below hb) nb nx
    have EF : Hid ((execRun bs xs).code = 3 → serialOne bs xs = [] ∧ (execRun bs xs).val = 0) := serialOne_form
    have IR : Hid (∀ W, Below w1.heap.size w1 W → Calls Try.prog 16 #[.slice (some ⟨gb, 0, none⟩) bs.length 4, .slice (some ⟨g, 0, none⟩) xs.length cap] W fun e w' => RunPost (execRun bs xs) W.heap.size e w' ∧ Below W.heap.size W w') := fun W hb => implRun _ _ 4 cap bs xs W (X1.out.below hb) (Y1.out.below hb) lb nx
    have ED : Hid (¬ (execRun bs xs).code = 3 → serialOne bs xs = execDo bs (execRun bs xs).reads (execRun bs xs).puts (execRun bs xs).val (execRun bs xs).code) := fun h => (serialOne_do h).2.2.2
    have EN : Hid (¬ (execRun bs xs).code = 3 → boxesTo putsQ xs 4 = [] → serialOne bs xs = bs) := serialOne_none
    have E2 : Hid (¬ (execRun bs xs).code = 3 → meetI (boxesTo loadsQ xs 4) (boxesTo putsQ xs 4) = false → (execRun (serialOne bs xs) xs).val = (execRun bs xs).val ∧ (execRun (serialOne bs xs) xs).code = (execRun bs xs).code) := serialOne_twice
    have f4 := execRun_four bs xs
    have I2 : Hid (∀ (ad : Option Addr) (cp : Nat) (W : World), Sl W ad (serialOne bs xs) → Sl4 W (some ⟨g, 0, none⟩) xs → (serialOne bs xs).length ≤ cp → Calls Try.prog 42 #[.slice ad (serialOne bs xs).length cp, .slice (some ⟨g, 0, none⟩) xs.length cap] W fun e w' => (∃ ad' n' cp', e = .returned (.tuple #[.slice ad' n' cp', .int .i64 (execRun (serialOne bs xs) xs).val, .int .i64 (execRun (serialOne bs xs) xs).code])) ∧ Below W.heap.size W w') := fun ad cp W h1 h2 h3 => (implSerialOne ad _ cp cap (serialOne bs xs) xs W h1 h2 h3 nx).mono (fun e w' ⟨⟨ad', cp', k1, _⟩, k2⟩ => ⟨⟨ad', _, cp', k1⟩, k2⟩)
    generalize (execRun (serialOne bs xs) xs).val = v2 at E2 I2
    generalize (execRun (serialOne bs xs) xs).code = c2 at E2 I2
    generalize serialOne bs xs = R at R4 IS SS EF ED EN I2
    generalize execRun bs xs = o at IS SS EF IR ED EN E2 f4
    obtain ⟨f1, f2⟩ := f4
    have er : (R == R) = true := by simp
    have ev : (o.val != o.val) = false := by simp
    have ec : (o.code != o.code) = false := by simp
    go_wp2_with fail
    refine Calls.mono (IS.out w1 (Below.refl _ _)) ?_
    rintro e w2 ⟨⟨ad, cp, rfl, hcp, ow⟩, b2⟩
    have O2 : Hid (OwnB w2 w1.heap.size ad R) := ow
    have K2 : Hid (Below w1.heap.size w1 w2) := b2
    clear ow b2
    go_wp2_with fail
    refine Calls.mono (SS.out w2 K2.out) ?_
    rintro e w3 ⟨⟨asp, cs, rfl, hcs, os⟩, b3⟩
    have O3 : Hid (OwnB w3 w1.heap.size ad R) := O2.out.below b3
    have S3 : Hid (OwnB w3 w2.heap.size asp R) := os
    have K3 : Hid (Below w1.heap.size w1 w3) := K2.out.trans (b3.mono K2.out.size)
    clear os b3
    go_wp2_with fail
    refine (implSame ad asp cp cs R R w3 O3.out.sl S3.out.sl hcp hcs (by omega)).mono ?_
    rintro e w4 ⟨rfl, b4⟩
    rw [er]
    have O4 : Hid (OwnB w4 w1.heap.size ad R) := O3.out.below b4
    have K4 : Hid (Below w1.heap.size w1 w4) := K3.out.trans (b4.mono K3.out.size)
    clear b4
    by_cases hc3 : o.code = 3
    · obtain ⟨r1, r2⟩ := EF.out hc3
      have hcb : (o.code == 3) = true := by simpa using hc3
      have hr0 : ((R.length : Int) == 0) = true := by rw [r1]; rfl
      have hv0 : (o.val == 0) = true := by simpa using r2
      clear EF ED EN E2 r1 r2 hc3
      go_wp2_with fail
      go_ret
      exact ⟨rfl, B1.out.trans (K4.out.mono B1.out.size)⟩
    · have hcb : (o.code == 3) = false := by simpa using hc3
      have RE := ED.out hc3
      have RN : Hid (boxesTo putsQ xs 4 = [] → R = bs) := EN.out hc3
      have RT : Hid (meetI (boxesTo loadsQ xs 4) (boxesTo putsQ xs 4) = false → v2 = o.val ∧ c2 = o.code) := E2.out hc3
      have DO : Hid (∀ (g1 g2 : Option Addr) (e1 e2 : Nat) (W : World), Sl W (some ⟨gb, 0, none⟩) bs → Sl W g1 o.reads → Sl W g2 o.puts → Calls Try.prog 26 #[.slice (some ⟨gb, 0, none⟩) bs.length 4, .agg #[.slice g1 o.reads.length e1, .slice g2 o.puts.length e2, .int .i64 o.val, .int .i64 o.code]] W fun e w' => ∃ ad cap, e = .returned (.slice ad R.length cap) ∧ R.length ≤ cap ∧ OwnB w' W.heap.size ad R ∧ Below W.heap.size W w') := fun g1 g2 e1 e2 W h1 h2 h3 => by
        rw [RE]
        exact implExecDo _ 4 bs g1 g2 e1 e2 o.reads o.puts o.val o.code W h1 lb h2 h3 (by omega) (by omega)
      clear EF ED EN E2 RE
      go_wp2_with fail
      refine Calls.mono (IR.out w4 K4.out) ?_
      rintro e w5 ⟨hp5, b5⟩
      obtain ⟨g1, e1, g2, e2, rfl, hr5⟩ := hp5.open
      obtain ⟨X, hX⟩ : ∃ X, X = w5.alloc (.cells #[.slice g1 o.reads.length e1, .slice g2 o.puts.length e2, .int .i64 o.val, .int .i64 o.code] 30) := ⟨_, rfl⟩
      have bX : Below w5.heap.size w5 X := by rw [hX]; exact below_new _ _
      have CX : Hid (C4 X w5.heap.size (.slice g1 o.reads.length e1) (.slice g2 o.puts.length e2) (.int .i64 o.val) (.int .i64 o.code)) := by show C4 _ _ _ _ _ _; rw [hX]; exact C4.new _ _ _ _ _ _
      have RX : Hid (RunB o w4.heap.size X g1 g2) := hr5.below bX
      have b5X : Below w4.heap.size w4 X := b5.trans (bX.mono b5.size)
      have OX : Hid (OwnB X w1.heap.size ad R) := O4.out.below b5X
      have KX : Hid (Below w1.heap.size w1 X) := K4.out.trans (b5X.mono K4.out.size)
      have HX : Hid (X = _) := hX
      clear hX bX hr5 b5 hp5 b5X
      obtain ⟨_, q0, q1, q2, q3⟩ := CX.out
      go_upto_region 11 with fail
      rw [← HX.out]
      have LP : (boxesTo putsQ xs 4).length ≤ 4 := boxesTo_len putsQ xs 4
      have LL : (boxesTo loadsQ xs 4).length ≤ 4 := boxesTo_len loadsQ xs 4
      -- behind the look at a program that puts nowhere
      have REST : Hid (∀ W, Below w1.heap.size w1 W → OwnB W w1.heap.size ad R → (Calls Try.prog 22 #[.slice (some ⟨g, 0, none⟩) xs.length cap] W fun e w' => (∃ al cl, e = .returned (.slice al (boxesTo loadsQ xs 4).length cl) ∧ SlI w' al (boxesTo loadsQ xs 4)) ∧ OwnB w' w1.heap.size ad R ∧ Below w1.heap.size w1 w')) := fun W hb ho => by
        refine (implProgLoads _ cap xs nx W (Y1.out.below hb)).mono ?_
        rintro e w' ⟨⟨v, rfl, ow⟩, b'⟩
        obtain ⟨al, cl, rfl, sl, _⟩ := OwnI.open (ys := boxesTo loadsQ xs 4) ow
        exact ⟨⟨al, cl, rfl, sl⟩, ho.below b', hb.trans (b'.mono hb.size)⟩
      have PUTS : Hid (∀ W, Below w1.heap.size w1 W → OwnB W w1.heap.size ad R → (Calls Try.prog 23 #[.slice (some ⟨g, 0, none⟩) xs.length cap] W fun e w' => (∃ al cl, e = .returned (.slice al (boxesTo putsQ xs 4).length cl) ∧ SlI w' al (boxesTo putsQ xs 4)) ∧ OwnB w' w1.heap.size ad R ∧ Below W.heap.size W w' ∧ Below w1.heap.size w1 w')) := fun W hb ho => by
        refine (implProgPuts _ cap xs nx W (Y1.out.below hb)).mono ?_
        rintro e w' ⟨⟨v, rfl, ow⟩, b'⟩
        obtain ⟨al, cl, rfl, sl, _⟩ := OwnI.open (ys := boxesTo putsQ xs 4) ow
        exact ⟨⟨al, cl, rfl, sl⟩, ho.below b', b', hb.trans (b'.mono hb.size)⟩
      generalize boxesTo putsQ xs 4 = P at RN RT LP PUTS
      generalize boxesTo loadsQ xs 4 = L at RT LL REST
      go_cut [84] from 67 to 84 (fun x wx => x = .bool false ∧ Hid (OwnB wx w1.heap.size ad R) ∧ Below w1.heap.size w1 wx)
      case first =>
        go_wp2_with fail
        refine Calls.mono (DO.out g1 g2 e1 e2 X (X1.out.below KX.out) RX.out.reads.sl RX.out.puts.sl) ?_
        rintro e w6 ⟨a6, c6, rfl, hc6, o6, b6⟩
        have O6 : Hid (OwnB w6 w1.heap.size ad R) := OX.out.below b6
        have P6 : Hid (OwnB w6 X.heap.size a6 R) := o6
        have K6 : Hid (Below w1.heap.size w1 w6) := KX.out.trans (b6.mono KX.out.size)
        clear o6 b6 q0 q1 q2 q3
        go_wp2_with fail
        refine (implSame ad a6 cp c6 R R w6 O6.out.sl P6.out.sl hcp hc6 (by omega)).mono ?_
        rintro e w7 ⟨rfl, b7⟩
        rw [er]
        have O7 : Hid (OwnB w7 w1.heap.size ad R) := O6.out.below b7
        have K7 : Hid (Below w1.heap.size w1 w7) := K6.out.trans (b7.mono K6.out.size)
        clear b7
        go_wp2_with fail
        refine Calls.mono (PUTS.out w7 K7.out O7.out) ?_
        rintro e w8 ⟨⟨a8, c8, rfl, _⟩, o8, _, k8⟩
        have O8 : Hid (OwnB w8 w1.heap.size ad R) := o8
        have K8 : Hid (Below w1.heap.size w1 w8) := k8
        clear o8 k8
        by_cases hP : P = []
        · have hp0 : ((P.length : Int) == 0) = true := by rw [hP]; rfl
          have RB := RN.out hP
          subst RB
          go_wp2_with fail
          refine (implSame ad _ cp 4 R R w8 O8.out.sl (X1.out.below K8.out) hcp R4 (by omega)).mono ?_
          rintro e w9 ⟨rfl, b9⟩
          rw [er]
          have O9 : Hid (OwnB w9 w1.heap.size ad R) := O8.out.below b9
          have K9 : Hid (Below w1.heap.size w1 w9) := K8.out.trans (b9.mono K8.out.size)
          clear b9
          go_wp2_with fail
          go_meet
          exact ⟨rfl, O9, K9.out⟩
        · have hp0 : ((P.length : Int) == 0) = false := by
            rw [beq_eq_false_iff_ne]
            intro e
            exact hP (List.eq_nil_of_length_eq_zero (by omega))
          go_wp2_with fail
          go_meet
          exact ⟨rfl, O8, K8.out⟩
      case rest =>
        rename World => v0
        obtain ⟨rfl, hO, hB⟩ := hcut
        have K9 : Hid (Below w1.heap.size w1 v0) := hB
        clear hB q0 q1 q2 q3
        go_wp2_with fail
        refine Calls.mono (REST.out v0 K9.out hO.out) ?_
        rintro e w10 ⟨⟨al, cl, rfl, sl10⟩, o10, k10⟩
        have S10 : Hid (SlI w10 al L) := sl10
        have O10 : Hid (OwnB w10 w1.heap.size ad R) := o10
        have K10 : Hid (Below w1.heap.size w1 w10) := k10
        clear sl10 o10 k10
        go_wp2_with fail
        refine Calls.mono (PUTS.out w10 K10.out O10.out) ?_
        rintro e w11 ⟨⟨ap, cp2, rfl, sp11⟩, o11, b11, k11⟩
        have P11 : Hid (SlI w11 ap P) := sp11
        have S11 : Hid (SlI w11 al L) := S10.out.below b11
        have O11 : Hid (OwnB w11 w1.heap.size ad R) := o11
        have K11 : Hid (Below w1.heap.size w1 w11) := k11
        clear sp11 o11 b11 k11
        go_wp2_with fail
        go_loopw [14, 15] (fun i q wr => ∃ k : Nat, k ≤ L.length ∧ i = .int .i64 k ∧ Hid (∀ i, i < k → ∀ j, j < P.length → ¬ L.getD i 0 = P.getD j 0) ∧ Below w11.heap.size w11 wr) (fun i _ _ => L.length - (intOf i).toNat)
        case atStart => exact ⟨0, Nat.zero_le _, rfl, fun i hi => by omega, Below.refl _ _⟩
        case round =>
          obtain ⟨k, hk, rfl, hA, hB⟩ := hrel
          by_cases hlt : k < L.length
          · have BR : Hid (Below w11.heap.size w11 wr) := hB
            clear hB
            have hki : (k : Int) < (L.length : Int) := by omega
            go_wp2_with fail
            go_loopw [15] (fun q wq => ∃ j : Nat, j ≤ P.length ∧ q = .int .i64 j ∧ Hid (∀ i, i < j → ¬ L.getD k 0 = P.getD i 0) ∧ Below w11.heap.size w11 wq) (fun q _ => P.length - (intOf q).toNat)
            case atStart => exact ⟨0, Nat.zero_le _, rfl, fun i hi => by omega, BR.out⟩
            case round =>
              obtain ⟨j, hj, rfl, hC, hB⟩ := hrel
              have BQ : Hid (Below w11.heap.size w11 wr) := hB
              clear hB
              by_cases hlt2 : j < P.length
              · rcases S11.out.below BQ.out with h | ⟨b1, o1, rfl, h1⟩
                · subst h; simp at hlt
                rcases P11.out.below BQ.out with h | ⟨b2, o2, rfl, h2⟩
                · subst h; simp at hlt2
                have ca := h1.2 k hlt
                have cb := h2.2 j hlt2
                have hji : (j : Int) < (P.length : Int) := by omega
                have HS : Hid (¬ L.getD k 0 = P.getD j 0 → ∀ i, i < j + 1 → ¬ L.getD k 0 = P.getD i 0) := fun h i hi => by
                  by_cases e : i = j
                  · subst e; exact h
                  · exact hC.out i (by omega)
                clear h1 h2
                generalize hx : L.getD k 0 = x at ca HS hC
                generalize hy : P.getD j 0 = y at cb HS
                go_upto_region 21 with fail
                go_quiet (fail)
                by_cases hxy : x = y
                · have hb : (x == y) = true := by simpa using hxy
                  have FB : Hid (Below w.heap.size w wr) := B1.out.trans ((K11.out.trans (BQ.out.mono K11.out.size)).mono B1.out.size)
                  clear HS hx hy
                  go_wp2
                  go_ret
                  exact ⟨rfl, ⟨FB.out.os, FB.out.tape, FB.out.output, FB.out.size, FB.out.block⟩⟩
                · have hb : (x == y) = false := by simpa using hxy
                  have H2 : Hid (∀ i, i < j + 1 → ¬ x = P.getD i 0) := HS.out hxy
                  clear HS
                  go_wp2
                  go_roundw
                  case rel => exact ⟨j + 1, by omega, by go_num, by first | exact H2 | (rw [hx]; exact H2), ⟨BQ.out.os, BQ.out.tape, BQ.out.output, BQ.out.size, BQ.out.block⟩⟩
                  case measure => simp [intOf]; omega
              · have hji : ¬ (j : Int) < (P.length : Int) := by omega
                have HA2 : Hid (∀ i, i < k + 1 → ∀ j, j < P.length → ¬ L.getD i 0 = P.getD j 0) := fun i hi j' hj' => by
                  by_cases e : i = k
                  · subst e; exact hC.out j' (by omega)
                  · exact hA.out i (by omega) j' hj'
                go_wp2_with fail
                go_roundw
                case rel => exact ⟨k + 1, by omega, by go_num, HA2, BQ.out⟩
                case measure => simp [intOf]; omega
          · have hki : ¬ (k : Int) < (L.length : Int) := by omega
            have BR : Hid (Below w11.heap.size w11 wr) := hB
            have MT : meetI L P = false := meet_all (fun i hi => hA.out i (by omega))
            obtain ⟨t1, t2⟩ := RT.out MT
            have KR : Hid (Below w1.heap.size w1 wr) := K11.out.trans (BR.out.mono K11.out.size)
            have OR : Hid (OwnB wr w1.heap.size ad R) := O11.out.below BR.out
            have CI : Hid (Calls Try.prog 42 #[.slice ad R.length cp, .slice (some ⟨g, 0, none⟩) xs.length cap] wr fun e w' => (∃ ad' n' cp', e = .returned (.tuple #[.slice ad' n' cp', .int .i64 o.val, .int .i64 o.code])) ∧ Below wr.heap.size wr w') := by
              have := I2.out ad cp wr OR.out.sl (Y1.out.below KR.out) hcp
              rw [t1, t2] at this
              exact this
            have ev' : (o.val == o.val) = true := by simp
            have ec' : (o.code == o.code) = true := by simp
            clear hB hA MT t1 t2
            go_wp2_with fail
            refine Calls.mono CI.out ?_
            rintro e w12 ⟨⟨ad', n', cp', rfl⟩, b12⟩
            have K12 : Hid (Below w1.heap.size w1 w12) := KR.out.trans (b12.mono KR.out.size)
            clear b12
            go_wp2_with fail
            go_ret
            exact ⟨rfl, B1.out.trans (K12.out.mono B1.out.size)⟩
  · have hd : decide ((1048576 : Int) < (n : Int)) = true := by simp; omega
    go_enter Try.func9, Try.ntmps9
    go_wp2_with fail
    go_ret
    exact ⟨rfl, Below.refl _ _⟩
end Go.Proofs.Ytiibonnchmphcaa.Own

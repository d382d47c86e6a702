/-
  Own text: laws.FnExactExecDo.
-/
import Derived.Test.YtbcnmmofccackaaExecDoI
import Derived.Test.YtbcnmmofccackaaExecDoS3
import Derived.Test.YtbcnmmofccackaaMarkB
import Derived.Test.YtbcnmmofccackaaMarkRun
import Derived.Test.YtbcnmmofccackaaRunOps
import Derived.Test.YtbcnmmofccackaaTo
import Derived.Test.YtbcnmmofccackaaEq
import Derived.Test.YtbcnmmofccackaaCells4
namespace Go.Proofs.Ytbcnmmofccackaa.Own
open Go.RowKit
set_option linter.unusedVariables false

set_option maxRecDepth 100000 in
set_option maxHeartbeats 4000000 in
theorem lawExecDo (a : Option Addr) (c : Nat) (bs : List P2) (a1 a2 : Option Addr) (c1 c2 : Nat) (xs ys : List P2) (v k : Int) (w : World)
    (h0 : Sl w a bs) (m0 : bs.length ≤ maxLen) (h1 : Sl w a1 xs) (h2 : Sl w a2 ys) (hc1 : xs.length ≤ c1) (hc2 : ys.length ≤ c2) (hm1 : c1 ≤ maxLen) (hm2 : c2 ≤ maxLen) :
    Calls Try.prog 13 #[.slice a bs.length c, .agg #[.slice a1 xs.length c1, .slice a2 ys.length c2, .int .i64 v, .int .i64 k]] w fun e w' => e = .returned (.bool true) ∧ Below w.heap.size w w' := by
  have m1 : xs.length ≤ maxLen := Nat.le_trans hc1 hm1
  have m2 : ys.length ≤ maxLen := Nat.le_trans hc2 hm2
  have H0 : Hid (Sl w a bs) := h0
  have H1 : Hid (Sl w a1 xs) := h1
  have H2 : Hid (Sl w a2 ys) := h2
  clear h0 h1 h2 hc1 hc2 hm1 hm2
  obtain ⟨W, hW⟩ : ∃ W, W = w.alloc (.cells #[.slice a1 xs.length c1, .slice a2 ys.length c2, .int .i64 v, .int .i64 k] 71) := ⟨_, rfl⟩
  have BW : Hid (Below w.heap.size w W) := by show Below _ _ _; rw [hW]; exact below_new _ _
  have P0 : Hid (C4 W w.heap.size (.slice a1 xs.length c1) (.slice a2 ys.length c2) (.int .i64 v) (.int .i64 k)) := by show C4 _ _ _ _ _ _; rw [hW]; exact C4.new _ _ _ _ _ _
  have HW : Hid (W = _) := hW
  clear hW
  have AF : Hid (∀ w', Below W.heap.size W w' → (w'.cell? ⟨w.heap.size, 0, none⟩ = some (.slice a1 xs.length c1) ∧ w'.cell? ⟨w.heap.size, 1, none⟩ = some (.slice a2 ys.length c2) ∧ w'.cell? ⟨w.heap.size, 2, none⟩ = some (.int .i64 v) ∧ w'.cell? ⟨w.heap.size, 3, none⟩ = some (.int .i64 k)) ∧ Hid (Sl w' a bs ∧ Sl w' a1 xs ∧ Sl w' a2 ys)) :=
    fun w' hb => ⟨(P0.out.below hb).2, (H0.out.below BW.out).below hb, (H1.out.below BW.out).below hb, (H2.out.below BW.out).below hb⟩
  by_cases hn : bs.length ≤ 1048576
  · by_cases hn2 : bs.length + xs.length + ys.length ≤ 1048576
    · have l0 : bs.length ≤ 2 ^ 40 := by omega
      have l1 : xs.length ≤ 2 ^ 40 := by omega
      have l2 : ys.length ≤ 2 ^ 40 := by omega
      go_enter Try.func13, Try.ntmps13
      go_wp2_with fail
      rw [← HW.out]
      refine (szBoxS a bs.length c 1048576 W m0 (by decide) (by decide)).mono ?_
      rintro e w1 ⟨rfl, hw⟩
      rw [if_neg (by omega)]
      have hpos : ¬ (1048576 : Int) - (bs.length : Int) < 0 := by omega
      have B1 : Hid (Below W.heap.size W w1) := by show Below _ _ _; rw [hw]; exact Below.refl _ _
      clear hw
      obtain ⟨⟨q0, q1, q2, q3⟩, _⟩ := AF.out w1 B1.out
      go_wp2_with fail
      refine (szRun a1 a2 xs.length c1 ys.length c2 v k (1048576 - bs.length) w1 m1 m2 (by omega) (by omega)).mono ?_
      rintro e w2 ⟨rfl, b2'⟩
      rw [if_neg (by omega)]
      have hpos2 : ¬ (1048576 : Int) - (bs.length : Int) - (xs.length : Int) - (ys.length : Int) < 0 := by omega
      have B2 : Hid (Below W.heap.size W w2) := B1.out.trans (b2'.mono B1.out.size)
      clear b2' q0 q1 q2 q3
      obtain ⟨⟨q0, q1, q2, q3⟩, SS2⟩ := AF.out w2 B2.out
      go_upto_region 8 with fail
      go_cut [6] from 24 to 28 (fun x wx => ∃ sg cap, x = .slice (some ⟨sg, 0, none⟩) (execDo bs xs ys v k).length cap ∧ Sl wx (some ⟨sg, 0, none⟩) (execDo bs xs ys v k) ∧ Below W.heap.size W wx)
      case first =>
        go_region_with (first | (go_at_call 38; refine (toBoxS a c bs _ ?_ l0).mono ?_; exact SS2.out.1; rintro e w3 ⟨rfl, at3, _, b3⟩; have K3 : Hid (Below W.heap.size W w3) := B2.out.trans (Below.trans ((Below.refl _ _).drew) (b3.mono B2.out.size)); obtain ⟨⟨s0, s1, s2, s3⟩, T1⟩ := AF.out w3 K3.out; have R3 : Hid (BoxAt w3 w2.heap.size 0 bs) := at3; clear b3 at3) | (go_at_call 48; refine (toRun a1 a2 c1 c2 xs ys v k _ ?_ ?_ l1 l2).mono ?_; exact T1.out.2.1; exact T1.out.2.2; rintro e w4 ⟨g3, g4, rfl, own4, b4⟩; have K4 : Hid (Below W.heap.size W w4) := K3.out.trans (b4.mono K3.out.size); have R4 : Hid (RunOwn w4 0 g3 g4 xs ys) := ⟨Nat.zero_le _, Nat.zero_le _, own4.2.2⟩; have R5 : Hid (BoxAt w4 w2.heap.size 0 bs) := R3.out.below b4; clear b4 own4) | (go_at_call 29; refine (specExecDo _ bs.length bs _ _ xs.length ys.length xs ys v k _ ?_ l0 ?_ ?_ l1 l2 (Nat.le_refl _) (Nat.le_refl _)).mono ?_; exact .inr ⟨_, _, rfl, R5.out⟩; exact .inr ⟨_, _, rfl, R4.out.2.2.2.1⟩; exact .inr ⟨_, _, rfl, R4.out.2.2.2.2.1⟩; rintro e w5 ⟨sg, scap, rfl, sl5, _, _, b5⟩; have K5 : Hid (Below W.heap.size W w5) := K4.out.trans (b5.mono K4.out.size); have S5 : Hid (Sl w5 (some ⟨sg, 0, none⟩) (execDo bs xs ys v k)) := sl5; clear b5 sl5))
        all_goals
          go_wp2_with fail
          go_meet
          exact ⟨sg, scap, rfl, S5.out, K5.out⟩
      case rest =>
        rename World => v0
        obtain ⟨sg, scap, rfl, hS3, hB3⟩ := hcut
        have B3 : Hid (Below W.heap.size W v0) := hB3
        have S3 : Hid (Sl v0 (some ⟨sg, 0, none⟩) (execDo bs xs ys v k)) := hS3
        clear hB3 hS3 q0 q1 q2 q3
        obtain ⟨_, SS3⟩ := AF.out v0 B3.out
        go_wp2_with fail
        refine (toBoxS a c bs v0 SS3.out.1 l0).mono ?_
        rintro e w3 ⟨rfl, at3, row3, b3⟩
        have RX : Hid (BoxAt w3 v0.heap.size 0 bs) := at3
        have FR3 : Hid (∀ o, w3.frozen? ⟨v0.heap.size, o, none⟩ = false) := fun o => row3.frozen o
        have X3 : Hid (Below v0.heap.size v0 w3) := b3
        have BX : Hid (Below W.heap.size W w3) := B3.out.trans (b3.mono B3.out.size)
        clear at3 b3 row3
        obtain ⟨⟨r0, r1, r2, r3⟩, SSX⟩ := AF.out w3 BX.out
        go_wp2_with fail
        refine (toRun a1 a2 c1 c2 xs ys v k w3 SSX.out.2.1 SSX.out.2.2 l1 l2).mono ?_
        rintro e w4 ⟨g3, g4, rfl, own4, b4⟩
        obtain ⟨Y, hY⟩ : ∃ Y, Y = w4.alloc (.cells #[.slice (some ⟨g3, 0, none⟩) xs.length xs.length, .slice (some ⟨g4, 0, none⟩) ys.length ys.length, .int .i64 v, .int .i64 k] 37) := ⟨_, rfl⟩
        have G34 : Hid (g3 < w4.heap.size ∧ g4 < w4.heap.size ∧ w3.heap.size ≤ g3 ∧ w3.heap.size ≤ g4) := ⟨own4.2.2.2.1.1, own4.2.2.2.2.1.1, own4.1, own4.2.1⟩
        have G34' : Hid (g3 ≠ g4) := own4.2.2.1
        have bY : Below w3.heap.size w3 Y := by rw [hY]; exact b4.alloc b4.size _
        have BY : Hid (Below W.heap.size W Y) := BX.out.trans (bY.mono BX.out.size)
        have Y3 : Hid (Below w3.heap.size w3 Y) := bY
        have RY : Hid (BoxAt Y v0.heap.size 0 bs) := RX.out.below bY
        have SY : Hid (RunOwn Y 0 g3 g4 xs ys) := by
          show RunOwn _ _ _ _ _ _
          rw [hY]
          have h := own4.below (below_new w4 (.cells #[.slice (some ⟨g3, 0, none⟩) xs.length xs.length, .slice (some ⟨g4, 0, none⟩) ys.length ys.length, .int .i64 v, .int .i64 k] 37))
          exact ⟨Nat.zero_le _, Nat.zero_le _, h.2.2⟩
        have QY : Hid (C4 Y w4.heap.size (.slice (some ⟨g3, 0, none⟩) xs.length xs.length) (.slice (some ⟨g4, 0, none⟩) ys.length ys.length) (.int .i64 v) (.int .i64 k)) := by show C4 _ _ _ _ _ _; rw [hY]; exact C4.new _ _ _ _ _ _
        have HY : Hid (Y = _) := hY
        have GY : Hid (∀ w', Below Y.heap.size Y w' → (w'.cell? ⟨w4.heap.size, 0, none⟩ = some (.slice (some ⟨g3, 0, none⟩) xs.length xs.length) ∧ w'.cell? ⟨w4.heap.size, 1, none⟩ = some (.slice (some ⟨g4, 0, none⟩) ys.length ys.length) ∧ w'.cell? ⟨w4.heap.size, 2, none⟩ = some (.int .i64 v) ∧ w'.cell? ⟨w4.heap.size, 3, none⟩ = some (.int .i64 k)) ∧ Hid (BoxAt w' v0.heap.size 0 bs ∧ RunOwn w' 0 g3 g4 xs ys)) :=
          fun w' hb => ⟨(QY.out.below hb).2, RY.out.below hb, SY.out.below hb⟩
        clear hY own4 b4 r0 r1 r2 r3 bY
        obtain ⟨⟨t0, t1, t2, t3⟩, _⟩ := GY.out Y (Below.refl _ _)
        go_upto_region 11 with fail
        rw [← HY.out]
        go_wp2_with fail
        refine (implExecDo _ bs.length bs _ _ xs.length ys.length xs ys v k Y (.inr ⟨_, _, rfl, RY.out⟩) (Nat.le_refl _) (.inr ⟨_, _, rfl, SY.out.2.2.2.1⟩) (.inr ⟨_, _, rfl, SY.out.2.2.2.2.1⟩) l1 l2).mono ?_
        rintro e w5 ⟨ad, acap, rfl, _, own5, b5⟩
        have Y5 : Hid (Below Y.heap.size Y w5) := b5
        have B5 : Hid (Below W.heap.size W w5) := BY.out.trans (b5.mono BY.out.size)
        have G5' : Hid (OwnB w5 Y.heap.size ad (execDo bs xs ys v k)) := own5
        have lR : (execDo bs xs ys v k).length ≤ 4 := by
          unfold execDo
          split
          · rename_i h
            simp only [Bool.and_eq_true] at h
            rw [doPuts_length, boxOk_len h.1]
            exact Nat.le_refl _
          · simp
        generalize hR : execDo bs xs ys v k = R at S3 G5' lR ⊢
        have HR : Hid (execDo bs xs ys v k = R) := hR
        clear hR
        have cY : v0.heap.size ≤ Y.heap.size := by
          have h1 := RY.out.1
          omega
        have cW : w.heap.size ≤ W.heap.size ∧ W.heap.size ≤ v0.heap.size := ⟨BW.out.size, B3.out.size⟩
        have S5 : Hid (Sl w5 (some ⟨sg, 0, none⟩) R) := (((S3.out.below X3.out).below Y3.out).below b5)
        have SG : Hid (R = [] ∨ sg < v0.heap.size) := by
          rcases S3.out with h | ⟨b, off, e, h⟩
          · exact .inl h
          · injection e with e; injection e with e1 e2; subst e1; exact .inr h.1
        clear b5 t0 t1 t2 t3 own5
        obtain ⟨_, G5⟩ := GY.out w5 Y5.out
        obtain ⟨_, SS5⟩ := AF.out w5 B5.out
        go_wp2_with fail
        refine (eqBoxS ad (some ⟨sg, 0, none⟩) acap scap R R w5 G5'.out.sl S5.out (by omega) (by omega)).mono ?_
        rintro e w5' ⟨rfl, b5'⟩
        rw [show (R == R) = true from by simp]
        have Y5' : Hid (Below Y.heap.size Y w5') := Y5.out.trans (b5'.mono Y5.out.size)
        have B5' : Hid (Below W.heap.size W w5') := B5.out.trans (b5'.mono B5.out.size)
        have G6' : Hid (OwnB w5' Y.heap.size ad R) := G5'.out.below b5'
        have S6 : Hid (Sl w5' (some ⟨sg, 0, none⟩) R) := S5.out.below b5'
        clear b5'
        obtain ⟨_, SS5'⟩ := AF.out w5' B5'.out
        obtain ⟨_, G6⟩ := GY.out w5' Y5'.out
        go_wp2_with fail
        refine (toBoxS a c bs w5' SS5'.out.1 l0).mono ?_
        rintro e w6 ⟨rfl, at6, _, b6⟩
        have A6 : Hid (BoxAt w6 w5'.heap.size 0 bs) := at6
        have A6' : Hid (BoxAt w6 v0.heap.size 0 bs) := G6.out.1.below b6
        have Y6 : Hid (Below Y.heap.size Y w6) := Y5'.out.trans (b6.mono Y5'.out.size)
        have G7' : Hid (OwnB w6 Y.heap.size ad R) := G6'.out.below b6
        have S7 : Hid (Sl w6 (some ⟨sg, 0, none⟩) R) := S6.out.below b6
        clear at6 b6
        go_wp2_with fail
        refine (eqBoxS _ _ bs.length bs.length bs bs w6 (.inr ⟨_, _, rfl, A6'.out⟩) (.inr ⟨_, _, rfl, A6.out⟩) l0 l0).mono ?_
        rintro e w7 ⟨rfl, b7⟩
        rw [show (bs == bs) = true from by simp]
        have Y7 : Hid (Below Y.heap.size Y w7) := Y6.out.trans (b7.mono Y6.out.size)
        have B7 : Hid (Below W.heap.size W w7) := BY.out.trans (Y7.out.mono BY.out.size)
        have G8' : Hid (OwnB w7 Y.heap.size ad R) := G7'.out.below b7
        have S8 : Hid (Sl w7 (some ⟨sg, 0, none⟩) R) := S7.out.below b7
        clear b7
        obtain ⟨⟨t0, t1, t2, t3⟩, _⟩ := GY.out w7 Y7.out
        obtain ⟨⟨r0, r1, r2, r3⟩, SS6⟩ := AF.out w7 B7.out
        go_upto_region 16 with fail
        go_cut [49] from 45 to 49 (fun x wx => x = .bool false ∧ Below w7.heap.size w7 wx)
        case first =>
          go_region_with (first | (go_at_call 48; refine (toRun a1 a2 c1 c2 xs ys v k _ ?_ ?_ l1 l2).mono ?_; exact SS6.out.2.1; exact SS6.out.2.2; rintro e w8 ⟨g5, g6, rfl, own8, b8⟩; have K8 : Hid (Below w7.heap.size w7 w8) := Below.trans ((Below.refl _ _).drew) b8; obtain ⟨⟨y0, y1, y2, y3⟩, R7⟩ := GY.out w8 (Y7.out.trans (K8.out.mono Y7.out.size)); have S7 : Hid (RunOwn w8 0 g5 g6 xs ys) := ⟨Nat.zero_le _, Nat.zero_le _, own8.2.2⟩; clear b8 own8) | (go_at_call 40; refine (eqRun _ _ _ _ xs.length ys.length xs.length ys.length xs ys xs ys v k v k _ ?_ ?_ ?_ ?_ l1 l2 l1 l2 ⟨rfl, rfl, rfl, rfl⟩).mono ?_; exact .inr ⟨_, _, rfl, R7.out.2.2.2.2.1⟩; exact .inr ⟨_, _, rfl, R7.out.2.2.2.2.2.1⟩; exact .inr ⟨_, _, rfl, S7.out.2.2.2.1⟩; exact .inr ⟨_, _, rfl, S7.out.2.2.2.2.1⟩; rintro e w9 ⟨rfl, b9⟩; have K9 : Hid (Below w7.heap.size w7 w9) := K8.out.trans (b9.mono K8.out.size); clear b9))
          all_goals
            go_wp2_with fail
            go_meet
            exact ⟨rfl, K9.out⟩
        case rest =>
          obtain ⟨rfl, hB8⟩ := hcut
          have Y8 : Hid (Below Y.heap.size Y wc) := Y7.out.trans (hB8.mono Y7.out.size)
          have G9 : Hid (OwnB wc Y.heap.size ad R) := G8'.out.below hB8
          have S9 : Hid (Sl wc (some ⟨sg, 0, none⟩) R) := S8.out.below hB8
          clear hB8 t0 t1 t2 t3 r0 r1 r2 r3
          obtain ⟨_, A9⟩ := GY.out wc Y8.out
          have q4 : w4.heap.size < Y.heap.size := QY.out.1
          have g3a : g3 < w4.heap.size ∧ g4 < w4.heap.size ∧ v0.heap.size < w3.heap.size ∧ w3.heap.size ≤ g3 ∧ w3.heap.size ≤ g4 := ⟨G34.out.1, G34.out.2.1, RX.out.1, G34.out.2.2.1, G34.out.2.2.2⟩
          have FX0 : Hid (∀ o, wc.frozen? ⟨v0.heap.size, o, none⟩ = false) := fun o => by
            have e1 := Y8.out.frozen (p := ⟨v0.heap.size, o, none⟩) (by show v0.heap.size < _; omega)
            have e2 := Y3.out.frozen (p := ⟨v0.heap.size, o, none⟩) (by show v0.heap.size < _; omega)
            rw [e1, e2]; exact FR3.out o
          -- marks of what was handed in
          go_wp2_with fail
          refine (markBoxB (some ⟨v0.heap.size, 0, none⟩) bs.length bs.length 0 bs 1 wc (.inr ⟨_, rfl, Nat.zero_le _, A9.out.1, FX0.out⟩) rfl l0 (by decide) (by decide)).mono ?_
          rintro e w10 ⟨rfl, _, t10⟩
          have T10a : Hid (Turned [v0.heap.size] wc w10) := Turned.ofOnlyB t10 (fun g e => by injection e with e; injection e with e1; simp [e1])
          have T10 : Hid (Turned [v0.heap.size, g3, g4] wc w10) := T10a.out.mono (fun x hx => by simp at hx; simp [hx])
          clear t10
          have QY10 : Hid (C4 w10 w4.heap.size (.slice (some ⟨g3, 0, none⟩) xs.length xs.length) (.slice (some ⟨g4, 0, none⟩) ys.length ys.length) (.int .i64 v) (.int .i64 k)) := (QY.out.below Y8.out).turned T10.out (by simp; omega)
          have RO : Hid (OwnB w10 0 (some ⟨g3, 0, none⟩) xs ∧ OwnB w10 0 (some ⟨g4, 0, none⟩) ys) := by
            have r3 : OwnB wc 0 (some ⟨g3, 0, none⟩) xs := .inr ⟨_, rfl, Nat.zero_le _, A9.out.2.2.2.2.1, fun o => A9.out.2.2.2.2.2.2.1.frozen o⟩
            have r4 : OwnB wc 0 (some ⟨g4, 0, none⟩) ys := .inr ⟨_, rfl, Nat.zero_le _, A9.out.2.2.2.2.2.1, fun o => A9.out.2.2.2.2.2.2.2.frozen o⟩
            exact ⟨r3.turned T10a.out (fun g e => by injection e with e; injection e with e1; simp; omega), r4.turned T10a.out (fun g e => by injection e with e; injection e with e1; simp; omega)⟩
          have HAP : Hid (Apart (some ⟨g3, 0, none⟩) (some ⟨g4, 0, none⟩) xs ys) := .inr (.inr fun g g' e e' => by injection e with e; injection e with e1; injection e' with e'; injection e' with e2; have := G34'.out; omega)
          obtain ⟨_, t0, t1, t2, t3⟩ := QY10.out
          go_wp2_with fail
          refine (markRunB (some ⟨g3, 0, none⟩) (some ⟨g4, 0, none⟩) xs.length ys.length xs.length ys.length 0 xs ys v k (1 + 2 * bs.length) [v0.heap.size, g3, g4] w10 RO.out.1 RO.out.2 HAP.out rfl rfl (by omega) (by omega) (by omega) (by omega) (fun g e => by injection e with e; injection e with e1; simp [e1]) (fun g e => by injection e with e; injection e with e1; simp [e1])).mono ?_
          rintro e w11 ⟨rfl, _, _, t11⟩
          have T11 : Hid (Turned [v0.heap.size, g3, g4] wc w11) := T10.out.trans t11
          clear t11 t0 t1 t2 t3
          have G11 : Hid (OwnB w11 Y.heap.size ad R) := by
            by_cases hne : R = []
            · exact .inl hne
            · exact G9.out.turned T11.out (fun g e => by have := G9.out.from g hne e; simp; omega)
          have S11 : Hid (Sl w11 (some ⟨sg, 0, none⟩) R) := by
            rcases SG.out with h | h
            · exact .inl h
            · exact S9.out.turned T11.out (fun x e => by injection e with e; subst e; simp; omega)
          have W11 : Hid (Below W.heap.size W w11) := by
            have h := BY.out.trans (Y8.out.mono BY.out.size)
            exact h.trans (T11.out.below (fun x hx => by simp at hx; omega) h.size)
          have p1 : ¬ (1 : Int) + 2 * (bs.length : Int) + 2 * (xs.length : Int) + 2 * (ys.length : Int) < 0 := by omega
          go_wp2_with fail
          refine (eqBoxS ad (some ⟨sg, 0, none⟩) acap scap R R w11 G11.out.sl S11.out (by omega) (by omega)).mono ?_
          rintro e w12 ⟨rfl, b12⟩
          rw [show (R == R) = true from by simp]
          have G12 : Hid (OwnB w12 Y.heap.size ad R) := G11.out.below b12
          have S12 : Hid (Sl w12 (some ⟨sg, 0, none⟩) R) := S11.out.below b12
          have W12 : Hid (Below W.heap.size W w12) := W11.out.trans (b12.mono W11.out.size)
          have Z12 : Hid (Y.heap.size ≤ w12.heap.size) := Nat.le_trans Y8.out.size (Nat.le_trans T11.out.size b12.size)
          clear b12
          go_wp2_with fail
          refine (markBoxB ad acap R.length Y.heap.size R 1 w12 G12.out rfl (by omega) (by decide) (by decide)).mono ?_
          rintro e w13 ⟨rfl, o13, t13⟩
          have O13 : Hid (OwnB w13 Y.heap.size ad (marks 1 R.length)) := o13
          have b13 : Below Y.heap.size w12 w13 := t13.below G12.out.from
          have S13 : Hid (Sl w13 (some ⟨sg, 0, none⟩) R) := by
            rcases SG.out with h' | h'
            · exact .inl h'
            · rcases S12.out with h | ⟨b, off, e, h⟩
              · exact .inl h
              · refine .inr ⟨b, off, e, h.block b13.size (b13.block b ?_)⟩
                injection e with e; injection e with e1 e2; omega
          have W13 : Hid (Below W.heap.size W w13) := W12.out.trans (b13.mono (by omega))
          clear o13 t13 b13
          obtain ⟨⟨r0, r1, r2, r3⟩, SS13⟩ := AF.out w13 W13.out
          go_wp2_with fail
          refine (heldBoxB ad acap R.length Y.heap.size 1 w13 O13.out (by omega) (by decide) (by decide)).mono ?_
          rintro e w13' ⟨rfl, hw⟩
          subst hw
          have p2 : ¬ (1 : Int) + 2 * (R.length : Int) < 0 := by omega
          have p3 : ((1 : Int) + 2 * (R.length : Int) != 1 + 2 * (R.length : Int)) = false := by simp
          go_upto_region 31 with fail
          go_cut [13] from 75 to 79 (fun x wx => ∃ ad2 cap2, x = .slice ad2 R.length cap2 ∧ Sl wx ad2 R ∧ Below w13'.heap.size w13' wx)
          case first =>
            go_region_with (first | (go_at_call 38; refine (toBoxS a c bs _ ?_ l0).mono ?_; exact SS13.out.1; rintro e w14 ⟨rfl, at14, _, b14⟩; have K14 : Hid (Below w13'.heap.size w13' w14) := Below.trans ((Below.refl _ _).drew) b14; obtain ⟨⟨s0, s1, s2, s3⟩, T14⟩ := AF.out w14 (W13.out.trans (K14.out.mono W13.out.size)); have R14 : Hid (BoxAt w14 w13'.heap.size 0 bs) := at14; clear b14 at14) | (go_at_call 48; refine (toRun a1 a2 c1 c2 xs ys v k _ ?_ ?_ l1 l2).mono ?_; exact T14.out.2.1; exact T14.out.2.2; rintro e w15 ⟨g5, g6, rfl, own15, b15⟩; have K15 : Hid (Below w13'.heap.size w13' w15) := K14.out.trans (b15.mono K14.out.size); have Q15 : Hid (RunOwn w15 0 g5 g6 xs ys) := ⟨Nat.zero_le _, Nat.zero_le _, own15.2.2⟩; have R15 : Hid (BoxAt w15 w13'.heap.size 0 bs) := R14.out.below b15; clear b15 own15) | (go_at_call 27; refine (implExecDo _ bs.length bs _ _ xs.length ys.length xs ys v k _ ?_ (Nat.le_refl _) ?_ ?_ l1 l2).mono ?_; exact .inr ⟨_, _, rfl, R15.out⟩; exact .inr ⟨_, _, rfl, Q15.out.2.2.2.1⟩; exact .inr ⟨_, _, rfl, Q15.out.2.2.2.2.1⟩; rintro e w16 ⟨ad2, cap2, rfl, _, own16, b16⟩; have K16 : Hid (Below w13'.heap.size w13' w16) := K15.out.trans (b16.mono K15.out.size); have S16 : Hid (Sl w16 ad2 (execDo bs xs ys v k)) := own16.sl; clear b16 own16))
            all_goals
              go_wp2_with fail
              go_meet
              exact ⟨ad2, cap2, by rw [← HR.out], by rw [← HR.out]; exact S16.out, K16.out⟩
          case rest =>
            obtain ⟨ad2, cap2, rfl, hS, hB⟩ := hcut
            have S17 : Hid (Sl wc ad2 R) := hS
            have S17' : Hid (Sl wc (some ⟨sg, 0, none⟩) R) := S13.out.below hB
            have O17 : Hid (OwnB wc Y.heap.size ad (marks 1 R.length)) := O13.out.below hB
            have W17 : Hid (Below W.heap.size W wc) := W13.out.trans (hB.mono W13.out.size)
            clear hS hB r0 r1 r2 r3
            go_wp2_with fail
            refine (eqBoxS ad2 (some ⟨sg, 0, none⟩) cap2 scap R R wc S17.out S17'.out (by omega) (by omega)).mono ?_
            rintro e w18 ⟨rfl, b18⟩
            rw [show (R == R) = true from by simp]
            have O18 : Hid (OwnB w18 Y.heap.size ad (marks 1 R.length)) := O17.out.below b18
            have W18 : Hid (Below W.heap.size W w18) := W17.out.trans (b18.mono W17.out.size)
            clear b18
            go_wp2_with fail
            refine (heldBoxB ad acap R.length Y.heap.size 1 w18 O18.out (by omega) (by decide) (by decide)).mono ?_
            rintro e w19 ⟨rfl, hw⟩
            subst hw
            go_wp2_with fail
            go_ret
            exact ⟨rfl, BW.out.trans (W18.out.mono BW.out.size)⟩
    · go_enter Try.func13, Try.ntmps13
      go_wp2_with fail
      rw [← HW.out]
      refine (szBoxS a bs.length c 1048576 W m0 (by decide) (by decide)).mono ?_
      rintro e w1 ⟨rfl, hw⟩
      rw [if_neg (by omega)]
      have hpos : ¬ (1048576 : Int) - (bs.length : Int) < 0 := by omega
      have B1 : Hid (Below W.heap.size W w1) := by show Below _ _ _; rw [hw]; exact Below.refl _ _
      clear hw
      obtain ⟨⟨q0, q1, q2, q3⟩, _⟩ := AF.out w1 B1.out
      go_wp2_with fail
      refine (szRun a1 a2 xs.length c1 ys.length c2 v k (1048576 - bs.length) w1 m1 m2 (by omega) (by omega)).mono ?_
      rintro e w2 ⟨rfl, b2'⟩
      rw [if_pos (by omega)]
      have B2 : Hid (Below w.heap.size w w2) := BW.out.trans ((B1.out.trans (b2'.mono B1.out.size)).mono BW.out.size)
      clear b2'
      go_wp2_with fail
      go_ret
      exact ⟨rfl, B2.out⟩
  · go_enter Try.func13, Try.ntmps13
    go_wp2_with fail
    rw [← HW.out]
    refine (szBoxS a bs.length c 1048576 W m0 (by decide) (by decide)).mono ?_
    rintro e w1 ⟨rfl, hw⟩
    rw [if_pos (by omega)]
    have B1 : Hid (Below w.heap.size w w1) := by show Below _ _ _; rw [hw]; exact BW.out
    clear hw
    go_wp2_with fail
    go_ret
    exact ⟨rfl, B1.out⟩
end Go.Proofs.Ytbcnmmofccackaa.Own

/-
  Own text: laws.FnExactExecFresh.
-/
import Derived.Test.YtbcnmmofccackaaExecFreshI
import Derived.Test.YtbcnmmofccackaaExecFreshS
import Derived.Test.YtbcnmmofccackaaRunOps
import Derived.Test.YtbcnmmofccackaaTo
import Derived.Test.YtbcnmmofccackaaEq
import Derived.Test.YtbcnmmofccackaaCells4
namespace Go.Proofs.Ytbcnmmofccackaa.Own
open Go.RowKit
set_option linter.unusedVariables false

set_option maxRecDepth 100000 in
set_option maxHeartbeats 4000000 in
theorem lawExecFresh (a : Option Addr) (c : Nat) (bs : List P2) (a1 a2 : Option Addr) (c1 c2 : Nat) (xs ys : List P2) (v k : Int) (w : World)
    (h0 : Sl w a bs) (m0 : bs.length ≤ maxLen) (h1 : Sl w a1 xs) (h2 : Sl w a2 ys) (hc1 : xs.length ≤ c1) (hc2 : ys.length ≤ c2) (hm1 : c1 ≤ maxLen) (hm2 : c2 ≤ maxLen) :
    Calls Try.prog 12 #[.slice a bs.length c, .agg #[.slice a1 xs.length c1, .slice a2 ys.length c2, .int .i64 v, .int .i64 k]] w fun e w' => e = .returned (.bool true) ∧ Below w.heap.size w w' := by
  have m1 : xs.length ≤ maxLen := Nat.le_trans hc1 hm1
  have m2 : ys.length ≤ maxLen := Nat.le_trans hc2 hm2
  have H0 : Hid (Sl w a bs) := h0
  have H1 : Hid (Sl w a1 xs) := h1
  have H2 : Hid (Sl w a2 ys) := h2
  clear h0 h1 h2 hc1 hc2 hm1 hm2
  obtain ⟨W, hW⟩ : ∃ W, W = w.alloc (.cells #[.slice a1 xs.length c1, .slice a2 ys.length c2, .int .i64 v, .int .i64 k] 71) := ⟨_, rfl⟩
  have BW : Hid (Below w.heap.size w W) := by show Below _ _ _; rw [hW]; exact below_new _ _
  have P0 : Hid (C4 W w.heap.size (.slice a1 xs.length c1) (.slice a2 ys.length c2) (.int .i64 v) (.int .i64 k)) := by show C4 _ _ _ _ _ _; rw [hW]; exact C4.new _ _ _ _ _ _
  have HW : Hid (W = _) := hW
  clear hW
  have AF : Hid (∀ w', Below W.heap.size W w' → (w'.cell? ⟨w.heap.size, 0, none⟩ = some (.slice a1 xs.length c1) ∧ w'.cell? ⟨w.heap.size, 1, none⟩ = some (.slice a2 ys.length c2) ∧ w'.cell? ⟨w.heap.size, 2, none⟩ = some (.int .i64 v) ∧ w'.cell? ⟨w.heap.size, 3, none⟩ = some (.int .i64 k)) ∧ Hid (Sl w' a bs ∧ Sl w' a1 xs ∧ Sl w' a2 ys)) :=
    fun w' hb => ⟨(P0.out.below hb).2, (H0.out.below BW.out).below hb, (H1.out.below BW.out).below hb, (H2.out.below BW.out).below hb⟩
  by_cases hn : bs.length ≤ 1048576
  · by_cases hn2 : bs.length + xs.length + ys.length ≤ 1048576
    · have l0 : bs.length ≤ 2 ^ 40 := by omega
      have l1 : xs.length ≤ 2 ^ 40 := by omega
      have l2 : ys.length ≤ 2 ^ 40 := by omega
      go_enter Try.func12, Try.ntmps12
      go_wp2_with fail
      rw [← HW.out]
      refine (szBoxS a bs.length c 1048576 W m0 (by decide) (by decide)).mono ?_
      rintro e w1 ⟨rfl, hw⟩
      rw [if_neg (by omega)]
      have hpos : ¬ (1048576 : Int) - (bs.length : Int) < 0 := by omega
      have B1 : Hid (Below W.heap.size W w1) := by show Below _ _ _; rw [hw]; exact Below.refl _ _
      clear hw
      obtain ⟨⟨q0, q1, q2, q3⟩, _⟩ := AF.out w1 B1.out
      go_wp2_with fail
      refine (szRun a1 a2 xs.length c1 ys.length c2 v k (1048576 - bs.length) w1 m1 m2 (by omega) (by omega)).mono ?_
      rintro e w2 ⟨rfl, b2'⟩
      rw [if_neg (by omega)]
      have hpos2 : ¬ (1048576 : Int) - (bs.length : Int) - (xs.length : Int) - (ys.length : Int) < 0 := by omega
      have B2 : Hid (Below W.heap.size W w2) := B1.out.trans (b2'.mono B1.out.size)
      clear b2' q0 q1 q2 q3
      obtain ⟨⟨q0, q1, q2, q3⟩, SS2⟩ := AF.out w2 B2.out
      go_upto_region 8 with fail
      go_cut [6] from 20 to 24 (fun x wx => x = .bool (execFresh bs xs ys v k) ∧ Below W.heap.size W wx)
      case first =>
        go_region_with (first | (go_at_call 38; refine (toBoxS a c bs _ ?_ l0).mono ?_; exact SS2.out.1; rintro e w3 ⟨rfl, at3, _, b3⟩; have K3 : Hid (Below W.heap.size W w3) := B2.out.trans (Below.trans ((Below.refl _ _).drew) (b3.mono B2.out.size)); obtain ⟨⟨s0, s1, s2, s3⟩, T1⟩ := AF.out w3 K3.out; have R3 : Hid (BoxAt w3 w2.heap.size 0 bs) := at3; clear b3 at3) | (go_at_call 48; refine (toRun a1 a2 c1 c2 xs ys v k _ ?_ ?_ l1 l2).mono ?_; exact T1.out.2.1; exact T1.out.2.2; rintro e w4 ⟨g3, g4, rfl, own4, b4⟩; have K4 : Hid (Below W.heap.size W w4) := K3.out.trans (b4.mono K3.out.size); have R4 : Hid (RunOwn w4 0 g3 g4 xs ys) := ⟨Nat.zero_le _, Nat.zero_le _, own4.2.2⟩; have R5 : Hid (BoxAt w4 w2.heap.size 0 bs) := R3.out.below b4; clear b4 own4) | (go_at_call 31; refine (specExecFresh _ bs.length bs _ _ xs.length ys.length xs ys v k _ ?_ l0 ?_ ?_ l1 l2 (Nat.le_refl _) (Nat.le_refl _)).mono ?_; exact .inr ⟨_, _, rfl, R5.out⟩; exact .inr ⟨_, _, rfl, R4.out.2.2.2.1⟩; exact .inr ⟨_, _, rfl, R4.out.2.2.2.2.1⟩; rintro e w5 ⟨rfl, b5⟩; have K5 : Hid (Below W.heap.size W w5) := K4.out.trans (b5.mono K4.out.size); clear b5))
        all_goals
          go_wp2_with fail
          go_meet
          exact ⟨rfl, K5.out⟩
      case rest =>
        obtain ⟨rfl, hB3⟩ := hcut
        have B3 : Hid (Below W.heap.size W wc) := hB3
        clear hB3 q0 q1 q2 q3
        obtain ⟨_, SS3⟩ := AF.out wc B3.out
        go_wp2_with fail
        refine (toBoxS a c bs wc SS3.out.1 l0).mono ?_
        rintro e w3 ⟨rfl, at3, _, b3⟩
        have RX : Hid (BoxAt w3 wc.heap.size 0 bs) := at3
        have BX : Hid (Below W.heap.size W w3) := B3.out.trans (b3.mono B3.out.size)
        clear at3 b3
        obtain ⟨⟨r0, r1, r2, r3⟩, SSX⟩ := AF.out w3 BX.out
        go_wp2_with fail
        refine (toRun a1 a2 c1 c2 xs ys v k w3 SSX.out.2.1 SSX.out.2.2 l1 l2).mono ?_
        rintro e w4 ⟨g3, g4, rfl, own4, b4⟩
        obtain ⟨Y, hY⟩ : ∃ Y, Y = w4.alloc (.cells #[.slice (some ⟨g3, 0, none⟩) xs.length xs.length, .slice (some ⟨g4, 0, none⟩) ys.length ys.length, .int .i64 v, .int .i64 k] 37) := ⟨_, rfl⟩
        have bY : Below w3.heap.size w3 Y := by rw [hY]; exact b4.alloc b4.size _
        have BY : Hid (Below W.heap.size W Y) := BX.out.trans (bY.mono BX.out.size)
        have RY : Hid (BoxAt Y wc.heap.size 0 bs) := RX.out.below bY
        have SY : Hid (RunOwn Y 0 g3 g4 xs ys) := by
          show RunOwn _ _ _ _ _ _
          rw [hY]
          have h := own4.below (below_new w4 (.cells #[.slice (some ⟨g3, 0, none⟩) xs.length xs.length, .slice (some ⟨g4, 0, none⟩) ys.length ys.length, .int .i64 v, .int .i64 k] 37))
          exact ⟨Nat.zero_le _, Nat.zero_le _, h.2.2⟩
        have QY : Hid (C4 Y w4.heap.size (.slice (some ⟨g3, 0, none⟩) xs.length xs.length) (.slice (some ⟨g4, 0, none⟩) ys.length ys.length) (.int .i64 v) (.int .i64 k)) := by show C4 _ _ _ _ _ _; rw [hY]; exact C4.new _ _ _ _ _ _
        have HY : Hid (Y = _) := hY
        have GY : Hid (∀ w', Below Y.heap.size Y w' → (w'.cell? ⟨w4.heap.size, 0, none⟩ = some (.slice (some ⟨g3, 0, none⟩) xs.length xs.length) ∧ w'.cell? ⟨w4.heap.size, 1, none⟩ = some (.slice (some ⟨g4, 0, none⟩) ys.length ys.length) ∧ w'.cell? ⟨w4.heap.size, 2, none⟩ = some (.int .i64 v) ∧ w'.cell? ⟨w4.heap.size, 3, none⟩ = some (.int .i64 k)) ∧ Hid (BoxAt w' wc.heap.size 0 bs ∧ RunOwn w' 0 g3 g4 xs ys)) :=
          fun w' hb => ⟨(QY.out.below hb).2, RY.out.below hb, SY.out.below hb⟩
        clear hY own4 b4 r0 r1 r2 r3 bY
        obtain ⟨⟨t0, t1, t2, t3⟩, _⟩ := GY.out Y (Below.refl _ _)
        go_upto_region 11 with fail
        rw [← HY.out]
        go_wp2_with fail
        refine (implExecFresh _ bs.length bs _ _ xs.length ys.length xs ys v k Y (.inr ⟨_, _, rfl, RY.out⟩) (Nat.le_refl _) (.inr ⟨_, _, rfl, SY.out.2.2.2.1⟩) (.inr ⟨_, _, rfl, SY.out.2.2.2.2.1⟩) l1 l2).mono ?_
        rintro e w5 ⟨rfl, b5⟩
        have Y5 : Hid (Below Y.heap.size Y w5) := b5
        have B5 : Hid (Below W.heap.size W w5) := BY.out.trans (b5.mono BY.out.size)
        clear b5 t0 t1 t2 t3
        generalize execFresh bs xs ys v k = ok
        have ho : (ok != ok) = false := by simp
        obtain ⟨_, G5⟩ := GY.out w5 Y5.out
        obtain ⟨_, SS5⟩ := AF.out w5 B5.out
        go_wp2_with fail
        refine (toBoxS a c bs w5 SS5.out.1 l0).mono ?_
        rintro e w6 ⟨rfl, at6, _, b6⟩
        have A6 : Hid (BoxAt w6 w5.heap.size 0 bs) := at6
        have A6' : Hid (BoxAt w6 wc.heap.size 0 bs) := G5.out.1.below b6
        have Y6 : Hid (Below Y.heap.size Y w6) := Y5.out.trans (b6.mono Y5.out.size)
        clear at6 b6
        go_wp2_with fail
        refine (eqBoxS _ _ bs.length bs.length bs bs w6 (.inr ⟨_, _, rfl, A6'.out⟩) (.inr ⟨_, _, rfl, A6.out⟩) l0 l0).mono ?_
        rintro e w7 ⟨rfl, b7⟩
        rw [show (bs == bs) = true from by simp]
        have Y7 : Hid (Below Y.heap.size Y w7) := Y6.out.trans (b7.mono Y6.out.size)
        have B7 : Hid (Below W.heap.size W w7) := BY.out.trans (Y7.out.mono BY.out.size)
        clear b7
        obtain ⟨⟨t0, t1, t2, t3⟩, _⟩ := GY.out w7 Y7.out
        obtain ⟨⟨r0, r1, r2, r3⟩, SS6⟩ := AF.out w7 B7.out
        go_upto_region 16 with fail
        go_region_with (first | (go_at_call 48; refine (toRun a1 a2 c1 c2 xs ys v k _ ?_ ?_ l1 l2).mono ?_; exact SS6.out.2.1; exact SS6.out.2.2; rintro e w8 ⟨g5, g6, rfl, own8, b8⟩; have K8 : Hid (Below w7.heap.size w7 w8) := Below.trans ((Below.refl _ _).drew) b8; obtain ⟨⟨y0, y1, y2, y3⟩, R7⟩ := GY.out w8 (Y7.out.trans (K8.out.mono Y7.out.size)); have S7 : Hid (RunOwn w8 0 g5 g6 xs ys) := ⟨Nat.zero_le _, Nat.zero_le _, own8.2.2⟩; clear b8 own8) | (go_at_call 40; refine (eqRun _ _ _ _ xs.length ys.length xs.length ys.length xs ys xs ys v k v k _ ?_ ?_ ?_ ?_ l1 l2 l1 l2 ⟨rfl, rfl, rfl, rfl⟩).mono ?_; exact .inr ⟨_, _, rfl, R7.out.2.2.2.2.1⟩; exact .inr ⟨_, _, rfl, R7.out.2.2.2.2.2.1⟩; exact .inr ⟨_, _, rfl, S7.out.2.2.2.1⟩; exact .inr ⟨_, _, rfl, S7.out.2.2.2.2.1⟩; rintro e w9 ⟨rfl, b9⟩; have K9 : Hid (Below w7.heap.size w7 w9) := K8.out.trans (b9.mono K8.out.size); clear b9))
        all_goals
          go_wp2_with fail
          go_ret
          exact ⟨rfl, BW.out.trans ((B7.out.trans (K9.out.mono B7.out.size)).mono BW.out.size)⟩
    · go_enter Try.func12, Try.ntmps12
      go_wp2_with fail
      rw [← HW.out]
      refine (szBoxS a bs.length c 1048576 W m0 (by decide) (by decide)).mono ?_
      rintro e w1 ⟨rfl, hw⟩
      rw [if_neg (by omega)]
      have hpos : ¬ (1048576 : Int) - (bs.length : Int) < 0 := by omega
      have B1 : Hid (Below W.heap.size W w1) := by show Below _ _ _; rw [hw]; exact Below.refl _ _
      clear hw
      obtain ⟨⟨q0, q1, q2, q3⟩, _⟩ := AF.out w1 B1.out
      go_wp2_with fail
      refine (szRun a1 a2 xs.length c1 ys.length c2 v k (1048576 - bs.length) w1 m1 m2 (by omega) (by omega)).mono ?_
      rintro e w2 ⟨rfl, b2'⟩
      rw [if_pos (by omega)]
      have B2 : Hid (Below w.heap.size w w2) := BW.out.trans ((B1.out.trans (b2'.mono B1.out.size)).mono BW.out.size)
      clear b2'
      go_wp2_with fail
      go_ret
      exact ⟨rfl, B2.out⟩
  · go_enter Try.func12, Try.ntmps12
    go_wp2_with fail
    rw [← HW.out]
    refine (szBoxS a bs.length c 1048576 W m0 (by decide) (by decide)).mono ?_
    rintro e w1 ⟨rfl, hw⟩
    rw [if_pos (by omega)]
    have B1 : Hid (Below w.heap.size w w1) := by show Below _ _ _; rw [hw]; exact BW.out
    clear hw
    go_wp2_with fail
    go_ret
    exact ⟨rfl, B1.out⟩
end Go.Proofs.Ytbcnmmofccackaa.Own

/-
  Own text: laws.FnExactCertSame.
-/
import Derived.Test.YtgcencilgpilaaaStSame
import Derived.Test.YtgcencilgpilaaaStateOps
import Derived.Deep.Cut
import Derived.Deep.CutRange
import Derived.Test.YtgcencilgpilaaaCells4
import Derived.Test.YtgcencilgpilaaaWf4
namespace Go.Proofs.Ytgcencilgpilaaa.Own
open Go.RowKit
set_option linter.unusedVariables false

set_option maxRecDepth 100000 in
set_option maxHeartbeats 4000000 in
theorem lawCertSame (z : Int) (a1 a2 : Option Addr) (c1 c2 : Nat) (xs : List P2) (ys : List Q4) (z' : Int) (b1 b2 : Option Addr) (d1 d2 : Nat) (zs : List P2) (us : List Q4) (w : World)
    (h1 : Sl w a1 xs) (h2 : Sl4 w a2 ys) (hc1 : xs.length ≤ c1) (hc2 : ys.length ≤ c2) (hm1 : c1 ≤ maxLen) (hm2 : c2 ≤ maxLen) (wf1 : Wf4 ys) (h3 : Sl w b1 zs) (h4 : Sl4 w b2 us) (hc3 : zs.length ≤ d1) (hc4 : us.length ≤ d2) (hm3 : d1 ≤ maxLen) (hm4 : d2 ≤ maxLen) (wf2 : Wf4 us) :
    Calls Try.prog 9 #[.agg #[.int .i64 z, .slice a1 xs.length c1, .slice a2 ys.length c2], .agg #[.int .i64 z', .slice b1 zs.length d1, .slice b2 us.length d2]] w fun e w' => e = .returned (.bool true) ∧ Below w.heap.size w w' := by
  have m1 : xs.length ≤ maxLen := Nat.le_trans hc1 hm1
  have m2 : ys.length ≤ maxLen := Nat.le_trans hc2 hm2
  have m3 : zs.length ≤ maxLen := Nat.le_trans hc3 hm3
  have m4 : us.length ≤ maxLen := Nat.le_trans hc4 hm4
  have H1 : Hid (Sl w a1 xs) := h1
  have H2 : Hid (Sl4 w a2 ys) := h2
  have H3 : Hid (Sl w b1 zs) := h3
  have H4 : Hid (Sl4 w b2 us) := h4
  clear h1 h2 h3 h4 hc1 hc2 hc3 hc4 hm1 hm2 hm3 hm4
  obtain ⟨W, hW⟩ : ∃ W, W = (w.alloc (.cells #[.int .i64 z, .slice a1 xs.length c1, .slice a2 ys.length c2] 77)).alloc (.cells #[.int .i64 z', .slice b1 zs.length d1, .slice b2 us.length d2] 77) := ⟨_, rfl⟩
  have BW : Hid (Below w.heap.size w W) := by show Below _ _ _; rw [hW]; exact ((Below.refl _ _).alloc (Nat.le_refl _) _).alloc (by simp) _
  have P0 : Hid (C3 W w.heap.size (.int .i64 z) (.slice a1 xs.length c1) (.slice a2 ys.length c2)) := by show C3 _ _ _ _ _; rw [hW]; exact (C3.new _ _ _ _ _).alloc _
  have P1 : Hid (C3 W (w.heap.size + 1) (.int .i64 z') (.slice b1 zs.length d1) (.slice b2 us.length d2)) := by
    show C3 _ _ _ _ _
    have := C3.new (w.alloc (.cells #[.int .i64 z, .slice a1 xs.length c1, .slice a2 ys.length c2] 77)) (.int .i64 z') (.slice b1 zs.length d1) (.slice b2 us.length d2) 77
    rw [size_new] at this
    rw [hW]; exact this
  have HW : Hid (W = _) := hW
  clear hW
  have AF : Hid (∀ w', Below W.heap.size W w' → (w'.cell? ⟨w.heap.size, 0, none⟩ = some (.int .i64 z) ∧ w'.cell? ⟨w.heap.size, 1, none⟩ = some (.slice a1 xs.length c1) ∧ w'.cell? ⟨w.heap.size, 2, none⟩ = some (.slice a2 ys.length c2)) ∧ (w'.cell? ⟨w.heap.size + 1, 0, none⟩ = some (.int .i64 z') ∧ w'.cell? ⟨w.heap.size + 1, 1, none⟩ = some (.slice b1 zs.length d1) ∧ w'.cell? ⟨w.heap.size + 1, 2, none⟩ = some (.slice b2 us.length d2)) ∧ Hid (Sl w' a1 xs ∧ Sl4 w' a2 ys ∧ Sl w' b1 zs ∧ Sl4 w' b2 us)) :=
    fun w' hb => ⟨(P0.out.below hb).2, (P1.out.below hb).2, (H1.out.below BW.out).below hb, (H2.out.below BW.out).below hb, (H3.out.below BW.out).below hb, (H4.out.below BW.out).below hb⟩
  by_cases hn : xs.length + ys.length ≤ 1048576
  · by_cases hn2 : xs.length + ys.length + zs.length + us.length ≤ 1048576
    · have l1 : xs.length ≤ 2 ^ 40 := by omega
      have l2 : ys.length ≤ 2 ^ 40 := by omega
      have l3 : zs.length ≤ 2 ^ 40 := by omega
      have l4 : us.length ≤ 2 ^ 40 := by omega
      go_enter Try.func9, Try.ntmps9
      go_wp2_with fail
      rw [← HW.out]
      refine (szState z a1 a2 xs.length c1 ys.length c2 1048576 W m1 m2 (by decide) (by decide)).mono ?_
      rintro e w1 ⟨rfl, b1'⟩
      rw [if_neg (by omega)]
      have hpos : ¬ (1048576 : Int) - (xs.length : Int) - (ys.length : Int) < 0 := by omega
      have B1 : Hid (Below W.heap.size W w1) := b1'
      clear b1'
      obtain ⟨⟨q0, q1, q2⟩, ⟨r0, r1, r2⟩, _⟩ := AF.out w1 B1.out
      go_wp2_with fail
      refine (szState z' b1 b2 zs.length d1 us.length d2 (1048576 - xs.length - ys.length) w1 m3 m4 (by omega) (by omega)).mono ?_
      rintro e w2 ⟨rfl, b2'⟩
      rw [if_neg (by omega)]
      have hpos2 : ¬ (1048576 : Int) - (xs.length : Int) - (ys.length : Int) - (zs.length : Int) - (us.length : Int) < 0 := by omega
      have B2 : Hid (Below W.heap.size W w2) := B1.out.trans (b2'.mono B1.out.size)
      clear b2' q0 q1 q2 r0 r1 r2
      obtain ⟨⟨q0, q1, q2⟩, ⟨r0, r1, r2⟩, SS2⟩ := AF.out w2 B2.out
      go_upto_region 8 with fail
      go_cut [6] from 20 to 24 (fun c wx => c = .bool (sameSt z z' xs zs ys us) ∧ Below W.heap.size W wx)
      case first =>
        go_region_with (first | (go_at_call_of 51 (Value.slice a1 xs.length c1); refine (toState z a1 a2 c1 c2 xs ys _ ?_ ?_ l1 l2).mono ?_; exact SS2.out.1; exact SS2.out.2.1; rintro e w3 ⟨g1, g2, rfl, own3, b3⟩; have K3 : Hid (Below W.heap.size W w3) := B2.out.trans (Below.trans ((Below.refl _ _).drew) (b3.mono B2.out.size)); obtain ⟨⟨s0, s1, s2⟩, ⟨t0, t1, t2⟩, T1⟩ := AF.out w3 K3.out; have R3 : Hid (StOwn w3 0 g1 g2 xs ys) := ⟨Nat.zero_le _, Nat.zero_le _, own3.2.2⟩; clear b3 own3) | (go_at_call_of 51 (Value.slice b1 zs.length d1); refine (toState z' b1 b2 d1 d2 zs us _ ?_ ?_ l3 l4).mono ?_; exact T1.out.2.2.1; exact T1.out.2.2.2; rintro e w4 ⟨g3, g4, rfl, own4, b4⟩; have K4 : Hid (Below W.heap.size W w4) := K3.out.trans (b4.mono K3.out.size); have R4 : Hid (StOwn w4 0 g3 g4 zs us) := ⟨Nat.zero_le _, Nat.zero_le _, own4.2.2⟩; have R5 : Hid (StOwn w4 0 g1 g2 xs ys) := R3.out.below b4; clear b4 own4) | (go_at_call 53; refine (specCertSame z z' _ _ _ _ xs.length ys.length zs.length us.length xs zs ys us _ ?_ ?_ ?_ ?_ l1 l2 l3 l4).mono ?_; exact .inr ⟨_, _, rfl, R5.out.2.2.2.1⟩; exact .inr ⟨_, _, rfl, R5.out.2.2.2.2.1⟩; exact .inr ⟨_, _, rfl, R4.out.2.2.2.1⟩; exact .inr ⟨_, _, rfl, R4.out.2.2.2.2.1⟩; rintro e w5 ⟨rfl, b5⟩; have K5 : Hid (Below W.heap.size W w5) := K4.out.trans (b5.mono K4.out.size); clear b5))
        all_goals
          go_wp2_with fail
          go_meet
          exact ⟨rfl, K5.out⟩
      case rest =>
        obtain ⟨rfl, hB3⟩ := hcut
        have B3 : Hid (Below W.heap.size W wc) := hB3
        clear hB3 q0 q1 q2 r0 r1 r2
        obtain ⟨⟨q0, q1, q2⟩, ⟨r0, r1, r2⟩, SS3⟩ := AF.out wc B3.out
        go_wp2_with fail
        refine (toState z a1 a2 c1 c2 xs ys wc SS3.out.1 SS3.out.2.1 l1 l2).mono ?_
        rintro e w3 ⟨g1, g2, rfl, own3, b3⟩
        obtain ⟨X, hX⟩ : ∃ X, X = w3.alloc (.cells #[.int .i64 z, .slice (some ⟨g1, 0, none⟩) xs.length xs.length, .slice (some ⟨g2, 0, none⟩) ys.length ys.length] 70) := ⟨_, rfl⟩
        have BX : Hid (Below W.heap.size W X) := by
          show Below _ _ _
          have h := B3.out.trans (b3.mono B3.out.size)
          rw [hX]; exact h.alloc h.size _
        have RX : Hid (StOwn X 0 g1 g2 xs ys) := by
          show StOwn _ _ _ _ _ _
          rw [hX]
          have h := own3.below (below_new w3 (.cells #[.int .i64 z, .slice (some ⟨g1, 0, none⟩) xs.length xs.length, .slice (some ⟨g2, 0, none⟩) ys.length ys.length] 70))
          exact ⟨Nat.zero_le _, Nat.zero_le _, h.2.2⟩
        have PX : Hid (C3 X w3.heap.size (.int .i64 z) (.slice (some ⟨g1, 0, none⟩) xs.length xs.length) (.slice (some ⟨g2, 0, none⟩) ys.length ys.length)) := by show C3 _ _ _ _ _; rw [hX]; exact C3.new _ _ _ _ _
        have HX : Hid (X = _) := hX
        clear hX own3 b3 q0 q1 q2 r0 r1 r2
        obtain ⟨_, ⟨r0, r1, r2⟩, SSX⟩ := AF.out X BX.out
        go_upto_region 10 with fail
        rw [← HX.out]
        go_wp2_with fail
        refine (toState z' b1 b2 d1 d2 zs us X SSX.out.2.2.1 SSX.out.2.2.2 l3 l4).mono ?_
        rintro e w4 ⟨g3, g4, rfl, own4, b4⟩
        obtain ⟨Y, hY⟩ : ∃ Y, Y = w4.alloc (.cells #[.int .i64 z', .slice (some ⟨g3, 0, none⟩) zs.length zs.length, .slice (some ⟨g4, 0, none⟩) us.length us.length] 70) := ⟨_, rfl⟩
        have bY : Below X.heap.size X Y := by rw [hY]; exact b4.alloc b4.size _
        have BY : Hid (Below W.heap.size W Y) := BX.out.trans (bY.mono BX.out.size)
        have RY : Hid (StOwn Y 0 g1 g2 xs ys) := RX.out.below bY
        have PY : Hid (C3 Y w3.heap.size (.int .i64 z) (.slice (some ⟨g1, 0, none⟩) xs.length xs.length) (.slice (some ⟨g2, 0, none⟩) ys.length ys.length)) := PX.out.below bY
        have SY : Hid (StOwn Y 0 g3 g4 zs us) := by
          show StOwn _ _ _ _ _ _
          rw [hY]
          have h := own4.below (below_new w4 (.cells #[.int .i64 z', .slice (some ⟨g3, 0, none⟩) zs.length zs.length, .slice (some ⟨g4, 0, none⟩) us.length us.length] 70))
          exact ⟨Nat.zero_le _, Nat.zero_le _, h.2.2⟩
        have QY : Hid (C3 Y w4.heap.size (.int .i64 z') (.slice (some ⟨g3, 0, none⟩) zs.length zs.length) (.slice (some ⟨g4, 0, none⟩) us.length us.length)) := by show C3 _ _ _ _ _; rw [hY]; exact C3.new _ _ _ _ _
        have HY : Hid (Y = _) := hY
        have GY : Hid (∀ w', Below Y.heap.size Y w' → (w'.cell? ⟨w3.heap.size, 0, none⟩ = some (.int .i64 z) ∧ w'.cell? ⟨w3.heap.size, 1, none⟩ = some (.slice (some ⟨g1, 0, none⟩) xs.length xs.length) ∧ w'.cell? ⟨w3.heap.size, 2, none⟩ = some (.slice (some ⟨g2, 0, none⟩) ys.length ys.length)) ∧ (w'.cell? ⟨w4.heap.size, 0, none⟩ = some (.int .i64 z') ∧ w'.cell? ⟨w4.heap.size, 1, none⟩ = some (.slice (some ⟨g3, 0, none⟩) zs.length zs.length) ∧ w'.cell? ⟨w4.heap.size, 2, none⟩ = some (.slice (some ⟨g4, 0, none⟩) us.length us.length)) ∧ Hid (StOwn w' 0 g1 g2 xs ys ∧ StOwn w' 0 g3 g4 zs us)) :=
          fun w' hb => ⟨(PY.out.below hb).2, (QY.out.below hb).2, RY.out.below hb, SY.out.below hb⟩
        clear hY own4 b4 r0 r1 r2 bY
        obtain ⟨⟨s0, s1, s2⟩, ⟨t0, t1, t2⟩, _⟩ := GY.out Y (Below.refl _ _)
        go_upto_region 11 with fail
        rw [← HY.out]
        go_wp2_with fail
        refine (implCertSame z z' _ _ _ _ xs.length ys.length zs.length us.length xs zs ys us Y (.inr ⟨_, _, rfl, RY.out.2.2.2.1⟩) (.inr ⟨_, _, rfl, RY.out.2.2.2.2.1⟩) (.inr ⟨_, _, rfl, SY.out.2.2.2.1⟩) (.inr ⟨_, _, rfl, SY.out.2.2.2.2.1⟩) l1 l2 l4 (Nat.le_refl _) (Nat.le_refl _) l3).mono ?_
        rintro e w5 ⟨rfl, b5⟩
        have Y5 : Hid (Below Y.heap.size Y w5) := b5
        have B5 : Hid (Below W.heap.size W w5) := BY.out.trans (b5.mono BY.out.size)
        clear b5 s0 s1 s2 t0 t1 t2
        generalize sameSt z z' xs zs ys us = ok
        have ho : (ok != ok) = false := by simp
        obtain ⟨⟨s0, s1, s2⟩, _, _⟩ := GY.out w5 Y5.out
        obtain ⟨⟨q0, q1, q2⟩, _, SS5⟩ := AF.out w5 B5.out
        go_upto_region 14 with fail
        go_cut [39] from 35 to 39 (fun c wx => c = .bool false ∧ Below w5.heap.size w5 wx)
        case first =>
          go_region_with (first | (go_at_call 51; refine (toState z a1 a2 c1 c2 xs ys _ ?_ ?_ l1 l2).mono ?_; exact SS5.out.1; exact SS5.out.2.1; rintro e w6 ⟨g5, g6, rfl, own6, b6⟩; have K6 : Hid (Below w5.heap.size w5 w6) := Below.trans ((Below.refl _ _).drew) b6; obtain ⟨⟨y0, y1, y2⟩, _, R7⟩ := GY.out w6 (Y5.out.trans (K6.out.mono Y5.out.size)); have S7 : Hid (StOwn w6 0 g5 g6 xs ys) := ⟨Nat.zero_le _, Nat.zero_le _, own6.2.2⟩; clear b6 own6) | (go_at_call 46; refine (eqState z _ _ _ _ xs.length ys.length xs.length ys.length xs ys _ ?_ ?_ ?_ ?_ l1 l2).mono ?_; exact .inr ⟨_, _, rfl, R7.out.1.2.2.2.1⟩; exact .inr ⟨_, _, rfl, R7.out.1.2.2.2.2.1⟩; exact .inr ⟨_, _, rfl, S7.out.2.2.2.1⟩; exact .inr ⟨_, _, rfl, S7.out.2.2.2.2.1⟩; rintro e w8 ⟨rfl, b8⟩; have K8 : Hid (Below w5.heap.size w5 w8) := K6.out.trans (b8.mono K6.out.size); clear b8))
          all_goals
            go_wp2_with fail
            go_meet
            exact ⟨rfl, K8.out⟩
        case rest =>
          obtain ⟨rfl, hB6⟩ := hcut
          have Y6 : Hid (Below Y.heap.size Y wc) := Y5.out.trans (hB6.mono Y5.out.size)
          have B6 : Hid (Below W.heap.size W wc) := B5.out.trans (hB6.mono B5.out.size)
          clear hB6 s0 s1 s2 q0 q1 q2
          obtain ⟨_, ⟨t0, t1, t2⟩, _⟩ := GY.out wc Y6.out
          obtain ⟨_, ⟨r0, r1, r2⟩, SS6⟩ := AF.out wc B6.out
          go_upto_region 16 with fail
          go_region_with (first | (go_at_call 51; refine (toState z' b1 b2 d1 d2 zs us _ ?_ ?_ l3 l4).mono ?_; exact SS6.out.2.2.1; exact SS6.out.2.2.2; rintro e w6 ⟨g5, g6, rfl, own6, b6⟩; have K6 : Hid (Below wc.heap.size wc w6) := Below.trans ((Below.refl _ _).drew) b6; obtain ⟨_, ⟨y0, y1, y2⟩, R7⟩ := GY.out w6 (Y6.out.trans (K6.out.mono Y6.out.size)); have S7 : Hid (StOwn w6 0 g5 g6 zs us) := ⟨Nat.zero_le _, Nat.zero_le _, own6.2.2⟩; clear b6 own6) | (go_at_call 46; refine (eqState z' _ _ _ _ zs.length us.length zs.length us.length zs us _ ?_ ?_ ?_ ?_ l3 l4).mono ?_; exact .inr ⟨_, _, rfl, R7.out.2.2.2.2.1⟩; exact .inr ⟨_, _, rfl, R7.out.2.2.2.2.2.1⟩; exact .inr ⟨_, _, rfl, S7.out.2.2.2.1⟩; exact .inr ⟨_, _, rfl, S7.out.2.2.2.2.1⟩; rintro e w8 ⟨rfl, b8⟩; have K8 : Hid (Below wc.heap.size wc w8) := K6.out.trans (b8.mono K6.out.size); clear b8))
          all_goals
            go_wp2_with fail
            go_ret
            exact ⟨rfl, BW.out.trans ((B6.out.trans (K8.out.mono B6.out.size)).mono BW.out.size)⟩
    · go_enter Try.func9, Try.ntmps9
      go_wp2_with fail
      rw [← HW.out]
      refine (szState z a1 a2 xs.length c1 ys.length c2 1048576 W m1 m2 (by decide) (by decide)).mono ?_
      rintro e w1 ⟨rfl, b1'⟩
      rw [if_neg (by omega)]
      have hpos : ¬ (1048576 : Int) - (xs.length : Int) - (ys.length : Int) < 0 := by omega
      have B1 : Hid (Below W.heap.size W w1) := b1'
      clear b1'
      obtain ⟨⟨q0, q1, q2⟩, ⟨r0, r1, r2⟩, _⟩ := AF.out w1 B1.out
      go_wp2_with fail
      refine (szState z' b1 b2 zs.length d1 us.length d2 (1048576 - xs.length - ys.length) w1 m3 m4 (by omega) (by omega)).mono ?_
      rintro e w2 ⟨rfl, b2'⟩
      rw [if_pos (by omega)]
      have B2 : Hid (Below w.heap.size w w2) := BW.out.trans ((B1.out.trans (b2'.mono B1.out.size)).mono BW.out.size)
      clear b2'
      go_wp2_with fail
      go_ret
      exact ⟨rfl, B2.out⟩
  · go_enter Try.func9, Try.ntmps9
    go_wp2_with fail
    rw [← HW.out]
    refine (szState z a1 a2 xs.length c1 ys.length c2 1048576 W m1 m2 (by decide) (by decide)).mono ?_
    rintro e w1 ⟨rfl, b1'⟩
    rw [if_pos (by omega)]
    have B1 : Hid (Below w.heap.size w w1) := BW.out.trans (b1'.mono BW.out.size)
    clear b1'
    go_wp2_with fail
    go_ret
    exact ⟨rfl, B1.out⟩
end Go.Proofs.Ytgcencilgpilaaa.Own

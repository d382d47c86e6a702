/-
  Own text, by program (gen_fnaccnext.py): laws.FnAccNext.
-/
import Derived.Test.YtfifiobcmdmefaaQLawAccMerge
import Derived.Test.YtfifiobcmdmefaaPk12
namespace Go.Proofs.Ytfifiobcmdmefaa.Own
open Go.RowKit Go.Sort
set_option linter.unusedVariables false
set_option linter.unusedSimpArgs false

set_option maxRecDepth 100000 in
set_option maxHeartbeats 4000000 in
theorem lawFnAccNext (a : Option Addr) (n c : Nat) (w : World) (h : Bytes w w.heap.size a n) (hc : n ≤ c) (hm : c ≤ maxLen) :
    Calls Try.prog 4 #[.slice a n c] w fun e w' => e = .returned (.bool true) ∧ Below w.heap.size w w' := by
  have HB : Hid (Bytes w w.heap.size a n) := h
  have HM : Hid (c ≤ maxLen) := hm
  have SO : Hid (∀ n V, Calls Try.prog 27 #[.int .i64 n] V fun e w' => e = .returned (.int .i64 (ownerOf n)) ∧ w' = V) := specOwner
  have IO : Hid (∀ n V, Calls Try.prog 22 #[.int .i64 n] V fun e w' => e = .returned (.int .i64 (ownerOf n)) ∧ w' = V) := implOwner
  have IN : Hid (∀ n p V, Calls Try.prog 20 #[.int .i64 n, .int .i64 p] V fun e w' => e = .returned (.int .i64 (nextOf n p)) ∧ w' = V) := implNext
  have SN : Hid (∀ n p V, Calls Try.prog 21 #[.int .i64 n, .int .i64 p] V fun e w' => e = .returned (.int .i64 (nextOf n p)) ∧ w' = V) := specNext
  clear h
  unfold maxLen at hm
  by_cases hn : n ≤ 1048576
  · have hd : decide ((1048576 : Int) < (n : Int)) = false := by simp; omega
    go_enter Try.func4, Try.ntmps4
    go_wp2_with fail
    refine (drawAccNext a n c w HB.out hc HM.out).mono ?_
    rintro e w1 ⟨⟨b, p, rfl, hb1, hb2, hp1, hp2⟩, b1⟩
    have B1 : Hid (Below w.heap.size w w1) := b1
    clear b1 hd
    have NF : Hid _ := next_facts b p hb1 hb2
    go_wp2_with fail
    refine Calls.mono (IN.out b p w1) ?_
    rintro e w2 ⟨rfl, rfl⟩
    obtain ⟨m, hm1⟩ : ∃ m, m = nextOf b p := ⟨_, rfl⟩
    have EN : Hid (nextOf b p = m) := hm1.symm
    rw [← hm1] at NF ⊢
    clear hm1
    rename World => V
    have TAIL : Hid True := trivial
    rcases NF.out with rfl | ⟨q0, q1, q2, q3, q4⟩
    · clear NF
      go_wp2_with fail
      refine Calls.mono (SN.out b p V) ?_
      rintro e w2 ⟨rfl, rfl⟩
      rw [EN.out]
      clear EN
      go_wp2_with fail
      rename World => V
      have hex : ¬ b + 1 < -1 := by omega
      go_loopw [6] (fun i wr => i = .int .i64 (b + 1) ∧ V = wr) (fun _ _ => 0)
      case atStart => exact ⟨rfl, rfl⟩
      case round =>
        obtain ⟨rfl, rfl⟩ := hrel
        go_wp2_with fail
        refine (drawAccBest a n c V (HB.out.belowA B1.out) hc HM.out).mono ?_
        rintro e v2 ⟨la, lc, us, lb, ld, vs, rfl, o1, p1, b1⟩
        have U : Hid (LV v2 V.heap.size v2.heap.size (.slice la us.length lc) us) := o1
        have VV : Hid (LV v2 V.heap.size v2.heap.size (.slice lb vs.length ld) vs) := p1
        have B2 : Hid (Below w.heap.size w v2) := B1.out.trans (b1.mono B1.out.size)
        have LU : us.length ≤ 40 := o1.len
        have LVs : vs.length ≤ 40 := p1.len
        have FIN : Hid (∀ W, Below v2.heap.size v2 W → Below w.heap.size w W) := fun W hb => B2.out.trans (hb.mono B2.out.size)
        clear o1 p1 b1 B1
        obtain ⟨K, hK⟩ : ∃ K, (bestOf (bodies us) (bodies vs)).length = K := ⟨_, rfl⟩
        have HK : Hid ((bestOf (bodies us) (bodies vs)).length = K) := hK
        have LK : K ≤ 40 := by rw [← hK]; exact bestOf_len _ _
        have GE : Hid (0 < K → ∀ i, ((bodies us).getD i (0, e0)).1 ≤ ((bestOf (bodies us) (bodies vs)).getD i (0, e0)).1 ∧ ((bodies vs).getD i (0, e0)).1 ≤ ((bestOf (bodies us) (bodies vs)).getD i (0, e0)).1) := fun h i => by
          obtain ⟨oA, oB⟩ := bestOf_ok (A := bodies us) (B := bodies vs) (by omega)
          exact best_ge oA oB i
        clear hK
        go_wp2_with fail
        refine Calls.mono (bestV U.out VV.out K HK.out) ?_
        rintro e w3 ⟨a3, c3, N, rfl, hN, bN, oN, b3⟩
        have H3 : Hid (Below v2.heap.size v2 w3) := b3
        have X3 : Hid (LV w3 v2.heap.size w3.heap.size (.slice a3 K c3) N) := oN
        have HN : Hid (N.length = K) := hN
        have BN : Hid (bodies N = bestOf (bodies us) (bodies vs)) := bN
        clear hN bN oN b3
        go_wp2_with fail
        refine Calls.mono (bestVS (U.out.keep H3.out) (VV.out.keep H3.out) K HK.out) ?_
        rintro e X ⟨a4, c4, M, rfl, hM, bM, oM, b4⟩
        have H4 : Hid (Below v2.heap.size v2 X) := H3.out.trans (b4.mono H3.out.size)
        have N4 : Hid (LV X v2.heap.size w3.heap.size (.slice a3 K c3) N) := X3.out.keep b4
        have M4 : Hid (LV X w3.heap.size X.heap.size (.slice a4 K c4) M) := oM
        have HM4 : Hid (M.length = K) := hM
        have U4 : Hid (LV X V.heap.size v2.heap.size (.slice la us.length lc) us) := U.out.keep H4.out
        have V4 : Hid (LV X V.heap.size v2.heap.size (.slice lb vs.length ld) vs) := VV.out.keep H4.out
        have MS : Hid (∀ i, (N.getD i v0).bal = (M.getD i v0).bal ∧ (N.getD i v0).b = (M.getD i v0).b) := fun i => by
          have a := bal_at BN.out i
          have b := bal_at bM i
          exact ⟨a.1.trans b.1.symm, a.2.trans b.2.symm⟩
        have GB : Hid (0 < K → ∀ i, (us.getD i v0).bal ≤ (N.getD i v0).bal ∧ (vs.getD i v0).bal ≤ (N.getD i v0).bal) := fun h i => by
          have a := bal_at BN.out i
          have b := bal_at (rfl : bodies us = bodies us) i
          have c := bal_at (rfl : bodies vs = bodies vs) i
          have g := GE.out h i
          rw [a.1, b.1, c.1]
          exact g
        clear hM bM oM b4 X3 H3 GE HK BN U VV
        have k22 : ((K : Int) != (K : Int)) = false := by simp
        go_wp2_with fail
        clear k22
        go_loopw [11] (fun i wr => ∃ k : Nat, k ≤ K ∧ i = .int .i64 k ∧ Hid (Below X.heap.size X wr)) (fun i _ => K - (intOf i).toNat)
        case atStart => exact ⟨0, Nat.zero_le _, rfl, Below.refl _ _⟩
        case round =>
          rename World => wq
          obtain ⟨j, hj, rfl, KQ⟩ := hrel
          by_cases hlt : j < K
          · have hki : (j : Int) < (K : Int) := by omega
            obtain ⟨gs, rfl, ⟨c0, c1, c2, c3', c4', c5, c6, c7⟩, _⟩ := (N4.out.keep KQ.out).vc HN.out hlt
            obtain ⟨gu, rfl, ⟨f0, f1, f2, f3, f4, f5, f6, f7⟩, _⟩ := (M4.out.keep KQ.out).vc HM4.out hlt
            obtain ⟨⟨s1, s2⟩, l1, l2⟩ := (N4.out.keep KQ.out).sl HN.out hlt
            obtain ⟨⟨t1, t2⟩, _, _⟩ := (M4.out.keep KQ.out).sl HM4.out hlt
            obtain ⟨mb, me⟩ := MS.out j
            obtain ⟨gu1, gv1⟩ := GB.out (by omega) j
            obtain ⟨x, hx⟩ : ∃ x, x = N.getD j v0 := ⟨_, rfl⟩
            obtain ⟨y, hy⟩ : ∃ y, y = M.getD j v0 := ⟨_, rfl⟩
            rw [← hx] at c0 c1 c2 c3' c4' c5 c6 c7 s1 s2 l1 l2 mb me gu1 gv1
            rw [← hy] at f0 f1 f2 f3 f4 f5 f6 f7 t1 t2 mb me
            clear hx hy
            obtain ⟨xbal, xb, xa1, xc1, xa2, xc2⟩ := x
            obtain ⟨ybal, yb, ya1, yc1, ya2, yc2⟩ := y
            simp only at c0 c1 c2 c3' c4' c5 c6 c7 s1 s2 l1 l2 f0 f1 f2 f3 f4 f5 f6 f7 t1 t2 mb me gu1 gv1
            subst mb
            subst me
            have LL := likeE_self xb
            obtain ⟨xn, xp, xq, xxs, xys, xv, xk⟩ := xb
            simp only at c1 c2 c3' c4' c5 c6 c7 s1 s2 l1 l2 f1 f2 f3 f4 f5 f6 f7 t1 t2 LL
            have SX : Hid (Sl wq xa1 xxs ∧ Sl wq xa2 xys ∧ Sl wq ya1 xxs ∧ Sl wq ya2 xys) := ⟨s1, s2, t1, t2⟩
            have EQ : Hid (∀ d os, Calls Try.prog 18 #[.agg #[.bool xn, .int .i64 xp, .int .i64 xq, .slice xa1 xxs.length xc1, .slice xa2 xys.length xc2, .int .i64 xv, .int .i64 xk], .agg #[.bool xn, .int .i64 xp, .int .i64 xq, .slice ya1 xxs.length yc1, .slice ya2 xys.length yc2, .int .i64 xv, .int .i64 xk]] (grow (redrawn wq d) os) fun e w'' => e = .returned (.bool true) ∧ ∃ p : Regrown, w'' = grow (redrawn wq p.d) p.os) := fun d os => by
              have hb := below_regrown wq d os
              have h := implCertLike xn xn xp xq xp xq xa1 xa2 ya1 ya2 xc1 xc2 yc1 yc2 xxs xys xxs xys xv xk xv xk _ (SX.out.1.below hb) (SX.out.2.1.below hb) (SX.out.2.2.1.below hb) (SX.out.2.2.2.below hb) (by omega) (by omega) (by omega) (by omega)
              rw [LL] at h
              exact Calls.regrown_of h
            have m0 := cell_regrown c0
            have m1 := cell_regrown c1
            have m2 := cell_regrown c2
            have m3 := cell_regrown c3'
            have m4 := cell_regrown c4'
            have m5 := cell_regrown c5
            have m6 := cell_regrown c6
            have m7 := cell_regrown c7
            have r0 := cell_regrown f0
            have r1 := cell_regrown f1
            have r2 := cell_regrown f2
            have r3 := cell_regrown f3
            have r4 := cell_regrown f4
            have r5 := cell_regrown f5
            have r6 := cell_regrown f6
            have r7 := cell_regrown f7
            have hb2 : (xbal != xbal) = false := by simp
            clear c0 c1 c2 c3' c4' c5 c6 c7 f0 f1 f2 f3 f4 f5 f6 f7 s1 s2 t1 t2 LL l1 l2
            go_upto_region 20 with fail
            by_cases hu : j < us.length
            · by_cases hv : j < vs.length
              · have hu1 : decide ((j : Int) < (us.length : Int)) = true := by simp; omega
                have hv1 : decide ((j : Int) < (vs.length : Int)) = true := by simp; omega
                obtain ⟨ga, rfl, ⟨h0, _⟩, _⟩ := (U4.out.keep KQ.out).vc rfl hu
                obtain ⟨ub, hub⟩ : ∃ x, x = (us.getD j v0).bal := ⟨_, rfl⟩
                rw [← hub] at h0 gu1
                clear hub
                have n0 := cell_regrown h0
                have gl : decide (xbal < ub) = false := decide_eq_false (by omega)
                clear h0
                obtain ⟨gb, rfl, ⟨h1, _⟩, _⟩ := (V4.out.keep KQ.out).vc rfl hv
                obtain ⟨vb, hvb⟩ : ∃ x, x = (vs.getD j v0).bal := ⟨_, rfl⟩
                rw [← hvb] at h1 gv1
                clear hvb
                have n1 := cell_regrown h1
                have gl2 : decide (xbal < vb) = false := decide_eq_false (by omega)
                clear h1
                clear gu1 gv1
                refine wp_region_quiet_below (by kernel_rfl) (by kernel_rfl) ?_
                repeat (go_big_quiet_step (first | (go_at_call 18; exact EQ.out _ _)))
                refine wpQuiet_nil ?_
                intro Y hw'
                obtain ⟨⟨dq, osq⟩, hw''⟩ := hw'
                have hx : Below wq.heap.size wq Y := by rw [hw'']; exact below_regrown wq dq osq
                have KY : Hid (Below X.heap.size X Y) := KQ.out.trans (hx.mono KQ.out.size)
                clear hx hw'' m0 m1 m2 m3 m4 m5 m6 m7 r0 r1 r2 r3 r4 r5 r6 r7
                go_wp2_with fail
                go_roundw
                case rel => exact ⟨j + 1, by omega, by go_num, KY.out⟩
                case measure => simp [intOf]; omega
              · have hu1 : decide ((j : Int) < (us.length : Int)) = true := by simp; omega
                have hv1 : decide ((j : Int) < (vs.length : Int)) = false := by simp; omega
                obtain ⟨ga, rfl, ⟨h0, _⟩, _⟩ := (U4.out.keep KQ.out).vc rfl hu
                obtain ⟨ub, hub⟩ : ∃ x, x = (us.getD j v0).bal := ⟨_, rfl⟩
                rw [← hub] at h0 gu1
                clear hub
                have n0 := cell_regrown h0
                have gl : decide (xbal < ub) = false := decide_eq_false (by omega)
                clear h0
                clear gu1 gv1
                refine wp_region_quiet_below (by kernel_rfl) (by kernel_rfl) ?_
                repeat (go_big_quiet_step (first | (go_at_call 18; exact EQ.out _ _)))
                refine wpQuiet_nil ?_
                intro Y hw'
                obtain ⟨⟨dq, osq⟩, hw''⟩ := hw'
                have hx : Below wq.heap.size wq Y := by rw [hw'']; exact below_regrown wq dq osq
                have KY : Hid (Below X.heap.size X Y) := KQ.out.trans (hx.mono KQ.out.size)
                clear hx hw'' m0 m1 m2 m3 m4 m5 m6 m7 r0 r1 r2 r3 r4 r5 r6 r7
                go_wp2_with fail
                go_roundw
                case rel => exact ⟨j + 1, by omega, by go_num, KY.out⟩
                case measure => simp [intOf]; omega
            · by_cases hv : j < vs.length
              · have hu1 : decide ((j : Int) < (us.length : Int)) = false := by simp; omega
                have hv1 : decide ((j : Int) < (vs.length : Int)) = true := by simp; omega
                obtain ⟨gb, rfl, ⟨h1, _⟩, _⟩ := (V4.out.keep KQ.out).vc rfl hv
                obtain ⟨vb, hvb⟩ : ∃ x, x = (vs.getD j v0).bal := ⟨_, rfl⟩
                rw [← hvb] at h1 gv1
                clear hvb
                have n1 := cell_regrown h1
                have gl2 : decide (xbal < vb) = false := decide_eq_false (by omega)
                clear h1
                clear gu1 gv1
                refine wp_region_quiet_below (by kernel_rfl) (by kernel_rfl) ?_
                repeat (go_big_quiet_step (first | (go_at_call 18; exact EQ.out _ _)))
                refine wpQuiet_nil ?_
                intro Y hw'
                obtain ⟨⟨dq, osq⟩, hw''⟩ := hw'
                have hx : Below wq.heap.size wq Y := by rw [hw'']; exact below_regrown wq dq osq
                have KY : Hid (Below X.heap.size X Y) := KQ.out.trans (hx.mono KQ.out.size)
                clear hx hw'' m0 m1 m2 m3 m4 m5 m6 m7 r0 r1 r2 r3 r4 r5 r6 r7
                go_wp2_with fail
                go_roundw
                case rel => exact ⟨j + 1, by omega, by go_num, KY.out⟩
                case measure => simp [intOf]; omega
              · have hu1 : decide ((j : Int) < (us.length : Int)) = false := by simp; omega
                have hv1 : decide ((j : Int) < (vs.length : Int)) = false := by simp; omega
                clear gu1 gv1
                refine wp_region_quiet_below (by kernel_rfl) (by kernel_rfl) ?_
                repeat (go_big_quiet_step (first | (go_at_call 18; exact EQ.out _ _)))
                refine wpQuiet_nil ?_
                intro Y hw'
                obtain ⟨⟨dq, osq⟩, hw''⟩ := hw'
                have hx : Below wq.heap.size wq Y := by rw [hw'']; exact below_regrown wq dq osq
                have KY : Hid (Below X.heap.size X Y) := KQ.out.trans (hx.mono KQ.out.size)
                clear hx hw'' m0 m1 m2 m3 m4 m5 m6 m7 r0 r1 r2 r3 r4 r5 r6 r7
                go_wp2_with fail
                go_roundw
                case rel => exact ⟨j + 1, by omega, by go_num, KY.out⟩
                case measure => simp [intOf]; omega
          · have hki : ¬ (j : Int) < (K : Int) := by omega
            have B9 : Hid (Below w.heap.size w wq) := FIN.out _ (H4.out.trans (KQ.out.mono H4.out.size))
            go_wp2_with fail
            refine (drawAccOwner a n c wq (HB.out.belowA B9.out) hc HM.out).mono ?_
            rintro e x2 ⟨⟨o, rfl, _, _⟩, bo⟩
            have B10 : Hid (Below w.heap.size w x2) := B9.out.trans (bo.mono B9.out.size)
            clear bo
            go_wp2_with fail
            refine Calls.mono (IO.out o x2) ?_
            rintro e x3 ⟨rfl, rfl⟩
            go_wp2_with fail
            refine Calls.mono (SO.out o _) ?_
            rintro e x4 ⟨rfl, rfl⟩
            go_wp2_with fail
            go_ret
            exact ⟨ret_bool (by simp), B10.out⟩
    · clear NF
      have OM : Hid (ownerOf m = p) := q3
      have ON : Hid (∀ x, b < x → x < m → ownerOf x ≠ p) := q4
      have c1 : ¬ m < 0 := by omega
      have c2 : ¬ m ≤ b := by omega
      clear q3 q4
      go_wp2_with fail
      refine Calls.mono (SN.out b p V) ?_
      rintro e w2 ⟨rfl, rfl⟩
      rw [EN.out]
      clear EN
      go_wp2_with fail
      refine Calls.mono (IO.out m _) ?_
      rintro e w2 ⟨rfl, rfl⟩
      rw [OM.out]
      rename World => V
      go_wp2_with fail
      go_loopw [6] (fun i wr => ∃ x : Int, b < x ∧ x ≤ m ∧ i = .int .i64 x ∧ V = wr) (fun i _ => (m - intOf i).toNat)
      case atStart => exact ⟨b + 1, by omega, by omega, rfl, rfl⟩
      case round =>
        obtain ⟨x, hx1, hx2, rfl, rfl⟩ := hrel
        by_cases hlt : x < m
        · have hne : (ownerOf x == p) = false := by simpa using ON.out x hx1 hlt
          go_wp2_with fail
          refine Calls.mono (IO.out x _) ?_
          rintro e w2 ⟨rfl, rfl⟩
          go_wp2_with fail
          go_roundw
          case rel => exact ⟨x + 1, by omega, by omega, by go_num, trivial⟩
          case measure => simp [intOf]; omega
        · go_wp2_with fail
          refine (drawAccBest a n c V (HB.out.belowA B1.out) hc HM.out).mono ?_
          rintro e v2 ⟨la, lc, us, lb, ld, vs, rfl, o1, p1, b1⟩
          have U : Hid (LV v2 V.heap.size v2.heap.size (.slice la us.length lc) us) := o1
          have VV : Hid (LV v2 V.heap.size v2.heap.size (.slice lb vs.length ld) vs) := p1
          have B2 : Hid (Below w.heap.size w v2) := B1.out.trans (b1.mono B1.out.size)
          have LU : us.length ≤ 40 := o1.len
          have LVs : vs.length ≤ 40 := p1.len
          have FIN : Hid (∀ W, Below v2.heap.size v2 W → Below w.heap.size w W) := fun W hb => B2.out.trans (hb.mono B2.out.size)
          clear o1 p1 b1 B1
          obtain ⟨K, hK⟩ : ∃ K, (bestOf (bodies us) (bodies vs)).length = K := ⟨_, rfl⟩
          have HK : Hid ((bestOf (bodies us) (bodies vs)).length = K) := hK
          have LK : K ≤ 40 := by rw [← hK]; exact bestOf_len _ _
          have GE : Hid (0 < K → ∀ i, ((bodies us).getD i (0, e0)).1 ≤ ((bestOf (bodies us) (bodies vs)).getD i (0, e0)).1 ∧ ((bodies vs).getD i (0, e0)).1 ≤ ((bestOf (bodies us) (bodies vs)).getD i (0, e0)).1) := fun h i => by
            obtain ⟨oA, oB⟩ := bestOf_ok (A := bodies us) (B := bodies vs) (by omega)
            exact best_ge oA oB i
          clear hK
          go_wp2_with fail
          refine Calls.mono (bestV U.out VV.out K HK.out) ?_
          rintro e w3 ⟨a3, c3, N, rfl, hN, bN, oN, b3⟩
          have H3 : Hid (Below v2.heap.size v2 w3) := b3
          have X3 : Hid (LV w3 v2.heap.size w3.heap.size (.slice a3 K c3) N) := oN
          have HN : Hid (N.length = K) := hN
          have BN : Hid (bodies N = bestOf (bodies us) (bodies vs)) := bN
          clear hN bN oN b3
          go_wp2_with fail
          refine Calls.mono (bestVS (U.out.keep H3.out) (VV.out.keep H3.out) K HK.out) ?_
          rintro e X ⟨a4, c4, M, rfl, hM, bM, oM, b4⟩
          have H4 : Hid (Below v2.heap.size v2 X) := H3.out.trans (b4.mono H3.out.size)
          have N4 : Hid (LV X v2.heap.size w3.heap.size (.slice a3 K c3) N) := X3.out.keep b4
          have M4 : Hid (LV X w3.heap.size X.heap.size (.slice a4 K c4) M) := oM
          have HM4 : Hid (M.length = K) := hM
          have U4 : Hid (LV X V.heap.size v2.heap.size (.slice la us.length lc) us) := U.out.keep H4.out
          have V4 : Hid (LV X V.heap.size v2.heap.size (.slice lb vs.length ld) vs) := VV.out.keep H4.out
          have MS : Hid (∀ i, (N.getD i v0).bal = (M.getD i v0).bal ∧ (N.getD i v0).b = (M.getD i v0).b) := fun i => by
            have a := bal_at BN.out i
            have b := bal_at bM i
            exact ⟨a.1.trans b.1.symm, a.2.trans b.2.symm⟩
          have GB : Hid (0 < K → ∀ i, (us.getD i v0).bal ≤ (N.getD i v0).bal ∧ (vs.getD i v0).bal ≤ (N.getD i v0).bal) := fun h i => by
            have a := bal_at BN.out i
            have b := bal_at (rfl : bodies us = bodies us) i
            have c := bal_at (rfl : bodies vs = bodies vs) i
            have g := GE.out h i
            rw [a.1, b.1, c.1]
            exact g
          clear hM bM oM b4 X3 H3 GE HK BN U VV
          have k22 : ((K : Int) != (K : Int)) = false := by simp
          go_wp2_with fail
          clear k22
          go_loopw [11] (fun i wr => ∃ k : Nat, k ≤ K ∧ i = .int .i64 k ∧ Hid (Below X.heap.size X wr)) (fun i _ => K - (intOf i).toNat)
          case atStart => exact ⟨0, Nat.zero_le _, rfl, Below.refl _ _⟩
          case round =>
            rename World => wq
            obtain ⟨j, hj, rfl, KQ⟩ := hrel
            by_cases hlt : j < K
            · have hki : (j : Int) < (K : Int) := by omega
              obtain ⟨gs, rfl, ⟨c0, c1, c2, c3', c4', c5, c6, c7⟩, _⟩ := (N4.out.keep KQ.out).vc HN.out hlt
              obtain ⟨gu, rfl, ⟨f0, f1, f2, f3, f4, f5, f6, f7⟩, _⟩ := (M4.out.keep KQ.out).vc HM4.out hlt
              obtain ⟨⟨s1, s2⟩, l1, l2⟩ := (N4.out.keep KQ.out).sl HN.out hlt
              obtain ⟨⟨t1, t2⟩, _, _⟩ := (M4.out.keep KQ.out).sl HM4.out hlt
              obtain ⟨mb, me⟩ := MS.out j
              obtain ⟨gu1, gv1⟩ := GB.out (by omega) j
              obtain ⟨x, hx⟩ : ∃ x, x = N.getD j v0 := ⟨_, rfl⟩
              obtain ⟨y, hy⟩ : ∃ y, y = M.getD j v0 := ⟨_, rfl⟩
              rw [← hx] at c0 c1 c2 c3' c4' c5 c6 c7 s1 s2 l1 l2 mb me gu1 gv1
              rw [← hy] at f0 f1 f2 f3 f4 f5 f6 f7 t1 t2 mb me
              clear hx hy
              obtain ⟨xbal, xb, xa1, xc1, xa2, xc2⟩ := x
              obtain ⟨ybal, yb, ya1, yc1, ya2, yc2⟩ := y
              simp only at c0 c1 c2 c3' c4' c5 c6 c7 s1 s2 l1 l2 f0 f1 f2 f3 f4 f5 f6 f7 t1 t2 mb me gu1 gv1
              subst mb
              subst me
              have LL := likeE_self xb
              obtain ⟨xn, xp, xq, xxs, xys, xv, xk⟩ := xb
              simp only at c1 c2 c3' c4' c5 c6 c7 s1 s2 l1 l2 f1 f2 f3 f4 f5 f6 f7 t1 t2 LL
              have SX : Hid (Sl wq xa1 xxs ∧ Sl wq xa2 xys ∧ Sl wq ya1 xxs ∧ Sl wq ya2 xys) := ⟨s1, s2, t1, t2⟩
              have EQ : Hid (∀ d os, Calls Try.prog 18 #[.agg #[.bool xn, .int .i64 xp, .int .i64 xq, .slice xa1 xxs.length xc1, .slice xa2 xys.length xc2, .int .i64 xv, .int .i64 xk], .agg #[.bool xn, .int .i64 xp, .int .i64 xq, .slice ya1 xxs.length yc1, .slice ya2 xys.length yc2, .int .i64 xv, .int .i64 xk]] (grow (redrawn wq d) os) fun e w'' => e = .returned (.bool true) ∧ ∃ p : Regrown, w'' = grow (redrawn wq p.d) p.os) := fun d os => by
                have hb := below_regrown wq d os
                have h := implCertLike xn xn xp xq xp xq xa1 xa2 ya1 ya2 xc1 xc2 yc1 yc2 xxs xys xxs xys xv xk xv xk _ (SX.out.1.below hb) (SX.out.2.1.below hb) (SX.out.2.2.1.below hb) (SX.out.2.2.2.below hb) (by omega) (by omega) (by omega) (by omega)
                rw [LL] at h
                exact Calls.regrown_of h
              have m0 := cell_regrown c0
              have m1 := cell_regrown c1
              have m2 := cell_regrown c2
              have m3 := cell_regrown c3'
              have m4 := cell_regrown c4'
              have m5 := cell_regrown c5
              have m6 := cell_regrown c6
              have m7 := cell_regrown c7
              have r0 := cell_regrown f0
              have r1 := cell_regrown f1
              have r2 := cell_regrown f2
              have r3 := cell_regrown f3
              have r4 := cell_regrown f4
              have r5 := cell_regrown f5
              have r6 := cell_regrown f6
              have r7 := cell_regrown f7
              have hb2 : (xbal != xbal) = false := by simp
              clear c0 c1 c2 c3' c4' c5 c6 c7 f0 f1 f2 f3 f4 f5 f6 f7 s1 s2 t1 t2 LL l1 l2
              go_upto_region 20 with fail
              by_cases hu : j < us.length
              · by_cases hv : j < vs.length
                · have hu1 : decide ((j : Int) < (us.length : Int)) = true := by simp; omega
                  have hv1 : decide ((j : Int) < (vs.length : Int)) = true := by simp; omega
                  obtain ⟨ga, rfl, ⟨h0, _⟩, _⟩ := (U4.out.keep KQ.out).vc rfl hu
                  obtain ⟨ub, hub⟩ : ∃ x, x = (us.getD j v0).bal := ⟨_, rfl⟩
                  rw [← hub] at h0 gu1
                  clear hub
                  have n0 := cell_regrown h0
                  have gl : decide (xbal < ub) = false := decide_eq_false (by omega)
                  clear h0
                  obtain ⟨gb, rfl, ⟨h1, _⟩, _⟩ := (V4.out.keep KQ.out).vc rfl hv
                  obtain ⟨vb, hvb⟩ : ∃ x, x = (vs.getD j v0).bal := ⟨_, rfl⟩
                  rw [← hvb] at h1 gv1
                  clear hvb
                  have n1 := cell_regrown h1
                  have gl2 : decide (xbal < vb) = false := decide_eq_false (by omega)
                  clear h1
                  clear gu1 gv1
                  refine wp_region_quiet_below (by kernel_rfl) (by kernel_rfl) ?_
                  repeat (go_big_quiet_step (first | (go_at_call 18; exact EQ.out _ _)))
                  refine wpQuiet_nil ?_
                  intro Y hw'
                  obtain ⟨⟨dq, osq⟩, hw''⟩ := hw'
                  have hx : Below wq.heap.size wq Y := by rw [hw'']; exact below_regrown wq dq osq
                  have KY : Hid (Below X.heap.size X Y) := KQ.out.trans (hx.mono KQ.out.size)
                  clear hx hw'' m0 m1 m2 m3 m4 m5 m6 m7 r0 r1 r2 r3 r4 r5 r6 r7
                  go_wp2_with fail
                  go_roundw
                  case rel => exact ⟨j + 1, by omega, by go_num, KY.out⟩
                  case measure => simp [intOf]; omega
                · have hu1 : decide ((j : Int) < (us.length : Int)) = true := by simp; omega
                  have hv1 : decide ((j : Int) < (vs.length : Int)) = false := by simp; omega
                  obtain ⟨ga, rfl, ⟨h0, _⟩, _⟩ := (U4.out.keep KQ.out).vc rfl hu
                  obtain ⟨ub, hub⟩ : ∃ x, x = (us.getD j v0).bal := ⟨_, rfl⟩
                  rw [← hub] at h0 gu1
                  clear hub
                  have n0 := cell_regrown h0
                  have gl : decide (xbal < ub) = false := decide_eq_false (by omega)
                  clear h0
                  clear gu1 gv1
                  refine wp_region_quiet_below (by kernel_rfl) (by kernel_rfl) ?_
                  repeat (go_big_quiet_step (first | (go_at_call 18; exact EQ.out _ _)))
                  refine wpQuiet_nil ?_
                  intro Y hw'
                  obtain ⟨⟨dq, osq⟩, hw''⟩ := hw'
                  have hx : Below wq.heap.size wq Y := by rw [hw'']; exact below_regrown wq dq osq
                  have KY : Hid (Below X.heap.size X Y) := KQ.out.trans (hx.mono KQ.out.size)
                  clear hx hw'' m0 m1 m2 m3 m4 m5 m6 m7 r0 r1 r2 r3 r4 r5 r6 r7
                  go_wp2_with fail
                  go_roundw
                  case rel => exact ⟨j + 1, by omega, by go_num, KY.out⟩
                  case measure => simp [intOf]; omega
              · by_cases hv : j < vs.length
                · have hu1 : decide ((j : Int) < (us.length : Int)) = false := by simp; omega
                  have hv1 : decide ((j : Int) < (vs.length : Int)) = true := by simp; omega
                  obtain ⟨gb, rfl, ⟨h1, _⟩, _⟩ := (V4.out.keep KQ.out).vc rfl hv
                  obtain ⟨vb, hvb⟩ : ∃ x, x = (vs.getD j v0).bal := ⟨_, rfl⟩
                  rw [← hvb] at h1 gv1
                  clear hvb
                  have n1 := cell_regrown h1
                  have gl2 : decide (xbal < vb) = false := decide_eq_false (by omega)
                  clear h1
                  clear gu1 gv1
                  refine wp_region_quiet_below (by kernel_rfl) (by kernel_rfl) ?_
                  repeat (go_big_quiet_step (first | (go_at_call 18; exact EQ.out _ _)))
                  refine wpQuiet_nil ?_
                  intro Y hw'
                  obtain ⟨⟨dq, osq⟩, hw''⟩ := hw'
                  have hx : Below wq.heap.size wq Y := by rw [hw'']; exact below_regrown wq dq osq
                  have KY : Hid (Below X.heap.size X Y) := KQ.out.trans (hx.mono KQ.out.size)
                  clear hx hw'' m0 m1 m2 m3 m4 m5 m6 m7 r0 r1 r2 r3 r4 r5 r6 r7
                  go_wp2_with fail
                  go_roundw
                  case rel => exact ⟨j + 1, by omega, by go_num, KY.out⟩
                  case measure => simp [intOf]; omega
                · have hu1 : decide ((j : Int) < (us.length : Int)) = false := by simp; omega
                  have hv1 : decide ((j : Int) < (vs.length : Int)) = false := by simp; omega
                  clear gu1 gv1
                  refine wp_region_quiet_below (by kernel_rfl) (by kernel_rfl) ?_
                  repeat (go_big_quiet_step (first | (go_at_call 18; exact EQ.out _ _)))
                  refine wpQuiet_nil ?_
                  intro Y hw'
                  obtain ⟨⟨dq, osq⟩, hw''⟩ := hw'
                  have hx : Below wq.heap.size wq Y := by rw [hw'']; exact below_regrown wq dq osq
                  have KY : Hid (Below X.heap.size X Y) := KQ.out.trans (hx.mono KQ.out.size)
                  clear hx hw'' m0 m1 m2 m3 m4 m5 m6 m7 r0 r1 r2 r3 r4 r5 r6 r7
                  go_wp2_with fail
                  go_roundw
                  case rel => exact ⟨j + 1, by omega, by go_num, KY.out⟩
                  case measure => simp [intOf]; omega
            · have hki : ¬ (j : Int) < (K : Int) := by omega
              have B9 : Hid (Below w.heap.size w wq) := FIN.out _ (H4.out.trans (KQ.out.mono H4.out.size))
              go_wp2_with fail
              refine (drawAccOwner a n c wq (HB.out.belowA B9.out) hc HM.out).mono ?_
              rintro e x2 ⟨⟨o, rfl, _, _⟩, bo⟩
              have B10 : Hid (Below w.heap.size w x2) := B9.out.trans (bo.mono B9.out.size)
              clear bo
              go_wp2_with fail
              refine Calls.mono (IO.out o x2) ?_
              rintro e x3 ⟨rfl, rfl⟩
              go_wp2_with fail
              refine Calls.mono (SO.out o _) ?_
              rintro e x4 ⟨rfl, rfl⟩
              go_wp2_with fail
              go_ret
              exact ⟨ret_bool (by simp), B10.out⟩
  · have hd : decide ((1048576 : Int) < (n : Int)) = true := by simp; omega
    go_enter Try.func4, Try.ntmps4
    go_wp2_with fail
    go_ret
    exact ⟨rfl, Below.refl _ _⟩
end Go.Proofs.Ytfifiobcmdmefaa.Own

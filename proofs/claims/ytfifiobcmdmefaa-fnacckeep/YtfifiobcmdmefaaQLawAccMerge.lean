/-
  Own text: laws.FnAccMerge.
-/
import Derived.Test.YtfifiobcmdmefaaQLawAccTwo
import Derived.Test.YtfifiobcmdmefaaPk12
import Derived.Test.YtfifiobcmdmefaaPk6
import Derived.BigQuiet
import Derived.Lib.QuietBelow
import Derived.Deep.Cut
import Derived.Deep.CutRange
namespace Go.Proofs.Ytfifiobcmdmefaa.Own
open Go.RowKit Go.Sort
set_option linter.unusedVariables false
set_option linter.unusedSimpArgs false

theorem LV.sl {w : World} {B T K : Nat} {a : Option Addr} {c : Nat} {L : List VM} (h : LV w B T (.slice a K c) L) (hn : L.length = K) {k : Nat} (hk : k < K) : (Sl w (L.getD k v0).a1 (L.getD k v0).b.xs ∧ Sl w (L.getD k v0).a2 (L.getD k v0).b.ys) ∧ (L.getD k v0).b.xs.length ≤ 4 ∧ (L.getD k v0).b.ys.length ≤ 4 := by
  obtain ⟨g, rfl, hv, _, hT⟩ := h.row hn (by omega)
  exact ⟨⟨(hv.own k (by omega)).1.sl, (hv.own k (by omega)).2.sl⟩, h.short.vm k (by omega)⟩

set_option maxRecDepth 100000 in
set_option maxHeartbeats 4000000 in
theorem lawAccMerge (a : Option Addr) (n c : Nat) (a' : Option Addr) (n' c' : Nat) (w : World) (h : Bytes w w.heap.size a n) (hc : n ≤ c) (hm : c ≤ maxLen) (h' : Bytes w w.heap.size a' n') (hc' : n' ≤ c') (hm' : c' ≤ maxLen) :
    Calls Try.prog 5 #[.slice a n c, .slice a' n' c'] w fun e w' => e = .returned (.bool true) ∧ Below w.heap.size w w' := by
  have HB : Hid (Bytes w w.heap.size a n) := h
  have HM : Hid (c ≤ maxLen) := hm
  have HB2 : Hid (Bytes w w.heap.size a' n') := h'
  have HM2 : Hid (c' ≤ maxLen) := hm'
  clear h h'
  unfold maxLen at hm hm'
  by_cases hn : n ≤ 1048576
  · have hd : decide ((1048576 : Int) < (n : Int)) = false := by simp; omega
    by_cases hn2 : n' ≤ 1048576
    · have hd2 : decide ((1048576 : Int) < (n' : Int)) = false := by simp; omega
      go_enter Try.func5, Try.ntmps5
      go_wp2_with fail
      refine (drawAccBest a n c w HB.out hc HM.out).mono ?_
      rintro e w1 ⟨la, lc, us, lb, ld, vs, rfl, o1, p1, b1⟩
      have U1 : Hid (LV w1 w.heap.size w1.heap.size (.slice la us.length lc) us) := o1
      have V1 : Hid (LV w1 w.heap.size w1.heap.size (.slice lb vs.length ld) vs) := p1
      have B1 : Hid (Below w.heap.size w w1) := b1
      have LU : us.length ≤ 40 := o1.len
      have LVs : vs.length ≤ 40 := p1.len
      clear o1 p1 b1 hd
      go_wp2_with fail
      refine (drawAccBest a' n' c' w1 (HB2.out.belowA B1.out) hc' HM2.out).mono ?_
      rintro e V ⟨lx, le, cs, ly, lf, cs0, rfl, o2, _, b2⟩
      have U : Hid (LV V w.heap.size w1.heap.size (.slice la us.length lc) us) := U1.out.keep b2
      have VV : Hid (LV V w.heap.size w1.heap.size (.slice lb vs.length ld) vs) := V1.out.keep b2
      have C : Hid (LV V w1.heap.size V.heap.size (.slice lx cs.length le) cs) := o2
      have B2 : Hid (Below w.heap.size w V) := B1.out.trans (b2.mono B1.out.size)
      have LC : cs.length ≤ 40 := o2.len
      have FIN : Hid (∀ W, Below V.heap.size V W → Below w.heap.size w W) := fun W hb => B2.out.trans (hb.mono B2.out.size)
      clear o2 b2 U1 V1 B1 hd2
      obtain ⟨K1, hK1⟩ : ∃ K, (bestOf (bodies us) (bodies vs)).length = K := ⟨_, rfl⟩
      obtain ⟨K2, hK2⟩ : ∃ K, (bestOf (bestOf (bodies us) (bodies vs)) (bodies cs)).length = K := ⟨_, rfl⟩
      obtain ⟨K3, hK3⟩ : ∃ K, (bestOf (bodies vs) (bodies cs)).length = K := ⟨_, rfl⟩
      obtain ⟨K4, hK4⟩ : ∃ K, (bestOf (bodies us) (bestOf (bodies vs) (bodies cs))).length = K := ⟨_, rfl⟩
      obtain ⟨K5, hK5⟩ : ∃ K, (bestOf (bodies us) (bodies us)).length = K := ⟨_, rfl⟩
      have HK1 : Hid ((bestOf (bodies us) (bodies vs)).length = K1) := hK1
      have HK2 : Hid ((bestOf (bestOf (bodies us) (bodies vs)) (bodies cs)).length = K2) := hK2
      have HK3 : Hid ((bestOf (bodies vs) (bodies cs)).length = K3) := hK3
      have HK4 : Hid ((bestOf (bodies us) (bestOf (bodies vs) (bodies cs))).length = K4) := hK4
      have HK5 : Hid ((bestOf (bodies us) (bodies us)).length = K5) := hK5
      have MM : Hid (0 < K1 → 0 < K2 → K4 = K2 ∧ K5 = us.length ∧ (∀ i, ((bestOf (bodies us) (bestOf (bodies vs) (bodies cs))).getD i (0, e0)).1 = ((bestOf (bestOf (bodies us) (bodies vs)) (bodies cs)).getD i (0, e0)).1) ∧ bestOf (bodies us) (bodies us) = bodies us) := fun h1 h2 => by
        obtain ⟨m1, m2, m3⟩ := merge_math (A := bodies us) (B := bodies vs) (C := bodies cs) (by omega) (by omega)
        exact ⟨by omega, by rw [← hK5, m3, bodies_len], m2, m3⟩
      have L1 : K1 ≤ 40 := by rw [← hK1]; exact bestOf_len _ _
      have L2 : K2 ≤ 40 := by rw [← hK2]; exact bestOf_len _ _
      have L4 : K4 ≤ 40 := by rw [← hK4]; exact bestOf_len _ _
      have L5 : K5 ≤ 40 := by rw [← hK5]; exact bestOf_len _ _
      clear hK1 hK2 hK3 hK4 hK5
      have e11 : ((K1 : Int) != (K1 : Int)) = false := by simp
      go_wp2_with fail
      refine Calls.mono (bestV U.out VV.out K1 HK1.out) ?_
      rintro e w3 ⟨a3, c3, N1, rfl, hN, bN, oN, b3⟩
      have H3 : Hid (Below V.heap.size V w3) := b3
      have X3 : Hid (LV w3 V.heap.size w3.heap.size (.slice a3 K1 c3) N1) := oN
      have BN1 : Hid (bodies N1 = bestOf (bodies us) (bodies vs)) := bN
      clear hN bN oN b3
      go_wp2_with fail
      refine Calls.mono (bestVS (U.out.keep H3.out) (VV.out.keep H3.out) K1 HK1.out) ?_
      rintro e w4 ⟨a4, c4, N4, rfl, _, _, _, b4⟩
      have H4 : Hid (Below V.heap.size V w4) := H3.out.trans (b4.mono H3.out.size)
      have X4 : Hid (LV w4 V.heap.size w3.heap.size (.slice a3 K1 c3) N1) := X3.out.keep b4
      clear b4 X3
      go_wp2_with fail
      refine Calls.mono (bestV X4.out (C.out.keep H4.out) K2 (by rw [BN1.out]; exact HK2.out)) ?_
      rintro e w5 ⟨a5, c5, P, rfl, hP, bP, oP, b5⟩
      have HP : Hid (P.length = K2) := hP
      have BP : Hid (bodies P = bestOf (bestOf (bodies us) (bodies vs)) (bodies cs)) := by show _ = _; rw [bP, BN1.out]
      have P5 : Hid (LV w5 w4.heap.size w5.heap.size (.slice a5 K2 c5) P) := oP
      have H5 : Hid (Below V.heap.size V w5) := H4.out.trans (b5.mono H4.out.size)
      clear hP bP oP b5 X4
      go_wp2_with fail
      refine Calls.mono (bestV (VV.out.keep H5.out) (C.out.keep H5.out) K3 HK3.out) ?_
      rintro e w6 ⟨a6, c6, N6, rfl, hN, bN, oN, b6⟩
      have X6 : Hid (LV w6 w5.heap.size w6.heap.size (.slice a6 K3 c6) N6) := oN
      have BN6 : Hid (bodies N6 = bestOf (bodies vs) (bodies cs)) := bN
      have H6 : Hid (Below V.heap.size V w6) := H5.out.trans (b6.mono H5.out.size)
      have P6 : Hid (LV w6 w4.heap.size w5.heap.size (.slice a5 K2 c5) P) := P5.out.keep b6
      clear hN bN oN b6 P5
      go_wp2_with fail
      refine Calls.mono (bestV (U.out.keep H6.out) X6.out K4 (by rw [BN6.out]; exact HK4.out)) ?_
      rintro e w7 ⟨a7, c7, Q, rfl, hQ, bQ, oQ, b7⟩
      have HQ : Hid (Q.length = K4) := hQ
      have BQ : Hid (bodies Q = bestOf (bodies us) (bestOf (bodies vs) (bodies cs))) := by show _ = _; rw [bQ, BN6.out]
      have Q7 : Hid (LV w7 w6.heap.size w7.heap.size (.slice a7 K4 c7) Q) := oQ
      have H7 : Hid (Below V.heap.size V w7) := H6.out.trans (b7.mono H6.out.size)
      have P7 : Hid (LV w7 w4.heap.size w5.heap.size (.slice a5 K2 c5) P) := P6.out.keep b7
      clear hQ bQ oQ b7 P6 X6
      go_wp2_with fail
      refine Calls.mono (bestV (U.out.keep H7.out) (U.out.keep H7.out) K5 HK5.out) ?_
      rintro e X ⟨a8, c8, S, rfl, hS, bS, oS, b8⟩
      have HS : Hid (S.length = K5) := hS
      have BS : Hid (bodies S = bestOf (bodies us) (bodies us)) := bS
      have S8 : Hid (LV X w7.heap.size X.heap.size (.slice a8 K5 c8) S) := oS
      have H8 : Hid (Below V.heap.size V X) := H7.out.trans (b8.mono H7.out.size)
      have P8 : Hid (LV X w4.heap.size w5.heap.size (.slice a5 K2 c5) P) := P7.out.keep b8
      have Q8 : Hid (LV X w6.heap.size w7.heap.size (.slice a7 K4 c7) Q) := Q7.out.keep b8
      have U8 : Hid (LV X w.heap.size w1.heap.size (.slice la us.length lc) us) := U.out.keep H8.out
      clear hS bS oS b8 P7 Q7
      by_cases h1 : K1 = 0
      · subst h1
        go_wp2_with fail
        go_ret
        exact ⟨rfl, FIN.out _ H8.out⟩
      have d1 : ((K1 : Int) == 0) = false := by simpa using h1
      by_cases h2 : K2 = 0
      · subst h2
        go_wp2_with fail
        go_ret
        exact ⟨rfl, FIN.out _ H8.out⟩
      have d2 : ((K2 : Int) == 0) = false := by simpa using h2
      obtain ⟨r4, r5, MB, MS⟩ := MM.out (by omega) (by omega)
      have MB : Hid (∀ i, (Q.getD i v0).bal = (P.getD i v0).bal) := fun i => by rw [(bal_at BQ.out i).1, (bal_at BP.out i).1, MB i]
      have MS : Hid (∀ i, (S.getD i v0).bal = (us.getD i v0).bal ∧ (S.getD i v0).b = (us.getD i v0).b) := fun i => by
        have e := BS.out
        rw [MS] at e
        have a := bal_at e i
        have b := bal_at (rfl : bodies us = bodies us) i
        exact ⟨a.1.trans b.1.symm, a.2.trans b.2.symm⟩
      subst r4
      subst r5
      clear MM HK1 HK2 HK3 HK4 HK5 h1 h2 BN1 BN6 BP BQ BS L4 L5 H3 H4 H5 H6 H7 VV C U
      have k22 : ((K4 : Int) == (K4 : Int)) = true := by simp
      go_wp2_with fail
      go_loopw [13] (fun i wr => ∃ k : Nat, k ≤ K4 ∧ i = .int .i64 k ∧ Hid (Below X.heap.size X wr)) (fun i _ => K4 - (intOf i).toNat)
      case atStart => exact ⟨0, Nat.zero_le _, rfl, Below.refl _ _⟩
      case round =>
        obtain ⟨k, hk, rfl, KR⟩ := hrel
        by_cases hlt : k < K4
        · have hki : (k : Int) < (K4 : Int) := by omega
          obtain ⟨gp, rfl, ⟨c0, _⟩, _⟩ := (P8.out.keep KR.out).vc HP.out hlt
          obtain ⟨gq, rfl, ⟨f0, _⟩, _⟩ := (Q8.out.keep KR.out).vc HQ.out hlt
          rw [MB.out k] at f0
          generalize (P.getD k v0).bal = z at c0 f0
          go_upto_region 16 with fail
          go_quiet (fail)
          go_wp2_with fail
          go_roundw
          case rel => exact ⟨k + 1, by omega, by go_num, KR.out.trans (below_drewN (Below.refl _ _) _)⟩
          case measure => simp [intOf]; omega
        · have hki : ¬ (k : Int) < (K4 : Int) := by omega
          clear P8 Q8 MB HP HQ hlt hk
          go_wp2_with fail
          go_loopw [14] (fun i wq => ∃ k : Nat, k ≤ us.length ∧ i = .int .i64 k ∧ Hid (Below X.heap.size X wq)) (fun i _ => us.length - (intOf i).toNat)
          case atStart => exact ⟨0, Nat.zero_le _, rfl, KR.out⟩
          case round =>
            rename World => wq
            obtain ⟨j, hj, rfl, KQ⟩ := hrel
            clear hki
            by_cases hlt : j < us.length
            · have hki : (j : Int) < (us.length : Int) := by omega
              obtain ⟨gs, rfl, ⟨c0, c1, c2, c3, c4, c5, c6, c7⟩, _⟩ := (S8.out.keep KQ.out).vc HS.out hlt
              obtain ⟨gu, rfl, ⟨f0, f1, f2, f3, f4, f5, f6, f7⟩, _⟩ := (U8.out.keep KQ.out).vc rfl hlt
              obtain ⟨⟨s1, s2⟩, l1, l2⟩ := (S8.out.keep KQ.out).sl HS.out hlt
              obtain ⟨⟨t1, t2⟩, _, _⟩ := (U8.out.keep KQ.out).sl rfl hlt
              obtain ⟨mb, me⟩ := MS.out j
              obtain ⟨x, hx⟩ : ∃ x, x = S.getD j v0 := ⟨_, rfl⟩
              obtain ⟨y, hy⟩ : ∃ y, y = us.getD j v0 := ⟨_, rfl⟩
              rw [← hx] at c0 c1 c2 c3 c4 c5 c6 c7 s1 s2 l1 l2 mb me
              rw [← hy] at f0 f1 f2 f3 f4 f5 f6 f7 t1 t2 mb me
              clear hx hy
              obtain ⟨xbal, xb, xa1, xc1, xa2, xc2⟩ := x
              obtain ⟨ybal, yb, ya1, yc1, ya2, yc2⟩ := y
              simp only at c0 c1 c2 c3 c4 c5 c6 c7 s1 s2 l1 l2 f0 f1 f2 f3 f4 f5 f6 f7 t1 t2 mb me
              subst mb
              subst me
              have LL := likeE_self xb
              obtain ⟨xn, xp, xq, xxs, xys, xv, xk⟩ := xb
              simp only at c1 c2 c3 c4 c5 c6 c7 s1 s2 l1 l2 f1 f2 f3 f4 f5 f6 f7 t1 t2 LL
              have SX : Hid (Sl wq xa1 xxs ∧ Sl wq xa2 xys ∧ Sl wq ya1 xxs ∧ Sl wq ya2 xys) := ⟨s1, s2, t1, t2⟩
              have EQ : Hid (∀ d os, Calls Try.prog 18 #[.agg #[.bool xn, .int .i64 xp, .int .i64 xq, .slice xa1 xxs.length xc1, .slice xa2 xys.length xc2, .int .i64 xv, .int .i64 xk], .agg #[.bool xn, .int .i64 xp, .int .i64 xq, .slice ya1 xxs.length yc1, .slice ya2 xys.length yc2, .int .i64 xv, .int .i64 xk]] (grow (redrawn wq d) os) fun e w'' => e = .returned (.bool true) ∧ ∃ p : Regrown, w'' = grow (redrawn wq p.d) p.os) := fun d os => by
                have hb := below_regrown wq d os
                have h := implCertLike xn xn xp xq xp xq xa1 xa2 ya1 ya2 xc1 xc2 yc1 yc2 xxs xys xxs xys xv xk xv xk _ (SX.out.1.below hb) (SX.out.2.1.below hb) (SX.out.2.2.1.below hb) (SX.out.2.2.2.below hb) (by omega) (by omega) (by omega) (by omega)
                rw [LL] at h
                exact Calls.regrown_of h
              have m0 := cell_regrown c0
              have m1 := cell_regrown c1
              have m2 := cell_regrown c2
              have m3 := cell_regrown c3
              have m4 := cell_regrown c4
              have m5 := cell_regrown c5
              have m6 := cell_regrown c6
              have m7 := cell_regrown c7
              have r0 := cell_regrown f0
              have r1 := cell_regrown f1
              have r2 := cell_regrown f2
              have r3 := cell_regrown f3
              have r4 := cell_regrown f4
              have r5 := cell_regrown f5
              have r6 := cell_regrown f6
              have r7 := cell_regrown f7
              have hb2 : (xbal != xbal) = false := by simp
              clear c0 c1 c2 c3 c4 c5 c6 c7 f0 f1 f2 f3 f4 f5 f6 f7 s1 s2 t1 t2 LL l1 l2
              go_upto_region 21 with fail
              refine wp_region_quiet_below (by kernel_rfl) (by kernel_rfl) ?_
              repeat (go_big_quiet_step (first | (go_at_call 18; exact EQ.out _ _)))
              refine wpQuiet_nil ?_
              intro Y hw'
              obtain ⟨⟨dq, osq⟩, hw''⟩ := hw'
              have hx : Below wq.heap.size wq Y := by rw [hw'']; exact below_regrown wq dq osq
              have KY : Hid (Below X.heap.size X Y) := KQ.out.trans (hx.mono KQ.out.size)
              clear hx hw'' m0 m1 m2 m3 m4 m5 m6 m7 r0 r1 r2 r3 r4 r5 r6 r7
              go_wp2_with fail
              go_roundw
              case rel => exact ⟨j + 1, by omega, by go_num, KY.out⟩
              case measure => simp [intOf]; omega
            · have hki : ¬ (j : Int) < (us.length : Int) := by omega
              go_wp2_with fail
              go_ret
              exact ⟨rfl, FIN.out _ (H8.out.trans (KQ.out.mono H8.out.size))⟩
    · have hd2 : decide ((1048576 : Int) < (n' : Int)) = true := by simp; omega
      go_enter Try.func5, Try.ntmps5
      go_wp2_with fail
      go_ret
      exact ⟨rfl, Below.refl _ _⟩
  · have hd : decide ((1048576 : Int) < (n : Int)) = true := by simp; omega
    go_enter Try.func5, Try.ntmps5
    go_wp2_with fail
    go_ret
    exact ⟨rfl, Below.refl _ _⟩
end Go.Proofs.Ytfifiobcmdmefaa.Own

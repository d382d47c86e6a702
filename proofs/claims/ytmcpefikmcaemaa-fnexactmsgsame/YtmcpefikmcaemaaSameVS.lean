/-
  Own text: what spec.l6Same and spec.AccSame do.
-/
import Derived.Test.YtmcpefikmcaemaaAccMath
import Derived.Test.YtmcpefikmcaemaaEntLikeS
import Derived.BigQuiet
import Derived.Lib.QuietBelow
import Derived.Deep.Cut
namespace Go.Proofs.Ytmcpefikmcaemaa.Own
open Go.RowKit Go.Sort
set_option linter.unusedVariables false
set_option linter.unusedSimpArgs false

theorem sameV_bal {x y : V} (h : (x.1 == y.1) = false) : sameV x y = false := by simp only [sameV, h, Bool.false_and]
theorem sameV_like {x y : V} (h : (x.1 == y.1) = true) : sameV x y = likeE x.2.n y.2.n (x.2.p, x.2.q) (y.2.p, y.2.q) x.2.xs x.2.ys y.2.xs y.2.ys x.2.v x.2.k y.2.v y.2.k := by simp only [sameV, h, Bool.true_and]

set_option maxRecDepth 100000 in
set_option maxHeartbeats 4000000 in
theorem specSame (a b : Option Addr) (c d : Nat) (vs us : List VM) (w : World) (h1 : SlV w a vs) (h2 : SlV w b us) (hn : vs.length ≤ 2 ^ 40) (hm : us.length ≤ 2 ^ 40) (hl1 : VLs vs) (hl2 : VLs us) :
    Calls Try.prog 64 #[.slice a vs.length c, .slice b us.length d] w fun e w' => e = .returned (.bool (sameVs (bodies vs) (bodies us))) ∧ Below w.heap.size w w' := by
  have H1 : Hid (SlV w a vs) := h1
  have H2 : Hid (SlV w b us) := h2
  have L1 : Hid (VLs vs) := hl1
  have L2 : Hid (VLs us) := hl2
  clear h1 h2 hl1 hl2
  have E1 : Hid (vs.length ≠ us.length → sameVs (bodies vs) (bodies us) = false) := fun h => sameVs_len (by rw [bodies_len, bodies_len]; exact h)
  have E2 : Hid (∀ i, i < vs.length → sameV (vs.getD i v0).body (us.getD i v0).body = false → sameVs (bodies vs) (bodies us) = false) := fun i hi h => sameVs_not (i := i) (by rw [bodies_len]; exact hi) (by rw [bodies_getD, bodies_getD]; exact h)
  have E3 : Hid (vs.length = us.length → (∀ i, i < vs.length → sameV (vs.getD i v0).body (us.getD i v0).body = true) → sameVs (bodies vs) (bodies us) = true) := fun h h2 => sameVs_all (by rw [bodies_len, bodies_len]; exact h) (fun i hi => by rw [bodies_getD, bodies_getD]; exact h2 i (by rw [bodies_len] at hi; exact hi))
  generalize sameVs (bodies vs) (bodies us) = T at E1 E2 E3 ⊢
  by_cases hlen : vs.length = us.length
  · have HE : Hid (vs.length = us.length) := hlen
    rw [← hlen]
    have hne : ((vs.length : Int) != (vs.length : Int)) = false := by simp
    clear hlen E1
    go_enter Try.func64, Try.ntmps64
    go_wp2_with fail
    go_loopw [5] (fun i wr => ∃ k : Nat, k ≤ vs.length ∧ i = .int .i64 k ∧ Hid (∀ j, j < k → sameV (vs.getD j v0).body (us.getD j v0).body = true) ∧ Hid (Below w.heap.size w wr)) (fun i _ => vs.length - (intOf i).toNat)
    case atStart => exact ⟨0, Nat.zero_le _, rfl, fun j hj => by omega, Below.refl _ _⟩
    case round =>
      obtain ⟨k, hk, rfl, HA, KR⟩ := hrel
      by_cases hlt : k < vs.length
      · have hki : (k : Int) < (vs.length : Int) := by omega
        have hlt2 : k < us.length := by rw [← HE.out]; exact hlt
        rcases H1.out.below KR.out with hh | ⟨b1, o1, rfl, _, hh⟩
        · rw [hh] at hlt; simp at hlt
        rcases H2.out.below KR.out with hg | ⟨b2, o2, rfl, _, hg⟩
        · rw [hg] at hlt2; simp at hlt2
        obtain ⟨⟨d0, d1, d2, d3, d4, d5, d6, d7⟩, s1, s2⟩ := hh k hlt
        obtain ⟨⟨f0, f1, f2, f3, f4, f5, f6, f7⟩, t1, t2⟩ := hg k hlt2
        have lx := L1.out k hlt
        have ly := L2.out k hlt2
        have SX : Hid (Sl wr (vs.getD k v0).a1 (vs.getD k v0).b.xs ∧ Sl wr (vs.getD k v0).a2 (vs.getD k v0).b.ys) := ⟨s1, s2⟩
        have SY : Hid (Sl wr (us.getD k v0).a1 (us.getD k v0).b.xs ∧ Sl wr (us.getD k v0).a2 (us.getD k v0).b.ys) := ⟨t1, t2⟩
        have NX : Hid (∀ r, sameV (vs.getD k v0).body (us.getD k v0).body = r → (r = false → T = false) ∧ (r = true → ∀ j, j < k + 1 → sameV (vs.getD j v0).body (us.getD j v0).body = true)) := fun r hr => ⟨fun h => E2.out k hlt (by rw [hr, h]), fun h j hj => by
          by_cases e : j = k
          · subst e; rw [hr, h]
          · exact HA.out j (by omega)⟩
        clear hh hg s1 s2 t1 t2
        obtain ⟨x, hx⟩ : ∃ x, x = vs.getD k v0 := ⟨_, rfl⟩
        obtain ⟨y, hy⟩ : ∃ y, y = us.getD k v0 := ⟨_, rfl⟩
        rw [← hx] at d0 d1 d2 d3 d4 d5 d6 d7 lx SX
        rw [← hy] at f0 f1 f2 f3 f4 f5 f6 f7 ly SY
        have NX2 : Hid (∀ r, sameV x.body y.body = r → (r = false → T = false) ∧ (r = true → ∀ j, j < k + 1 → sameV (vs.getD j v0).body (us.getD j v0).body = true)) := fun r hr => NX.out r (by rw [← hx, ← hy]; exact hr)
        clear NX hx hy
        obtain ⟨xbal, ⟨xn, xp, xq, xxs, xys, xv, xk⟩, xa1, xc1, xa2, xc2⟩ := x
        obtain ⟨ybal, ⟨yn, yp, yq, yxs, yys, yv, yk⟩, ya1, yc1, ya2, yc2⟩ := y
        simp only [VM.body] at d0 d1 d2 d3 d4 d5 d6 d7 f0 f1 f2 f3 f4 f5 f6 f7 lx ly SX SY NX2
        have EQ : Hid (∀ d os, Calls Try.prog 63 #[.agg #[.bool xn, .int .i64 xp, .int .i64 xq, .slice xa1 xxs.length xc1, .slice xa2 xys.length xc2, .int .i64 xv, .int .i64 xk], .agg #[.bool yn, .int .i64 yp, .int .i64 yq, .slice ya1 yxs.length yc1, .slice ya2 yys.length yc2, .int .i64 yv, .int .i64 yk]] (grow (redrawn wr d) os) fun e w'' => e = .returned (.bool (likeE xn yn (xp, xq) (yp, yq) xxs xys yxs yys xv xk yv yk)) ∧ ∃ p : Regrown, w'' = grow (redrawn wr p.d) p.os) := fun d os => by
          have hb := below_regrown wr d os
          have h := specCertLike xn yn xp xq yp yq xa1 xa2 ya1 ya2 xc1 xc2 yc1 yc2 xxs xys yxs yys xv xk yv yk _ (SX.out.1.below hb) (SX.out.2.below hb) (SY.out.1.below hb) (SY.out.2.below hb) lx.1 lx.2.1 ly.1 ly.2.1
          exact Calls.regrown_of h
        have m0 := cell_regrown d0
        have m1 := cell_regrown d1
        have m2 := cell_regrown d2
        have m3 := cell_regrown d3
        have m4 := cell_regrown d4
        have m5 := cell_regrown d5
        have m6 := cell_regrown d6
        have m7 := cell_regrown d7
        have r0 := cell_regrown f0
        have r1 := cell_regrown f1
        have r2 := cell_regrown f2
        have r3 := cell_regrown f3
        have r4 := cell_regrown f4
        have r5 := cell_regrown f5
        have r6 := cell_regrown f6
        have r7 := cell_regrown f7
        clear d0 d1 d2 d3 d4 d5 d6 d7 f0 f1 f2 f3 f4 f5 f6 f7
        cases hbal : (xbal == ybal) with
        | false =>
          have F : Hid (T = false) := (NX2.out false (sameV_bal hbal)).1 rfl
          have hb2 : (xbal != ybal) = true := by simp only [bne, hbal]; rfl
          clear NX2 EQ
          go_upto_region 6 with fail
          refine wp_region_quiet_below (by kernel_rfl) (by kernel_rfl) ?_
          repeat (go_big_quiet_step (fail))
          refine wpQuiet_nil ?_
          intro Y hw'
          obtain ⟨⟨dq, osq⟩, hw''⟩ := hw'
          have hx : Below wr.heap.size wr Y := by rw [hw'']; exact below_regrown wr dq osq
          have KY : Hid (Below w.heap.size w Y) := KR.out.trans (hx.mono KR.out.size)
          clear hx hw'' m0 m1 m2 m3 m4 m5 m6 m7 r0 r1 r2 r3 r4 r5 r6 r7
          go_wp2_with fail
          go_ret
          exact ⟨ret_bool F.out.symm, KY.out⟩
        | true =>
          have N3 := NX2.out _ (sameV_like hbal)
          have hb2 : (xbal != ybal) = false := by simp only [bne, hbal]; rfl
          clear NX2
          simp only at N3
          generalize likeE xn yn (xp, xq) (yp, yq) xxs xys yxs yys xv xk yv yk = z at N3 EQ
          cases z with
          | false =>
            have F : Hid (T = false) := N3.1 rfl
            clear N3
            go_upto_region 6 with fail
            refine wp_region_quiet_below (by kernel_rfl) (by kernel_rfl) ?_
            repeat (go_big_quiet_step (first | (go_at_call 63; exact EQ.out _ _)))
            refine wpQuiet_nil ?_
            intro Y hw'
            obtain ⟨⟨dq, osq⟩, hw''⟩ := hw'
            have hx : Below wr.heap.size wr Y := by rw [hw'']; exact below_regrown wr dq osq
            have KY : Hid (Below w.heap.size w Y) := KR.out.trans (hx.mono KR.out.size)
            clear hx hw'' m0 m1 m2 m3 m4 m5 m6 m7 r0 r1 r2 r3 r4 r5 r6 r7
            go_wp2_with fail
            go_ret
            exact ⟨ret_bool F.out.symm, KY.out⟩
          | true =>
            have F : Hid (∀ j, j < k + 1 → sameV (vs.getD j v0).body (us.getD j v0).body = true) := N3.2 rfl
            clear N3
            go_upto_region 6 with fail
            refine wp_region_quiet_below (by kernel_rfl) (by kernel_rfl) ?_
            repeat (go_big_quiet_step (first | (go_at_call 63; exact EQ.out _ _)))
            refine wpQuiet_nil ?_
            intro Y hw'
            obtain ⟨⟨dq, osq⟩, hw''⟩ := hw'
            have hx : Below wr.heap.size wr Y := by rw [hw'']; exact below_regrown wr dq osq
            have KY : Hid (Below w.heap.size w Y) := KR.out.trans (hx.mono KR.out.size)
            clear hx hw'' m0 m1 m2 m3 m4 m5 m6 m7 r0 r1 r2 r3 r4 r5 r6 r7
            go_wp2_with fail
            go_roundw
            case rel => exact ⟨k + 1, by omega, by go_num, F.out, KY.out⟩
            case measure => simp [intOf]; omega
      · have hki : ¬ (k : Int) < (vs.length : Int) := by omega
        have F : Hid (T = true) := E3.out HE.out (fun i hi => HA.out i (by omega))
        go_wp2_with fail
        go_ret
        exact ⟨ret_bool F.out.symm, KR.out⟩
  · have F : Hid (T = false) := E1.out hlen
    have hne : ((vs.length : Int) != (us.length : Int)) = true := by simp only [bne, beq_eq_false_iff_ne, Bool.not_eq_true', ne_eq]; omega
    clear hlen
    go_enter Try.func64, Try.ntmps64
    go_wp2_with fail
    go_ret
    exact ⟨ret_bool F.out.symm, Below.refl _ _⟩

set_option maxRecDepth 100000 in
set_option maxHeartbeats 1000000 in
theorem specAccSame (m m' : Int) (a b : Option Addr) (c d : Nat) (vs us : List VM) (w : World) (h1 : SlV w a vs) (h2 : SlV w b us) (hn : vs.length ≤ 2 ^ 40) (hm : us.length ≤ 2 ^ 40) (hl1 : VLs vs) (hl2 : VLs us) :
    Calls Try.prog 44 #[.agg #[.int .i64 m, .slice a vs.length c], .agg #[.int .i64 m', .slice b us.length d]] w fun e w' => e = .returned (.bool (m == m' && sameVs (bodies vs) (bodies us))) ∧ Below w.heap.size w w' := by
  obtain ⟨W, hW⟩ : ∃ W, W = (w.alloc (.cells #[.int .i64 m, .slice a vs.length c] 51)).alloc (.cells #[.int .i64 m', .slice b us.length d] 51) := ⟨_, rfl⟩
  have BW : Hid (Below w.heap.size w W) := by
    show Below _ _ _
    rw [hW]; exact ((Below.refl _ _).alloc (Nat.le_refl _) _).alloc (by simp) _
  have HW : Hid (W = _) := hW
  clear hW
  have HC : Hid _ := specSame a b c d vs us W (h1.below BW.out) (h2.below BW.out) hn hm hl1 hl2
  clear h1 h2 hl1 hl2
  generalize sameVs (bodies vs) (bodies us) = T at HC ⊢
  cases hmm : (m == m') with
  | false =>
    go_enter Try.func44, Try.ntmps44
    go_wp2_with fail
    go_ret
    exact ⟨ret_bool rfl, by rw [← HW.out]; exact BW.out⟩
  | true =>
    go_enter Try.func44, Try.ntmps44
    go_wp2_with fail
    rw [← HW.out]
    refine Calls.mono HC.out ?_
    rintro e w1 ⟨rfl, b1⟩
    have B1 : Hid (Below w.heap.size w w1) := BW.out.trans (b1.mono BW.out.size)
    clear b1
    go_wp2_with fail
    go_ret
    exact ⟨ret_bool (by first | rfl | simp), B1.out⟩
end Go.Proofs.Ytmcpefikmcaemaa.Own

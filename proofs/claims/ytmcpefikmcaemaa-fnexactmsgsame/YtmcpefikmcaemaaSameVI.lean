/-
  Own text: what slices.EqualFunc over votes and impl.AccSame do.
-/
import Derived.Test.YtmcpefikmcaemaaSameVote
import Derived.Deep.Cut
namespace Go.Proofs.Ytmcpefikmcaemaa.Own
open Go.RowKit
set_option linter.unusedVariables false
set_option linter.unusedSimpArgs false

set_option maxRecDepth 100000 in
set_option maxHeartbeats 4000000 in
theorem equalVotes (a b : Option Addr) (c d : Nat) (vs us : List VM) (w : World) (h1 : SlV w a vs) (h2 : SlV w b us) (hn : vs.length ≤ 2 ^ 40) (hm : us.length ≤ 2 ^ 40) (hl1 : VLs vs) (hl2 : VLs us) :
    Calls Try.prog 65 #[.slice a vs.length c, .slice b us.length d, .func (.func 66) #[] #[]] w fun e w' => e = .returned (.bool (sameVs (bodies vs) (bodies us))) ∧ Below w.heap.size w w' := by
  have H1 : Hid (SlV w a vs) := h1
  have H2 : Hid (SlV w b us) := h2
  have L1 : Hid (VLs vs) := hl1
  have L2 : Hid (VLs us) := hl2
  clear h1 h2 hl1 hl2
  have E1 : Hid (vs.length ≠ us.length → sameVs (bodies vs) (bodies us) = false) := fun h => sameVs_len (by rw [bodies_len, bodies_len]; exact h)
  have E2 : Hid (∀ i, i < vs.length → sameV (vs.getD i v0).body (us.getD i v0).body = false → sameVs (bodies vs) (bodies us) = false) := fun i hi h => sameVs_not (i := i) (by rw [bodies_len]; exact hi) (by rw [bodies_getD, bodies_getD]; exact h)
  have E3 : Hid (vs.length = us.length → (∀ i, i < vs.length → sameV (vs.getD i v0).body (us.getD i v0).body = true) → sameVs (bodies vs) (bodies us) = true) := fun h h2 => sameVs_all (by rw [bodies_len, bodies_len]; exact h) (fun i hi => by rw [bodies_getD, bodies_getD]; exact h2 i (by rw [bodies_len] at hi; exact hi))
  generalize sameVs (bodies vs) (bodies us) = T at E1 E2 E3 ⊢
  by_cases hlen : vs.length = us.length
  · have HE : Hid (vs.length = us.length) := hlen
    rw [← hlen]
    have hne : ((vs.length : Int) != (vs.length : Int)) = false := by simp
    clear hlen E1
    go_enter Try.func65, Try.ntmps65
    go_wp2_with fail
    go_loopw [17] (fun i wr => ∃ k : Nat, k ≤ vs.length ∧ i = .int .i64 k ∧ Hid (∀ j, j < k → sameV (vs.getD j v0).body (us.getD j v0).body = true) ∧ Hid (Below w.heap.size w wr)) (fun i _ => vs.length - (intOf i).toNat)
    case atStart => exact ⟨0, Nat.zero_le _, rfl, fun j hj => by omega, Below.refl _ _⟩
    case round =>
      obtain ⟨k, hk, rfl, HA, KR⟩ := hrel
      by_cases hlt : k < vs.length
      · have hki : (k : Int) < (vs.length : Int) := by omega
        have hlt2 : k < us.length := by rw [← HE.out]; exact hlt
        rcases H1.out.below KR.out with hh | ⟨b1, o1, rfl, hb1, hh⟩
        · rw [hh] at hlt; simp at hlt
        rcases H2.out.below KR.out with hg | ⟨b2, o2, rfl, hb2, hg⟩
        · rw [hg] at hlt2; simp at hlt2
        obtain ⟨⟨d0, d1, d2, d3, d4, d5, d6, d7⟩, s1, s2⟩ := hh k hlt
        obtain ⟨⟨f0, f1, f2, f3, f4, f5, f6, f7⟩, t1, t2⟩ := hg k hlt2
        have lx := L1.out k hlt
        have ly := L2.out k hlt2
        have SX : Hid (Sl wr (vs.getD k v0).a1 (vs.getD k v0).b.xs ∧ Sl wr (vs.getD k v0).a2 (vs.getD k v0).b.ys) := ⟨s1, s2⟩
        have SY : Hid (Sl wr (us.getD k v0).a1 (us.getD k v0).b.xs ∧ Sl wr (us.getD k v0).a2 (us.getD k v0).b.ys) := ⟨t1, t2⟩
        have NX : Hid (∀ r, sameV (vs.getD k v0).body (us.getD k v0).body = r → (r = false → T = false) ∧ (r = true → ∀ j, j < k + 1 → sameV (vs.getD j v0).body (us.getD j v0).body = true)) := fun r hr => ⟨fun h => E2.out k hlt (by rw [hr, h]), fun h j hj => by
          by_cases e : j = k
          · subst e; rw [hr, h]
          · exact HA.out j (by omega)⟩
        clear hh hg s1 s2 t1 t2
        obtain ⟨x, hx⟩ : ∃ x, x = vs.getD k v0 := ⟨_, rfl⟩
        obtain ⟨y, hy⟩ : ∃ y, y = us.getD k v0 := ⟨_, rfl⟩
        rw [← hx] at d0 d1 d2 d3 d4 d5 d6 d7 lx SX
        rw [← hy] at f0 f1 f2 f3 f4 f5 f6 f7 ly SY
        have NX2 : Hid (∀ r, sameV x.body y.body = r → (r = false → T = false) ∧ (r = true → ∀ j, j < k + 1 → sameV (vs.getD j v0).body (us.getD j v0).body = true)) := fun r hr => NX.out r (by rw [← hx, ← hy]; exact hr)
        clear NX hx hy
        obtain ⟨xbal, ⟨xn, xp, xq, xxs, xys, xv, xk⟩, xa1, xc1, xa2, xc2⟩ := x
        obtain ⟨ybal, ⟨yn, yp, yq, yxs, yys, yv, yk⟩, ya1, yc1, ya2, yc2⟩ := y
        simp only [VM.body] at d0 d1 d2 d3 d4 d5 d6 d7 f0 f1 f2 f3 f4 f5 f6 f7 lx ly SX SY NX2
        obtain ⟨X, hX⟩ : ∃ X, X = wr.alloc (.cells #[.int .i64 xbal, .bool xn, .int .i64 xp, .int .i64 xq, .slice xa1 xxs.length xc1, .slice xa2 xys.length xc2, .int .i64 xv, .int .i64 xk] 60) := ⟨_, rfl⟩
        have BX : Hid (Below wr.heap.size wr X) := by show Below _ _ _; rw [hX]; exact (Below.refl _ _).alloc (Nat.le_refl _) _
        have SZ : Hid (X.heap.size = wr.heap.size + 1) := by show _ = _; rw [hX]; simp
        have GX : Hid (Blk X wr.heap.size #[.int .i64 xbal, .bool xn, .int .i64 xp, .int .i64 xq, .slice xa1 xxs.length xc1, .slice xa2 xys.length xc2, .int .i64 xv, .int .i64 xk] 60) := by show Blk _ _ _ _; rw [hX]; exact Blk.new _ _ _
        have HX : Hid (X = _) := hX
        clear hX
        go_upto_region 6 with fail
        rw [← HX.out]
        have g := fun o => BX.out.cell (p := ⟨b2, o, none⟩) hb2
        rw [← g] at f0 f1 f2 f3 f4 f5 f6 f7
        clear g d0 d1 d2 d3 d4 d5 d6 d7
        obtain ⟨Y, hY⟩ : ∃ Y, Y = X.alloc (.cells #[.int .i64 ybal, .bool yn, .int .i64 yp, .int .i64 yq, .slice ya1 yxs.length yc1, .slice ya2 yys.length yc2, .int .i64 yv, .int .i64 yk] 60) := ⟨_, rfl⟩
        have BY : Hid (Below wr.heap.size wr Y) := by show Below _ _ _; rw [hY]; exact BX.out.alloc BX.out.size _
        have GX2 : Hid (Blk Y wr.heap.size #[.int .i64 xbal, .bool xn, .int .i64 xp, .int .i64 xq, .slice xa1 xxs.length xc1, .slice xa2 xys.length xc2, .int .i64 xv, .int .i64 xk] 60) := by show Blk _ _ _ _; rw [hY]; exact GX.out.alloc _
        have GY : Hid (Blk Y X.heap.size #[.int .i64 ybal, .bool yn, .int .i64 yp, .int .i64 yq, .slice ya1 yxs.length yc1, .slice ya2 yys.length yc2, .int .i64 yv, .int .i64 yk] 60) := by show Blk _ _ _ _; rw [hY]; exact Blk.new _ _ _
        have HY : Hid (Y = _) := hY
        clear hY
        go_upto_region 7 with fail
        rw [← HY.out]
        obtain ⟨i0, i1, i2, i3, i4, i5, i6, i7⟩ := GX2.out.cells8
        obtain ⟨o0, o1, o2, o3, o4, o5, o6, o7⟩ := GY.out.cells8
        clear f0 f1 f2 f3 f4 f5 f6 f7
        go_wp2_with fail
        refine (implSameVote xbal ybal xn yn xp xq yp yq xa1 xa2 ya1 ya2 xc1 xc2 yc1 yc2 xxs xys yxs yys xv xk yv yk Y (SX.out.1.below BY.out) (SX.out.2.below BY.out) (SY.out.1.below BY.out) (SY.out.2.below BY.out) lx.1 lx.2.1 ly.1 ly.2.1).mono ?_
        rintro e w1 ⟨rfl, hw⟩
        have B1 : Hid (Below w.heap.size w w1) := KR.out.trans ((BY.out.trans (hw.mono BY.out.size)).mono KR.out.size)
        have N3 := NX2.out _ rfl
        clear hw NX2 i0 i1 i2 i3 i4 i5 i6 i7 o0 o1 o2 o3 o4 o5 o6 o7
        generalize sameV (xbal, ⟨xn, xp, xq, xxs, xys, xv, xk⟩) (ybal, ⟨yn, yp, yq, yxs, yys, yv, yk⟩) = z at N3 ⊢
        cases z with
        | false =>
          have F : Hid (T = false) := N3.1 rfl
          clear N3
          go_wp2_with fail
          go_ret
          exact ⟨ret_bool F.out.symm, B1.out⟩
        | true =>
          have F : Hid (∀ j, j < k + 1 → sameV (vs.getD j v0).body (us.getD j v0).body = true) := N3.2 rfl
          clear N3
          go_wp2_with fail
          go_roundw
          case rel => exact ⟨k + 1, by omega, by go_num, F.out, B1.out⟩
          case measure => simp [intOf]; omega
      · have hki : ¬ (k : Int) < (vs.length : Int) := by omega
        have F : Hid (T = true) := E3.out HE.out (fun i hi => HA.out i (by omega))
        go_wp2_with fail
        go_ret
        exact ⟨ret_bool F.out.symm, KR.out⟩
  · have F : Hid (T = false) := E1.out hlen
    have hne : ((vs.length : Int) != (us.length : Int)) = true := by simp only [bne, beq_eq_false_iff_ne, Bool.not_eq_true', ne_eq]; omega
    clear hlen
    go_enter Try.func65, Try.ntmps65
    go_wp2_with fail
    go_ret
    exact ⟨ret_bool F.out.symm, Below.refl _ _⟩

set_option maxRecDepth 100000 in
set_option maxHeartbeats 1000000 in
theorem implAccSame (m m' : Int) (a b : Option Addr) (c d : Nat) (vs us : List VM) (w : World) (h1 : SlV w a vs) (h2 : SlV w b us) (hn : vs.length ≤ 2 ^ 40) (hm : us.length ≤ 2 ^ 40) (hl1 : VLs vs) (hl2 : VLs us) :
    Calls Try.prog 27 #[.agg #[.int .i64 m, .slice a vs.length c], .agg #[.int .i64 m', .slice b us.length d]] w fun e w' => e = .returned (.bool (m == m' && sameVs (bodies vs) (bodies us))) ∧ Below w.heap.size w w' := by
  obtain ⟨W, hW⟩ : ∃ W, W = (w.alloc (.cells #[.int .i64 m, .slice a vs.length c] 51)).alloc (.cells #[.int .i64 m', .slice b us.length d] 51) := ⟨_, rfl⟩
  have BW : Hid (Below w.heap.size w W) := by
    show Below _ _ _
    rw [hW]; exact ((Below.refl _ _).alloc (Nat.le_refl _) _).alloc (by simp) _
  have HW : Hid (W = _) := hW
  clear hW
  have HC : Hid _ := equalVotes a b c d vs us W (h1.below BW.out) (h2.below BW.out) hn hm hl1 hl2
  clear h1 h2 hl1 hl2
  generalize sameVs (bodies vs) (bodies us) = T at HC ⊢
  cases hmm : (m == m') with
  | false =>
    go_enter Try.func27, Try.ntmps27
    go_wp2_with fail
    go_ret
    exact ⟨ret_bool rfl, by rw [← HW.out]; exact BW.out⟩
  | true =>
    go_enter Try.func27, Try.ntmps27
    go_wp2_with fail
    rw [← HW.out]
    refine Calls.mono HC.out ?_
    rintro e w1 ⟨rfl, b1⟩
    have B1 : Hid (Below w.heap.size w w1) := BW.out.trans (b1.mono BW.out.size)
    clear b1
    go_wp2_with fail
    go_ret
    exact ⟨ret_bool (by first | rfl | simp), B1.out⟩
end Go.Proofs.Ytmcpefikmcaemaa.Own

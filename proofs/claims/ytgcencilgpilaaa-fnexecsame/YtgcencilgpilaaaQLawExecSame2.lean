/-
  Own text: laws.FnExecSame.
-/
import Derived.Test.YtgcencilgpilaaaPk5
import Derived.Test.YtgcencilgpilaaaPk8
import Derived.Test.YtgcencilgpilaaaPk3
import Derived.Test.YtgcencilgpilaaaPk2
import Derived.BigQuiet
import Derived.Lib.QuietBelow
import Derived.Deep.Cut
namespace Go.Proofs.Ytgcencilgpilaaa.Own
open Go.RowKit Go.Sort
set_option linter.unusedVariables false
set_option linter.unusedSimpArgs false

theorem sameRun_comm (xs ys zs us : List P2) (v k v' k' : Int) : sameRun zs us xs ys v' k' v k = sameRun xs ys zs us v k v' k' := by
  unfold sameRun
  rw [Bool.eq_iff_iff]
  simp only [Bool.and_eq_true, beq_iff_eq]
  constructor <;> (rintro ⟨⟨⟨h1, h2⟩, h3⟩, h4⟩; exact ⟨⟨⟨h1.symm, h2.symm⟩, h3.symm⟩, h4.symm⟩)
theorem sameRun_self (xs ys : List P2) (v k : Int) : sameRun xs ys xs ys v k v k = true := by simp [sameRun]

set_option maxRecDepth 100000 in
set_option maxHeartbeats 4000000 in
theorem lawExecSame2 (a : Option Addr) (n c : Nat) (w : World) (h : Bytes w w.heap.size a n) (hc : n ≤ c) (hm : c ≤ maxLen) :
    Calls Try.prog 4 #[.slice a n c] w fun e w' => e = .returned (.bool true) ∧ Below w.heap.size w w' := by
  have HB : Hid (Bytes w w.heap.size a n) := h
  have HM : Hid (c ≤ maxLen) := hm
  clear h
  unfold maxLen at hm
  by_cases hn : n ≤ 1048576
  · have hd : decide ((1048576 : Int) < (n : Int)) = false := by simp; omega
    go_enter Try.func4, Try.ntmps4
    go_wp2_with fail
    refine (drawExecSame a n c w HB.out hc HM.out).mono ?_
    rintro e w1 ⟨a1, c1, xs, a2, c2, ys, v, k, b1, d1, zs, b2, d2, us, v', k', rfl, ⟨lo1, hi1, hr1⟩, ⟨lo2, hi2, hr2⟩, hb1⟩
    obtain ⟨W1, hW1⟩ : ∃ W, W = (w1.alloc (.cells #[Value.slice a1 xs.length c1, Value.slice a2 ys.length c2, Value.int IntKind.i64 v, Value.int IntKind.i64 k] 27)).alloc (.cells #[Value.slice b1 zs.length d1, Value.slice b2 us.length d2, Value.int IntKind.i64 v', Value.int IntKind.i64 k'] 27) := ⟨_, rfl⟩
    have k1 : Below w1.heap.size w1 W1 := by rw [hW1]; exact ((Below.refl _ _).alloc (Nat.le_refl _) _).alloc (by simp) _
    have B1 : Hid (Below w.heap.size w W1) := hb1.trans (k1.mono hb1.size)
    have GA : Hid (Blk W1 w1.heap.size #[Value.slice a1 xs.length c1, Value.slice a2 ys.length c2, Value.int IntKind.i64 v, Value.int IntKind.i64 k] 27) := by show Blk _ _ _ _; rw [hW1]; exact (Blk.new _ _ _).alloc _
    have GC : Hid (Blk W1 (w1.heap.size + 1) #[Value.slice b1 zs.length d1, Value.slice b2 us.length d2, Value.int IntKind.i64 v', Value.int IntKind.i64 k'] 27) := by show Blk _ _ _ _; rw [hW1]; exact Blk.new2 _ _ _ _
    have RA1 : Hid (RunS W1 lo1 hi1 a1 c1 xs a2 c2 ys) := hr1.below k1
    have RC1 : Hid (RunS W1 lo2 hi2 b1 d1 zs b2 d2 us) := hr2.below k1
    have HW1 : Hid (W1 = _) := hW1
    clear hW1 k1 hr1 hr2 hb1
    go_wp2_with fail
    rw [← HW1.out]
    refine (drawExecFresh a n c W1 (HB.out.belowE B1.out) hc HM.out).mono ?_
    rintro e w2 ⟨gb, bs, r1, f1, rs, r2, f2, ps, vv, kk, rfl, hbl, hat, ⟨lo3, hi3, hr3⟩, hb2⟩
    obtain ⟨X, hX⟩ : ∃ W, W = w2.alloc (.cells #[.slice r1 rs.length f1, .slice r2 ps.length f2, .int .i64 vv, .int .i64 kk] 27) := ⟨_, rfl⟩
    have kX : Below w2.heap.size w2 X := by rw [hX]; exact below_new _ _
    have BX1 : Below W1.heap.size W1 X := hb2.trans (kX.mono hb2.size)
    have BX : Hid (Below w.heap.size w X) := B1.out.trans (BX1.mono B1.out.size)
    have HA : Hid (Blk X w1.heap.size #[Value.slice a1 xs.length c1, Value.slice a2 ys.length c2, Value.int IntKind.i64 v, Value.int IntKind.i64 k] 27) := GA.out.keep BX1
    have HC : Hid (Blk X (w1.heap.size + 1) #[Value.slice b1 zs.length d1, Value.slice b2 us.length d2, Value.int IntKind.i64 v', Value.int IntKind.i64 k'] 27) := GC.out.keep BX1
    have HR : Hid (Blk X w2.heap.size #[.slice r1 rs.length f1, .slice r2 ps.length f2, .int .i64 vv, .int .i64 kk] 27) := by show Blk _ _ _ _; rw [hX]; exact Blk.new _ _ _
    have RA : Hid (RunS X lo1 hi1 a1 c1 xs a2 c2 ys) := RA1.out.below BX1
    have RC : Hid (RunS X lo2 hi2 b1 d1 zs b2 d2 us) := RC1.out.below BX1
    have RR : Hid (RunS X lo3 hi3 r1 f1 rs r2 f2 ps) := hr3.below kX
    have AT : Hid (BoxAt X gb 0 bs) := hat.below kX
    have HX : Hid (X = _) := hX
    clear hX kX BX1 hb2 hr3 hat
    go_upto_region 5 with fail
    rw [← HX.out]
    clear HX HW1 GA GC RA1 RC1 B1
    have Q1 : Hid (∀ d os, Calls Try.prog 24 #[Value.agg #[Value.slice a1 xs.length c1, Value.slice a2 ys.length c2, Value.int IntKind.i64 v, Value.int IntKind.i64 k], Value.agg #[Value.slice b1 zs.length d1, Value.slice b2 us.length d2, Value.int IntKind.i64 v', Value.int IntKind.i64 k']] (grow (redrawn X d) os) fun e w'' => e = .returned (.bool (sameRun xs ys zs us v k v' k')) ∧ ∃ p : Regrown, w'' = grow (redrawn X p.d) p.os) := fun d os => Calls.regrown_of (implExecSame a1 a2 b1 b2 c1 c2 d1 d2 xs ys zs us v k v' k' _ (RA.out.below (below_regrown X d os)).s1 (RA.out.below (below_regrown X d os)).s2 (RC.out.below (below_regrown X d os)).s1 (RC.out.below (below_regrown X d os)).s2 (by have := RA.out.l1; omega) (by have := RA.out.l2; omega) (by have := RC.out.l1; omega) (by have := RC.out.l2; omega))
    have Q2 : Hid (∀ d os, Calls Try.prog 25 #[Value.agg #[Value.slice a1 xs.length c1, Value.slice a2 ys.length c2, Value.int IntKind.i64 v, Value.int IntKind.i64 k], Value.agg #[Value.slice b1 zs.length d1, Value.slice b2 us.length d2, Value.int IntKind.i64 v', Value.int IntKind.i64 k']] (grow (redrawn X d) os) fun e w'' => e = .returned (.bool (sameRun xs ys zs us v k v' k')) ∧ ∃ p : Regrown, w'' = grow (redrawn X p.d) p.os) := fun d os => Calls.regrown_of (specExecSame a1 a2 b1 b2 c1 c2 d1 d2 xs ys zs us v k v' k' _ (RA.out.below (below_regrown X d os)).s1 (RA.out.below (below_regrown X d os)).s2 (RC.out.below (below_regrown X d os)).s1 (RC.out.below (below_regrown X d os)).s2 (by have := RA.out.l1; omega) (by have := RA.out.l2; omega) (by have := RC.out.l1; omega) (by have := RC.out.l2; omega))
    have Q3 : Hid (∀ d os, Calls Try.prog 24 #[Value.agg #[Value.slice a1 xs.length c1, Value.slice a2 ys.length c2, Value.int IntKind.i64 v, Value.int IntKind.i64 k], Value.agg #[Value.slice a1 xs.length c1, Value.slice a2 ys.length c2, Value.int IntKind.i64 v, Value.int IntKind.i64 k]] (grow (redrawn X d) os) fun e w'' => e = .returned (.bool true) ∧ ∃ p : Regrown, w'' = grow (redrawn X p.d) p.os) := fun d os => by
      have h := implExecSame a1 a2 a1 a2 c1 c2 c1 c2 xs ys xs ys v k v k _ (RA.out.below (below_regrown X d os)).s1 (RA.out.below (below_regrown X d os)).s2 (RA.out.below (below_regrown X d os)).s1 (RA.out.below (below_regrown X d os)).s2 (by have := RA.out.l1; omega) (by have := RA.out.l2; omega) (by have := RA.out.l1; omega) (by have := RA.out.l2; omega)
      rw [sameRun_self] at h
      exact Calls.regrown_of h
    have Q4 : Hid (∀ d os, Calls Try.prog 24 #[Value.agg #[Value.slice b1 zs.length d1, Value.slice b2 us.length d2, Value.int IntKind.i64 v', Value.int IntKind.i64 k'], Value.agg #[Value.slice a1 xs.length c1, Value.slice a2 ys.length c2, Value.int IntKind.i64 v, Value.int IntKind.i64 k]] (grow (redrawn X d) os) fun e w'' => e = .returned (.bool (sameRun xs ys zs us v k v' k')) ∧ ∃ p : Regrown, w'' = grow (redrawn X p.d) p.os) := fun d os => by
      have h := implExecSame b1 b2 a1 a2 d1 d2 c1 c2 zs us xs ys v' k' v k _ (RC.out.below (below_regrown X d os)).s1 (RC.out.below (below_regrown X d os)).s2 (RA.out.below (below_regrown X d os)).s1 (RA.out.below (below_regrown X d os)).s2 (by have := RC.out.l1; omega) (by have := RC.out.l2; omega) (by have := RA.out.l1; omega) (by have := RA.out.l2; omega)
      rw [sameRun_comm] at h
      exact Calls.regrown_of h
    generalize sameRun xs ys zs us v k v' k' = s at Q1 Q2 Q4
    have es : (s != s) = false := by simp
    obtain ⟨g0, g1, g2, g3⟩ := HA.out.cells4
    obtain ⟨h0, h1, h2, h3⟩ := HC.out.cells4
    have m0 := cell_regrown g0
    have m1 := cell_regrown g1
    have m2 := cell_regrown g2
    have m3 := cell_regrown g3
    have o0 := cell_regrown h0
    have o1 := cell_regrown h1
    have o2 := cell_regrown h2
    have o3 := cell_regrown h3
    clear g0 g1 g2 g3 h0 h1 h2 h3
    refine wp_region_quiet_below (by kernel_rfl) (by kernel_rfl) ?_
    repeat (go_big_quiet_step (first | (go_at_call_of 25 (#[Value.agg #[Value.slice a1 xs.length c1, Value.slice a2 ys.length c2, Value.int IntKind.i64 v, Value.int IntKind.i64 k], Value.agg #[Value.slice b1 zs.length d1, Value.slice b2 us.length d2, Value.int IntKind.i64 v', Value.int IntKind.i64 k']]); exact Q2.out _ _) | (go_at_call_of 24 (#[Value.agg #[Value.slice a1 xs.length c1, Value.slice a2 ys.length c2, Value.int IntKind.i64 v, Value.int IntKind.i64 k], Value.agg #[Value.slice b1 zs.length d1, Value.slice b2 us.length d2, Value.int IntKind.i64 v', Value.int IntKind.i64 k']]); exact Q1.out _ _) | (go_at_call_of 24 (#[Value.agg #[Value.slice a1 xs.length c1, Value.slice a2 ys.length c2, Value.int IntKind.i64 v, Value.int IntKind.i64 k], Value.agg #[Value.slice a1 xs.length c1, Value.slice a2 ys.length c2, Value.int IntKind.i64 v, Value.int IntKind.i64 k]]); exact Q3.out _ _) | (go_at_call_of 24 (#[Value.agg #[Value.slice b1 zs.length d1, Value.slice b2 us.length d2, Value.int IntKind.i64 v', Value.int IntKind.i64 k'], Value.agg #[Value.slice a1 xs.length c1, Value.slice a2 ys.length c2, Value.int IntKind.i64 v, Value.int IntKind.i64 k]]); exact Q4.out _ _)))
    refine wpQuiet_nil ?_
    intro Y hw'
    obtain ⟨⟨dq, osq⟩, hw''⟩ := hw'
    have hx : Below X.heap.size X Y := by rw [hw'']; exact below_regrown X dq osq
    have BY : Hid (Below w.heap.size w Y) := BX.out.trans (hx.mono BX.out.size)
    have RY : Hid (RunS Y lo3 hi3 r1 f1 rs r2 f2 ps) := RR.out.below hx
    have AY : Hid (BoxAt Y gb 0 bs) := AT.out.below hx
    have GY : Hid (Blk Y w2.heap.size #[.slice r1 rs.length f1, .slice r2 ps.length f2, .int .i64 vv, .int .i64 kk] 27) := HR.out.keep hx
    clear hx hw'' m0 m1 m2 m3 o0 o1 o2 o3 Q1 Q2 Q3 Q4 HA HC HR RA RC RR AT BX es
    obtain ⟨g0, g1, g2, g3⟩ := GY.out.cells4
    have IF : Hid (∀ W, Below Y.heap.size Y W → Calls Try.prog 18 #[.slice (some ⟨gb, 0, none⟩) bs.length 4, .agg #[.slice r1 rs.length f1, .slice r2 ps.length f2, .int .i64 vv, .int .i64 kk]] W fun e w' => e = .returned (.bool (execFresh bs rs ps vv kk)) ∧ Below W.heap.size W w') := fun W hb => implExecFresh _ 4 bs r1 r2 f1 f2 rs ps vv kk W (.inr ⟨gb, 0, rfl, AY.out.below hb⟩) hbl (RY.out.below hb).s1 (RY.out.below hb).s2 (by have := RY.out.l1; omega) (by have := RY.out.l2; omega)
    have SF : Hid (∀ W, Below Y.heap.size Y W → Calls Try.prog 19 #[.slice (some ⟨gb, 0, none⟩) bs.length 4, .agg #[.slice r1 rs.length f1, .slice r2 ps.length f2, .int .i64 vv, .int .i64 kk]] W fun e w' => e = .returned (.bool (execFresh bs rs ps vv kk)) ∧ Below W.heap.size W w') := fun W hb => specExecFresh _ 4 bs r1 r2 f1 f2 rs ps vv kk W (.inr ⟨gb, 0, rfl, AY.out.below hb⟩) (by omega) (RY.out.below hb).s1 (RY.out.below hb).s2 (by have := RY.out.l1; omega) (by have := RY.out.l2; omega) RY.out.k1 RY.out.k2
    have SO : Hid (∀ W, Below Y.heap.size Y W → Calls Try.prog 17 #[.agg #[.slice r1 rs.length f1, .slice r2 ps.length f2, .int .i64 vv, .int .i64 kk]] W fun e w' => e = .returned (.bool (execOk rs ps vv kk)) ∧ Below W.heap.size W w') := fun W hb => specExecOk r1 r2 f1 f2 rs ps vv kk W (RY.out.below hb).s1 (RY.out.below hb).s2 (by have := RY.out.l1; omega) (by have := RY.out.l2; omega) RY.out.k1 RY.out.k2
    have EF : Hid (execFresh bs rs ps vv kk = (boxOk bs && execOk rs ps vv kk && rs.all (freshAt bs))) := rfl
    have EB : Hid (boxOk bs = true → bs.length = 4) := boxOk_len
    have EO : Hid (execOk rs ps vv kk = true → okAll verOk rs = true) := execOk_reads
    generalize execFresh bs rs ps vv kk = f at IF SF EF
    generalize execOk rs ps vv kk = eo at SO EF EO
    have ef : (f != f) = false := by simp
    have ef' : (f == f) = true := by simp
    go_wp2_with fail
    refine Calls.mono (IF.out _ (Below.refl _ _)) ?_
    rintro e w3 ⟨rfl, b3⟩
    have K3 : Hid (Below Y.heap.size Y w3) := b3
    clear b3 g0 g1 g2 g3
    obtain ⟨g0, g1, g2, g3⟩ := (GY.out.keep K3.out).cells4
    go_wp2_with fail
    refine Calls.mono (SF.out _ K3.out) ?_
    rintro e w4 ⟨rfl, b4⟩
    have K4 : Hid (Below Y.heap.size Y w4) := K3.out.trans (b4.mono K3.out.size)
    clear b4 g0 g1 g2 g3
    obtain ⟨g0, g1, g2, g3⟩ := (GY.out.keep K4.out).cells4
    go_wp2_with fail
    refine (specOk (some ⟨gb, 0, none⟩) 4 bs w4 (.inr ⟨gb, 0, rfl, AY.out.below K4.out⟩) (by omega)).mono ?_
    rintro e w5 ⟨rfl, hw⟩
    subst hw
    cases hbo : boxOk bs with
    | false =>
      go_wp2_with fail
      refine Calls.mono (SF.out _ K4.out) ?_
      rintro e w6 ⟨rfl, b6⟩
      have B6 : Hid (Below w.heap.size w w6) := BY.out.trans ((K4.out.trans (b6.mono K4.out.size)).mono BY.out.size)
      clear b6
      go_wp2_with fail
      go_ret
      exact ⟨rfl, B6.out⟩
    | true =>
      have l4 : bs.length = 4 := EB.out hbo
      have L4 : Hid (bs.length = 4) := l4
      clear l4
      go_wp2_with fail
      refine Calls.mono (SO.out _ K4.out) ?_
      rintro e w6 ⟨rfl, b6⟩
      have K6 : Hid (Below Y.heap.size Y w6) := K4.out.trans (b6.mono K4.out.size)
      clear b6 g0 g1 g2 g3
      obtain ⟨g0, g1, g2, g3⟩ := (GY.out.keep K6.out).cells4
      cases eo with
      | false =>
        go_wp2_with fail
        refine Calls.mono (SF.out _ K6.out) ?_
        rintro e w7 ⟨rfl, b7⟩
        have B7 : Hid (Below w.heap.size w w7) := BY.out.trans ((K6.out.trans (b7.mono K6.out.size)).mono BY.out.size)
        clear b7
        go_wp2_with fail
        go_ret
        exact ⟨rfl, B7.out⟩
      | true =>
        have OR : Hid (okAll verOk rs = true) := EO.out rfl
        have EF2 : Hid (f = rs.all (freshAt bs)) := by show _ = _; rw [EF.out, hbo]; rfl
        clear EF EO EB SO SF IF g0 g1 g2 g3 hbo
        have lrs : rs.length ≤ 5 := RY.out.l1
        go_wp2_with fail
        go_loopw [8, 9] (fun al i wr => ∃ k : Nat, k ≤ rs.length ∧ i = .int .i64 k ∧ al = .bool ((rs.take k).all (freshAt bs)) ∧ Hid (Below Y.heap.size Y wr)) (fun _ i _ => rs.length - (intOf i).toNat)
        case atStart => exact ⟨0, Nat.zero_le _, rfl, by simp, K6⟩
        case round =>
          obtain ⟨q, hq, rfl, rfl, KR⟩ := hrel
          obtain ⟨g0, g1, g2, g3⟩ := (GY.out.keep KR.out).cells4
          by_cases hlt : q < rs.length
          · have hki : (q : Int) < (rs.length : Int) := by omega
            have NX : Hid ((rs.take (q + 1)).all (freshAt bs) = ((rs.take q).all (freshAt bs) && freshAt bs (rs.getD q (0, 0)))) := all_take_succ (0, 0) hlt
            obtain ⟨j, hj, ej⟩ := okAll_box OR.out q hlt
            rcases (RY.out.below KR.out).s1 with hh | ⟨b', o', rfl, hh⟩
            · rw [hh] at hlt; simp at hlt
            obtain ⟨c0, c1⟩ := hh.2 q hlt
            rw [ej] at c0
            have cv := ((AY.out.below KR.out).2 j (by rw [L4.out]; exact hj)).1
            rw [Nat.zero_add] at cv
            have FR : Hid (freshAt bs (rs.getD q (0, 0)) = ((bs.getD j (0, 0)).1 == (rs.getD q (0, 0)).2)) := by show _ = _; unfold freshAt; rw [ej]; simp
            have jl : (j : Int) < (bs.length : Int) := by rw [L4.out]; omega
            clear hh
            generalize (rs.getD q (0, 0)).2 = vr at c1 FR
            generalize (bs.getD j (0, 0)).1 = vb at cv FR
            generalize freshAt bs (rs.getD q (0, 0)) = fq at FR NX
            generalize (rs.take q).all (freshAt bs) = al at NX ⊢
            clear ej
            cases al with
            | false =>
              go_wp2_with fail
              go_quiet (fail)
              go_wp2_with fail
              go_roundw
              case rel => exact ⟨q + 1, by omega, by go_num, by rw [NX.out]; rfl, below_drewN KR.out _⟩
              case measure => simp [intOf]; omega
            | true =>
              go_wp2_with fail
              go_quiet (fail)
              go_wp2_with fail
              go_roundw
              case rel => exact ⟨q + 1, by omega, by go_num, by rw [NX.out, FR.out]; rfl, below_drewN KR.out _⟩
              case measure => simp [intOf]; omega
          · have hki : ¬ (q : Int) < (rs.length : Int) := by omega
            have TL : Hid ((rs.take q).all (freshAt bs) = f) := by show _ = _; rw [EF2.out, List.take_of_length_le (by omega)]
            rw [TL.out]
            have B7 : Hid (Below w.heap.size w wr) := BY.out.trans (KR.out.mono BY.out.size)
            go_wp2_with fail
            go_ret
            exact ⟨rfl, B7.out⟩
  · have hd : decide ((1048576 : Int) < (n : Int)) = true := by simp; omega
    go_enter Try.func4, Try.ntmps4
    go_wp2_with fail
    go_ret
    exact ⟨rfl, Below.refl _ _⟩
end Go.Proofs.Ytgcencilgpilaaa.Own

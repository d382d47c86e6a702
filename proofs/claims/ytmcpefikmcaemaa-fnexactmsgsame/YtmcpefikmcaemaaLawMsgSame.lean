/-
  Own text, by program (gen_same.py): laws.FnExactMsgSame.
-/
import Derived.Test.YtmcpefikmcaemaaMsgXS
import Derived.Test.YtmcpefikmcaemaaCells4
import Derived.Deep.Cut
import Derived.Deep.CutRange
namespace Go.Proofs.Ytmcpefikmcaemaa.Own
open Go.RowKit
set_option linter.unusedVariables false
set_option linter.unusedSimpArgs false

set_option maxRecDepth 100000 in
set_option maxHeartbeats 4000000 in
theorem lawMsgSameX (x y : MM) (w : World) (h1 : InM w x) (h2 : InM w y) :
    Calls Try.prog 4 #[.agg #[.int .i64 x.kind, .int .i64 x.src, .int .i64 x.dst, .int .i64 x.bal, .int .i64 x.slot, .bool x.b.n, .int .i64 x.b.p, .int .i64 x.b.q, .slice x.a1 x.b.xs.length x.c1, .slice x.a2 x.b.ys.length x.c2, .int .i64 x.b.v, .int .i64 x.b.k, .slice x.a x.vs.length x.c], .agg #[.int .i64 y.kind, .int .i64 y.src, .int .i64 y.dst, .int .i64 y.bal, .int .i64 y.slot, .bool y.b.n, .int .i64 y.b.p, .int .i64 y.b.q, .slice y.a1 y.b.xs.length y.c1, .slice y.a2 y.b.ys.length y.c2, .int .i64 y.b.v, .int .i64 y.b.k, .slice y.a y.vs.length y.c]] w fun e w' => e = .returned (.bool true) ∧ Below w.heap.size w w' := by
  have H1 : Hid (InM w x) := h1
  have H2 : Hid (InM w y) := h2
  clear h1 h2
  obtain ⟨W, hW⟩ : ∃ W, W = (w.alloc (.cells #[.int .i64 x.kind, .int .i64 x.src, .int .i64 x.dst, .int .i64 x.bal, .int .i64 x.slot, .bool x.b.n, .int .i64 x.b.p, .int .i64 x.b.q, .slice x.a1 x.b.xs.length x.c1, .slice x.a2 x.b.ys.length x.c2, .int .i64 x.b.v, .int .i64 x.b.k, .slice x.a x.vs.length x.c] 32)).alloc (.cells #[.int .i64 y.kind, .int .i64 y.src, .int .i64 y.dst, .int .i64 y.bal, .int .i64 y.slot, .bool y.b.n, .int .i64 y.b.p, .int .i64 y.b.q, .slice y.a1 y.b.xs.length y.c1, .slice y.a2 y.b.ys.length y.c2, .int .i64 y.b.v, .int .i64 y.b.k, .slice y.a y.vs.length y.c] 32) := ⟨_, rfl⟩
  have BW : Hid (Below w.heap.size w W) := by show Below _ _ _; rw [hW]; exact ((Below.refl _ _).alloc (Nat.le_refl _) _).alloc (by simp) _
  have P0 : Hid (Blk W w.heap.size #[.int .i64 x.kind, .int .i64 x.src, .int .i64 x.dst, .int .i64 x.bal, .int .i64 x.slot, .bool x.b.n, .int .i64 x.b.p, .int .i64 x.b.q, .slice x.a1 x.b.xs.length x.c1, .slice x.a2 x.b.ys.length x.c2, .int .i64 x.b.v, .int .i64 x.b.k, .slice x.a x.vs.length x.c] 32) := by show Blk _ _ _ _; rw [hW]; exact (Blk.new _ _ _).alloc _
  have P1 : Hid (Blk W (w.heap.size + 1) #[.int .i64 y.kind, .int .i64 y.src, .int .i64 y.dst, .int .i64 y.bal, .int .i64 y.slot, .bool y.b.n, .int .i64 y.b.p, .int .i64 y.b.q, .slice y.a1 y.b.xs.length y.c1, .slice y.a2 y.b.ys.length y.c2, .int .i64 y.b.v, .int .i64 y.b.k, .slice y.a y.vs.length y.c] 32) := by show Blk _ _ _ _; rw [hW]; exact Blk.new2 _ _ _ _
  have HW : Hid (W = _) := hW
  clear hW
  have AF : Hid (∀ w', Below W.heap.size W w' → Blk w' w.heap.size #[.int .i64 x.kind, .int .i64 x.src, .int .i64 x.dst, .int .i64 x.bal, .int .i64 x.slot, .bool x.b.n, .int .i64 x.b.p, .int .i64 x.b.q, .slice x.a1 x.b.xs.length x.c1, .slice x.a2 x.b.ys.length x.c2, .int .i64 x.b.v, .int .i64 x.b.k, .slice x.a x.vs.length x.c] 32 ∧ Blk w' (w.heap.size + 1) #[.int .i64 y.kind, .int .i64 y.src, .int .i64 y.dst, .int .i64 y.bal, .int .i64 y.slot, .bool y.b.n, .int .i64 y.b.p, .int .i64 y.b.q, .slice y.a1 y.b.xs.length y.c1, .slice y.a2 y.b.ys.length y.c2, .int .i64 y.b.v, .int .i64 y.b.k, .slice y.a y.vs.length y.c] 32 ∧ InM w' x ∧ InM w' y) :=
    fun w' hb => ⟨P0.out.keep hb, P1.out.keep hb, (H1.out.below BW.out).below hb, (H2.out.below BW.out).below hb⟩
  by_cases hn : x.sz ≤ 1048576
  · by_cases hn2 : x.sz + y.sz ≤ 1048576
    · have hs1 : Hid (x.sz ≤ 1048576) := hn
      have hs2 : Hid (y.sz ≤ 1048576) := by show _ ≤ _; omega
      have CZ1 := szM x 1048576 W (H1.out.below BW.out) (by decide) (by decide)
      rw [if_neg (by omega)] at CZ1
      have hpos : ¬ (1048576 : Int) - (x.sz : Int) < 0 := by omega
      have CZ2 : Hid (∀ w', InM w' y → Calls Try.prog 15 #[.agg #[.int .i64 y.kind, .int .i64 y.src, .int .i64 y.dst, .int .i64 y.bal, .int .i64 y.slot, .bool y.b.n, .int .i64 y.b.p, .int .i64 y.b.q, .slice y.a1 y.b.xs.length y.c1, .slice y.a2 y.b.ys.length y.c2, .int .i64 y.b.v, .int .i64 y.b.k, .slice y.a y.vs.length y.c], .int .i64 ((1048576 : Int) - (x.sz : Int))] w' fun e w'' => e = .returned (.int .i64 ((1048576 : Int) - (x.sz : Int) - (y.sz : Int))) ∧ Below w'.heap.size w' w'') := fun w' hy => by
        have h := szM y ((1048576 : Int) - (x.sz : Int)) w' hy (by omega) (by omega)
        rw [if_neg (by omega)] at h
        exact h
      have hpos2 : ¬ (1048576 : Int) - (x.sz : Int) - (y.sz : Int) < 0 := by omega
      generalize (1048576 : Int) - (x.sz : Int) = z1 at CZ1 CZ2 hpos hpos2
      generalize z1 - (y.sz : Int) = z2 at CZ2 hpos2
      have HZ1 : Hid _ := CZ1
      clear CZ1 hn hn2
      go_enter Try.func4, Try.ntmps4
      go_wp2_with fail
      rw [← HW.out]
      refine Calls.mono HZ1.out ?_
      rintro e w1 ⟨rfl, b1'⟩
      have B1 : Hid (Below W.heap.size W w1) := b1'
      clear b1'
      obtain ⟨r0, r1, r2, r3, r4, r5, r6, r7, r8, r9, r10, r11, r12⟩ := (AF.out w1 B1.out).2.1.cells13
      go_wp2_with fail
      refine (CZ2.out w1 (AF.out w1 B1.out).2.2.2).mono ?_
      rintro e w2 ⟨rfl, b2'⟩
      have B2 : Hid (Below W.heap.size W w2) := B1.out.trans (b2'.mono B1.out.size)
      clear b2' r0 r1 r2 r3 r4 r5 r6 r7 r8 r9 r10 r11 r12
      obtain ⟨q0, q1, q2, q3, q4, q5, q6, q7, q8, q9, q10, q11, q12⟩ := (AF.out w2 B2.out).1.cells13
      obtain ⟨r0, r1, r2, r3, r4, r5, r6, r7, r8, r9, r10, r11, r12⟩ := (AF.out w2 B2.out).2.1.cells13
      go_upto_region 8 with fail
      go_cut [6] from 20 to 24 (fun c wx => c = .bool (sameM x y) ∧ Below W.heap.size W wx)
      case first =>
        go_region_with (first | (go_at_call_of 17 (Value.agg #[.int .i64 x.kind, .int .i64 x.src, .int .i64 x.dst, .int .i64 x.bal, .int .i64 x.slot, .bool x.b.n, .int .i64 x.b.p, .int .i64 x.b.q, .slice x.a1 x.b.xs.length x.c1, .slice x.a2 x.b.ys.length x.c2, .int .i64 x.b.v, .int .i64 x.b.k, .slice x.a x.vs.length x.c]); refine (toM x _ ?_ hs1.out).mono ?_; exact (AF.out _ B2.out).2.2.1; rintro e w3 ⟨g1, rfl, own3, b3⟩; have K3 : Hid (Below W.heap.size W w3) := B2.out.trans (Below.trans ((Below.refl _ _).drew) (b3.mono B2.out.size)); obtain ⟨t0, t1, t2, t3, t4, t5, t6, t7, t8, t9, t10, t11, t12⟩ := (AF.out w3 K3.out).2.1.cells13; have R3 : Hid (OwnM w3 g1 x) := own3; clear b3 own3) | (go_at_call_of 17 (Value.agg #[.int .i64 y.kind, .int .i64 y.src, .int .i64 y.dst, .int .i64 y.bal, .int .i64 y.slot, .bool y.b.n, .int .i64 y.b.p, .int .i64 y.b.q, .slice y.a1 y.b.xs.length y.c1, .slice y.a2 y.b.ys.length y.c2, .int .i64 y.b.v, .int .i64 y.b.k, .slice y.a y.vs.length y.c]); refine (toM y _ ?_ hs2.out).mono ?_; exact (AF.out _ K3.out).2.2.2; rintro e w4 ⟨g2, rfl, own4, b4⟩; have K4 : Hid (Below W.heap.size W w4) := K3.out.trans (b4.mono K3.out.size); have R4 : Hid (OwnM w4 g2 y) := own4; have R5 : Hid (OwnM w4 g1 x) := R3.out.below b4; clear b4 own4) | (go_at_call 20; refine (specSameM x y _ _ _ R5.out R4.out hs1.out hs2.out).mono ?_; rintro e w5 ⟨rfl, b5⟩; have K5 : Hid (Below W.heap.size W w5) := K4.out.trans (b5.mono K4.out.size); clear b5))
        all_goals
          go_wp2_with fail
          go_meet
          exact ⟨rfl, K5.out⟩
      case rest =>
        obtain ⟨rfl, hB3⟩ := hcut
        have B3 : Hid (Below W.heap.size W wc) := hB3
        clear hB3 q0 q1 q2 q3 q4 q5 q6 q7 q8 q9 q10 q11 q12 r0 r1 r2 r3 r4 r5 r6 r7 r8 r9 r10 r11 r12
        obtain ⟨q0, q1, q2, q3, q4, q5, q6, q7, q8, q9, q10, q11, q12⟩ := (AF.out wc B3.out).1.cells13
        go_wp2_with fail
        refine (toM x wc (AF.out wc B3.out).2.2.1 hs1.out).mono ?_
        rintro e w3 ⟨g1, rfl, own3, b3⟩
        obtain ⟨X, hX⟩ : ∃ X, X = w3.alloc (.cells #[.int .i64 x.kind, .int .i64 x.src, .int .i64 x.dst, .int .i64 x.bal, .int .i64 x.slot, .bool x.b.n, .int .i64 x.b.p, .int .i64 x.b.q, .slice (some ⟨g1.1, 0, none⟩) x.b.xs.length x.b.xs.length, .slice (some ⟨g1.2.1, 0, none⟩) x.b.ys.length x.b.ys.length, .int .i64 x.b.v, .int .i64 x.b.k, .slice (some ⟨g1.2.2.1, 0, none⟩) x.vs.length x.vs.length] 44) := ⟨_, rfl⟩
        have BX : Hid (Below W.heap.size W X) := by
          show Below _ _ _
          have h := B3.out.trans (b3.mono B3.out.size)
          rw [hX]; exact h.alloc h.size _
        have RX : Hid (OwnM X g1 x) := by
          show OwnM _ _ _
          rw [hX]
          exact own3.below (below_new w3 _)
        have PX : Hid (Blk X w3.heap.size #[.int .i64 x.kind, .int .i64 x.src, .int .i64 x.dst, .int .i64 x.bal, .int .i64 x.slot, .bool x.b.n, .int .i64 x.b.p, .int .i64 x.b.q, .slice (some ⟨g1.1, 0, none⟩) x.b.xs.length x.b.xs.length, .slice (some ⟨g1.2.1, 0, none⟩) x.b.ys.length x.b.ys.length, .int .i64 x.b.v, .int .i64 x.b.k, .slice (some ⟨g1.2.2.1, 0, none⟩) x.vs.length x.vs.length] 44) := by show Blk _ _ _ _; rw [hX]; exact Blk.new _ _ _
        have HX : Hid (X = _) := hX
        clear hX own3 b3 q0 q1 q2 q3 q4 q5 q6 q7 q8 q9 q10 q11 q12
        obtain ⟨r0, r1, r2, r3, r4, r5, r6, r7, r8, r9, r10, r11, r12⟩ := (AF.out X BX.out).2.1.cells13
        go_upto_region 10 with fail
        rw [← HX.out]
        go_wp2_with fail
        refine (toM y X (AF.out X BX.out).2.2.2 hs2.out).mono ?_
        rintro e w4 ⟨g2, rfl, own4, b4⟩
        obtain ⟨Y, hY⟩ : ∃ Y, Y = w4.alloc (.cells #[.int .i64 y.kind, .int .i64 y.src, .int .i64 y.dst, .int .i64 y.bal, .int .i64 y.slot, .bool y.b.n, .int .i64 y.b.p, .int .i64 y.b.q, .slice (some ⟨g2.1, 0, none⟩) y.b.xs.length y.b.xs.length, .slice (some ⟨g2.2.1, 0, none⟩) y.b.ys.length y.b.ys.length, .int .i64 y.b.v, .int .i64 y.b.k, .slice (some ⟨g2.2.2.1, 0, none⟩) y.vs.length y.vs.length] 44) := ⟨_, rfl⟩
        have bY : Below X.heap.size X Y := by rw [hY]; exact b4.alloc b4.size _
        have BY : Hid (Below W.heap.size W Y) := BX.out.trans (bY.mono BX.out.size)
        have RY : Hid (OwnM Y g1 x) := RX.out.below bY
        have PY : Hid (Blk Y w3.heap.size #[.int .i64 x.kind, .int .i64 x.src, .int .i64 x.dst, .int .i64 x.bal, .int .i64 x.slot, .bool x.b.n, .int .i64 x.b.p, .int .i64 x.b.q, .slice (some ⟨g1.1, 0, none⟩) x.b.xs.length x.b.xs.length, .slice (some ⟨g1.2.1, 0, none⟩) x.b.ys.length x.b.ys.length, .int .i64 x.b.v, .int .i64 x.b.k, .slice (some ⟨g1.2.2.1, 0, none⟩) x.vs.length x.vs.length] 44) := PX.out.keep bY
        have SY : Hid (OwnM Y g2 y) := by
          show OwnM _ _ _
          rw [hY]
          exact own4.below (below_new w4 _)
        have QY : Hid (Blk Y w4.heap.size #[.int .i64 y.kind, .int .i64 y.src, .int .i64 y.dst, .int .i64 y.bal, .int .i64 y.slot, .bool y.b.n, .int .i64 y.b.p, .int .i64 y.b.q, .slice (some ⟨g2.1, 0, none⟩) y.b.xs.length y.b.xs.length, .slice (some ⟨g2.2.1, 0, none⟩) y.b.ys.length y.b.ys.length, .int .i64 y.b.v, .int .i64 y.b.k, .slice (some ⟨g2.2.2.1, 0, none⟩) y.vs.length y.vs.length] 44) := by show Blk _ _ _ _; rw [hY]; exact Blk.new _ _ _
        have HY : Hid (Y = _) := hY
        have GY : Hid (∀ w', Below Y.heap.size Y w' → Blk w' w3.heap.size #[.int .i64 x.kind, .int .i64 x.src, .int .i64 x.dst, .int .i64 x.bal, .int .i64 x.slot, .bool x.b.n, .int .i64 x.b.p, .int .i64 x.b.q, .slice (some ⟨g1.1, 0, none⟩) x.b.xs.length x.b.xs.length, .slice (some ⟨g1.2.1, 0, none⟩) x.b.ys.length x.b.ys.length, .int .i64 x.b.v, .int .i64 x.b.k, .slice (some ⟨g1.2.2.1, 0, none⟩) x.vs.length x.vs.length] 44 ∧ Blk w' w4.heap.size #[.int .i64 y.kind, .int .i64 y.src, .int .i64 y.dst, .int .i64 y.bal, .int .i64 y.slot, .bool y.b.n, .int .i64 y.b.p, .int .i64 y.b.q, .slice (some ⟨g2.1, 0, none⟩) y.b.xs.length y.b.xs.length, .slice (some ⟨g2.2.1, 0, none⟩) y.b.ys.length y.b.ys.length, .int .i64 y.b.v, .int .i64 y.b.k, .slice (some ⟨g2.2.2.1, 0, none⟩) y.vs.length y.vs.length] 44 ∧ OwnM w' g1 x ∧ OwnM w' g2 y) :=
          fun w' hb => ⟨PY.out.keep hb, QY.out.keep hb, RY.out.below hb, SY.out.below hb⟩
        clear hY own4 b4 r0 r1 r2 r3 r4 r5 r6 r7 r8 r9 r10 r11 r12 bY
        obtain ⟨s0, s1, s2, s3, s4, s5, s6, s7, s8, s9, s10, s11, s12⟩ := PY.out.cells13
        obtain ⟨t0, t1, t2, t3, t4, t5, t6, t7, t8, t9, t10, t11, t12⟩ := QY.out.cells13
        go_upto_region 11 with fail
        rw [← HY.out]
        go_wp2_with fail
        refine (implSameM x y _ _ Y RY.out SY.out hs1.out hs2.out).mono ?_
        rintro e w5 ⟨rfl, b5⟩
        have Y5 : Hid (Below Y.heap.size Y w5) := b5
        have B5 : Hid (Below W.heap.size W w5) := BY.out.trans (b5.mono BY.out.size)
        clear b5 s0 s1 s2 s3 s4 s5 s6 s7 s8 s9 s10 s11 s12 t0 t1 t2 t3 t4 t5 t6 t7 t8 t9 t10 t11 t12
        generalize sameM x y = ok
        have ho : (ok != ok) = false := by simp
        obtain ⟨s0, s1, s2, s3, s4, s5, s6, s7, s8, s9, s10, s11, s12⟩ := (GY.out w5 Y5.out).1.cells13
        obtain ⟨q0, q1, q2, q3, q4, q5, q6, q7, q8, q9, q10, q11, q12⟩ := (AF.out w5 B5.out).1.cells13
        go_upto_region 14 with fail
        go_cut [39] from 35 to 39 (fun c wx => c = .bool false ∧ Below w5.heap.size w5 wx)
        case first =>
          go_region_with (first | (go_at_call 17; refine (toM x _ ?_ hs1.out).mono ?_; exact (AF.out _ B5.out).2.2.1; rintro e w6 ⟨g3, rfl, own6, b6⟩; have K6 : Hid (Below w5.heap.size w5 w6) := Below.trans ((Below.refl _ _).drew) b6; have GG := GY.out w6 (Y5.out.trans (K6.out.mono Y5.out.size)); obtain ⟨y0, y1, y2, y3, y4, y5, y6, y7, y8, y9, y10, y11, y12⟩ := GG.1.cells13; have R7 : Hid (OwnM w6 g1 x) := GG.2.2.1; have S7 : Hid (OwnM w6 g3 x) := own6; clear b6 own6 GG) | (go_at_call 19; refine (eqM x _ _ _ R7.out S7.out hs1.out).mono ?_; rintro e w8 ⟨rfl, b8⟩; have K8 : Hid (Below w5.heap.size w5 w8) := K6.out.trans (b8.mono K6.out.size); clear b8))
          all_goals
            go_wp2_with fail
            go_meet
            exact ⟨rfl, K8.out⟩
        case rest =>
          obtain ⟨rfl, hB6⟩ := hcut
          have Y6 : Hid (Below Y.heap.size Y wc) := Y5.out.trans (hB6.mono Y5.out.size)
          have B6 : Hid (Below W.heap.size W wc) := B5.out.trans (hB6.mono B5.out.size)
          clear hB6 s0 s1 s2 s3 s4 s5 s6 s7 s8 s9 s10 s11 s12 q0 q1 q2 q3 q4 q5 q6 q7 q8 q9 q10 q11 q12
          obtain ⟨t0, t1, t2, t3, t4, t5, t6, t7, t8, t9, t10, t11, t12⟩ := (GY.out wc Y6.out).2.1.cells13
          obtain ⟨r0, r1, r2, r3, r4, r5, r6, r7, r8, r9, r10, r11, r12⟩ := (AF.out wc B6.out).2.1.cells13
          go_upto_region 16 with fail
          go_region_with (first | (go_at_call 17; refine (toM y _ ?_ hs2.out).mono ?_; exact (AF.out _ B6.out).2.2.2; rintro e w6 ⟨g3, rfl, own6, b6⟩; have K6 : Hid (Below wc.heap.size wc w6) := Below.trans ((Below.refl _ _).drew) b6; have GG := GY.out w6 (Y6.out.trans (K6.out.mono Y6.out.size)); obtain ⟨y0, y1, y2, y3, y4, y5, y6, y7, y8, y9, y10, y11, y12⟩ := GG.2.1.cells13; have R7 : Hid (OwnM w6 g2 y) := GG.2.2.2; have S7 : Hid (OwnM w6 g3 y) := own6; clear b6 own6 GG) | (go_at_call 19; refine (eqM y _ _ _ R7.out S7.out hs2.out).mono ?_; rintro e w8 ⟨rfl, b8⟩; have K8 : Hid (Below wc.heap.size wc w8) := K6.out.trans (b8.mono K6.out.size); clear b8))
          all_goals
            go_wp2_with fail
            go_ret
            exact ⟨rfl, BW.out.trans ((B6.out.trans (K8.out.mono B6.out.size)).mono BW.out.size)⟩
    · have CZ1 := szM x 1048576 W (H1.out.below BW.out) (by decide) (by decide)
      rw [if_neg (by omega)] at CZ1
      have hpos : ¬ (1048576 : Int) - (x.sz : Int) < 0 := by omega
      have CZ2 : Hid (∀ w', InM w' y → Calls Try.prog 15 #[.agg #[.int .i64 y.kind, .int .i64 y.src, .int .i64 y.dst, .int .i64 y.bal, .int .i64 y.slot, .bool y.b.n, .int .i64 y.b.p, .int .i64 y.b.q, .slice y.a1 y.b.xs.length y.c1, .slice y.a2 y.b.ys.length y.c2, .int .i64 y.b.v, .int .i64 y.b.k, .slice y.a y.vs.length y.c], .int .i64 ((1048576 : Int) - (x.sz : Int))] w' fun e w'' => e = .returned (.int .i64 (-1)) ∧ Below w'.heap.size w' w'') := fun w' hy => by
        have h := szM y ((1048576 : Int) - (x.sz : Int)) w' hy (by omega) (by omega)
        rw [if_pos (by omega)] at h
        exact h
      generalize (1048576 : Int) - (x.sz : Int) = z1 at CZ1 CZ2 hpos
      have HZ1 : Hid _ := CZ1
      clear CZ1 hn hn2
      go_enter Try.func4, Try.ntmps4
      go_wp2_with fail
      rw [← HW.out]
      refine Calls.mono HZ1.out ?_
      rintro e w1 ⟨rfl, b1'⟩
      have B1 : Hid (Below W.heap.size W w1) := b1'
      clear b1'
      obtain ⟨r0, r1, r2, r3, r4, r5, r6, r7, r8, r9, r10, r11, r12⟩ := (AF.out w1 B1.out).2.1.cells13
      go_wp2_with fail
      refine (CZ2.out w1 (AF.out w1 B1.out).2.2.2).mono ?_
      rintro e w2 ⟨rfl, b2'⟩
      have B2 : Hid (Below w.heap.size w w2) := BW.out.trans ((B1.out.trans (b2'.mono B1.out.size)).mono BW.out.size)
      clear b2'
      go_wp2_with fail
      go_ret
      exact ⟨rfl, B2.out⟩
  · have CZ1 := szM x 1048576 W (H1.out.below BW.out) (by decide) (by decide)
    rw [if_pos (by omega)] at CZ1
    have HZ1 : Hid _ := CZ1
    clear CZ1
    go_enter Try.func4, Try.ntmps4
    go_wp2_with fail
    rw [← HW.out]
    refine Calls.mono HZ1.out ?_
    rintro e w1 ⟨rfl, b1'⟩
    have B1 : Hid (Below w.heap.size w w1) := BW.out.trans (b1'.mono BW.out.size)
    clear b1'
    go_wp2_with fail
    go_ret
    exact ⟨rfl, B1.out⟩
end Go.Proofs.Ytmcpefikmcaemaa.Own

/-
  Own text, by program (gen_same.py): laws.FnExactAccSame.
-/
import Derived.Test.YtmcpefikmcaemaaAccXS
import Derived.Test.YtmcpefikmcaemaaCells4
import Derived.Deep.Cut
import Derived.Deep.CutRange
namespace Go.Proofs.Ytmcpefikmcaemaa.Own
open Go.RowKit
set_option linter.unusedVariables false
set_option linter.unusedSimpArgs false

set_option maxRecDepth 100000 in
set_option maxHeartbeats 4000000 in
theorem lawAccSameX (x y : AM) (w : World) (h1 : InA w x) (h2 : InA w y) :
    Calls Try.prog 11 #[.agg #[.int .i64 x.m, .slice x.a x.vs.length x.c], .agg #[.int .i64 y.m, .slice y.a y.vs.length y.c]] w fun e w' => e = .returned (.bool true) ∧ Below w.heap.size w w' := by
  have H1 : Hid (InA w x) := h1
  have H2 : Hid (InA w y) := h2
  clear h1 h2
  obtain ⟨W, hW⟩ : ∃ W, W = (w.alloc (.cells #[.int .i64 x.m, .slice x.a x.vs.length x.c] 74)).alloc (.cells #[.int .i64 y.m, .slice y.a y.vs.length y.c] 74) := ⟨_, rfl⟩
  have BW : Hid (Below w.heap.size w W) := by show Below _ _ _; rw [hW]; exact ((Below.refl _ _).alloc (Nat.le_refl _) _).alloc (by simp) _
  have P0 : Hid (Blk W w.heap.size #[.int .i64 x.m, .slice x.a x.vs.length x.c] 74) := by show Blk _ _ _ _; rw [hW]; exact (Blk.new _ _ _).alloc _
  have P1 : Hid (Blk W (w.heap.size + 1) #[.int .i64 y.m, .slice y.a y.vs.length y.c] 74) := by show Blk _ _ _ _; rw [hW]; exact Blk.new2 _ _ _ _
  have HW : Hid (W = _) := hW
  clear hW
  have AF : Hid (∀ w', Below W.heap.size W w' → Blk w' w.heap.size #[.int .i64 x.m, .slice x.a x.vs.length x.c] 74 ∧ Blk w' (w.heap.size + 1) #[.int .i64 y.m, .slice y.a y.vs.length y.c] 74 ∧ InA w' x ∧ InA w' y) :=
    fun w' hb => ⟨P0.out.keep hb, P1.out.keep hb, (H1.out.below BW.out).below hb, (H2.out.below BW.out).below hb⟩
  by_cases hn : x.sz ≤ 1048576
  · by_cases hn2 : x.sz + y.sz ≤ 1048576
    · have hs1 : Hid (x.sz ≤ 1048576) := hn
      have hs2 : Hid (y.sz ≤ 1048576) := by show _ ≤ _; omega
      have CZ1 := szA x 1048576 W (H1.out.below BW.out) (by decide) (by decide)
      rw [if_neg (by omega)] at CZ1
      have hpos : ¬ (1048576 : Int) - (x.sz : Int) < 0 := by omega
      have CZ2 : Hid (∀ w', InA w' y → Calls Try.prog 41 #[.agg #[.int .i64 y.m, .slice y.a y.vs.length y.c], .int .i64 ((1048576 : Int) - (x.sz : Int))] w' fun e w'' => e = .returned (.int .i64 ((1048576 : Int) - (x.sz : Int) - (y.sz : Int))) ∧ Below w'.heap.size w' w'') := fun w' hy => by
        have h := szA y ((1048576 : Int) - (x.sz : Int)) w' hy (by omega) (by omega)
        rw [if_neg (by omega)] at h
        exact h
      have hpos2 : ¬ (1048576 : Int) - (x.sz : Int) - (y.sz : Int) < 0 := by omega
      generalize (1048576 : Int) - (x.sz : Int) = z1 at CZ1 CZ2 hpos hpos2
      generalize z1 - (y.sz : Int) = z2 at CZ2 hpos2
      have HZ1 : Hid _ := CZ1
      clear CZ1 hn hn2
      go_enter Try.func11, Try.ntmps11
      go_wp2_with fail
      rw [← HW.out]
      refine Calls.mono HZ1.out ?_
      rintro e w1 ⟨rfl, b1'⟩
      have B1 : Hid (Below W.heap.size W w1) := b1'
      clear b1'
      obtain ⟨r0, r1⟩ := (AF.out w1 B1.out).2.1.cells2
      go_wp2_with fail
      refine (CZ2.out w1 (AF.out w1 B1.out).2.2.2).mono ?_
      rintro e w2 ⟨rfl, b2'⟩
      have B2 : Hid (Below W.heap.size W w2) := B1.out.trans (b2'.mono B1.out.size)
      clear b2' r0 r1
      obtain ⟨q0, q1⟩ := (AF.out w2 B2.out).1.cells2
      obtain ⟨r0, r1⟩ := (AF.out w2 B2.out).2.1.cells2
      go_upto_region 8 with fail
      go_cut [6] from 20 to 24 (fun c wx => c = .bool (sameA x y) ∧ Below W.heap.size W wx)
      case first =>
        go_region_with (first | (go_at_call_of 42 (Value.agg #[.int .i64 x.m, .slice x.a x.vs.length x.c]); refine (toA x _ ?_ hs1.out).mono ?_; exact (AF.out _ B2.out).2.2.1; rintro e w3 ⟨g1, rfl, own3, b3⟩; have K3 : Hid (Below W.heap.size W w3) := B2.out.trans (Below.trans ((Below.refl _ _).drew) (b3.mono B2.out.size)); obtain ⟨t0, t1⟩ := (AF.out w3 K3.out).2.1.cells2; have R3 : Hid (OwnA w3 g1 x) := own3; clear b3 own3) | (go_at_call_of 42 (Value.agg #[.int .i64 y.m, .slice y.a y.vs.length y.c]); refine (toA y _ ?_ hs2.out).mono ?_; exact (AF.out _ K3.out).2.2.2; rintro e w4 ⟨g2, rfl, own4, b4⟩; have K4 : Hid (Below W.heap.size W w4) := K3.out.trans (b4.mono K3.out.size); have R4 : Hid (OwnA w4 g2 y) := own4; have R5 : Hid (OwnA w4 g1 x) := R3.out.below b4; clear b4 own4) | (go_at_call 44; refine (specSameA x y _ _ _ R5.out R4.out hs1.out hs2.out).mono ?_; rintro e w5 ⟨rfl, b5⟩; have K5 : Hid (Below W.heap.size W w5) := K4.out.trans (b5.mono K4.out.size); clear b5))
        all_goals
          go_wp2_with fail
          go_meet
          exact ⟨rfl, K5.out⟩
      case rest =>
        obtain ⟨rfl, hB3⟩ := hcut
        have B3 : Hid (Below W.heap.size W wc) := hB3
        clear hB3 q0 q1 r0 r1
        obtain ⟨q0, q1⟩ := (AF.out wc B3.out).1.cells2
        go_wp2_with fail
        refine (toA x wc (AF.out wc B3.out).2.2.1 hs1.out).mono ?_
        rintro e w3 ⟨g1, rfl, own3, b3⟩
        obtain ⟨X, hX⟩ : ∃ X, X = w3.alloc (.cells #[.int .i64 x.m, .slice (some ⟨g1.1, 0, none⟩) x.vs.length x.vs.length] 51) := ⟨_, rfl⟩
        have BX : Hid (Below W.heap.size W X) := by
          show Below _ _ _
          have h := B3.out.trans (b3.mono B3.out.size)
          rw [hX]; exact h.alloc h.size _
        have RX : Hid (OwnA X g1 x) := by
          show OwnA _ _ _
          rw [hX]
          exact own3.below (below_new w3 _)
        have PX : Hid (Blk X w3.heap.size #[.int .i64 x.m, .slice (some ⟨g1.1, 0, none⟩) x.vs.length x.vs.length] 51) := by show Blk _ _ _ _; rw [hX]; exact Blk.new _ _ _
        have HX : Hid (X = _) := hX
        clear hX own3 b3 q0 q1
        obtain ⟨r0, r1⟩ := (AF.out X BX.out).2.1.cells2
        go_upto_region 10 with fail
        rw [← HX.out]
        go_wp2_with fail
        refine (toA y X (AF.out X BX.out).2.2.2 hs2.out).mono ?_
        rintro e w4 ⟨g2, rfl, own4, b4⟩
        obtain ⟨Y, hY⟩ : ∃ Y, Y = w4.alloc (.cells #[.int .i64 y.m, .slice (some ⟨g2.1, 0, none⟩) y.vs.length y.vs.length] 51) := ⟨_, rfl⟩
        have bY : Below X.heap.size X Y := by rw [hY]; exact b4.alloc b4.size _
        have BY : Hid (Below W.heap.size W Y) := BX.out.trans (bY.mono BX.out.size)
        have RY : Hid (OwnA Y g1 x) := RX.out.below bY
        have PY : Hid (Blk Y w3.heap.size #[.int .i64 x.m, .slice (some ⟨g1.1, 0, none⟩) x.vs.length x.vs.length] 51) := PX.out.keep bY
        have SY : Hid (OwnA Y g2 y) := by
          show OwnA _ _ _
          rw [hY]
          exact own4.below (below_new w4 _)
        have QY : Hid (Blk Y w4.heap.size #[.int .i64 y.m, .slice (some ⟨g2.1, 0, none⟩) y.vs.length y.vs.length] 51) := by show Blk _ _ _ _; rw [hY]; exact Blk.new _ _ _
        have HY : Hid (Y = _) := hY
        have GY : Hid (∀ w', Below Y.heap.size Y w' → Blk w' w3.heap.size #[.int .i64 x.m, .slice (some ⟨g1.1, 0, none⟩) x.vs.length x.vs.length] 51 ∧ Blk w' w4.heap.size #[.int .i64 y.m, .slice (some ⟨g2.1, 0, none⟩) y.vs.length y.vs.length] 51 ∧ OwnA w' g1 x ∧ OwnA w' g2 y) :=
          fun w' hb => ⟨PY.out.keep hb, QY.out.keep hb, RY.out.below hb, SY.out.below hb⟩
        clear hY own4 b4 r0 r1 bY
        obtain ⟨s0, s1⟩ := PY.out.cells2
        obtain ⟨t0, t1⟩ := QY.out.cells2
        go_upto_region 11 with fail
        rw [← HY.out]
        go_wp2_with fail
        refine (implSameA x y _ _ Y RY.out SY.out hs1.out hs2.out).mono ?_
        rintro e w5 ⟨rfl, b5⟩
        have Y5 : Hid (Below Y.heap.size Y w5) := b5
        have B5 : Hid (Below W.heap.size W w5) := BY.out.trans (b5.mono BY.out.size)
        clear b5 s0 s1 t0 t1
        generalize sameA x y = ok
        have ho : (ok != ok) = false := by simp
        obtain ⟨s0, s1⟩ := (GY.out w5 Y5.out).1.cells2
        obtain ⟨q0, q1⟩ := (AF.out w5 B5.out).1.cells2
        go_upto_region 14 with fail
        go_cut [39] from 35 to 39 (fun c wx => c = .bool false ∧ Below w5.heap.size w5 wx)
        case first =>
          go_region_with (first | (go_at_call 42; refine (toA x _ ?_ hs1.out).mono ?_; exact (AF.out _ B5.out).2.2.1; rintro e w6 ⟨g3, rfl, own6, b6⟩; have K6 : Hid (Below w5.heap.size w5 w6) := Below.trans ((Below.refl _ _).drew) b6; have GG := GY.out w6 (Y5.out.trans (K6.out.mono Y5.out.size)); obtain ⟨y0, y1⟩ := GG.1.cells2; have R7 : Hid (OwnA w6 g1 x) := GG.2.2.1; have S7 : Hid (OwnA w6 g3 x) := own6; clear b6 own6 GG) | (go_at_call 43; refine (eqA x _ _ _ R7.out S7.out hs1.out).mono ?_; rintro e w8 ⟨rfl, b8⟩; have K8 : Hid (Below w5.heap.size w5 w8) := K6.out.trans (b8.mono K6.out.size); clear b8))
          all_goals
            go_wp2_with fail
            go_meet
            exact ⟨rfl, K8.out⟩
        case rest =>
          obtain ⟨rfl, hB6⟩ := hcut
          have Y6 : Hid (Below Y.heap.size Y wc) := Y5.out.trans (hB6.mono Y5.out.size)
          have B6 : Hid (Below W.heap.size W wc) := B5.out.trans (hB6.mono B5.out.size)
          clear hB6 s0 s1 q0 q1
          obtain ⟨t0, t1⟩ := (GY.out wc Y6.out).2.1.cells2
          obtain ⟨r0, r1⟩ := (AF.out wc B6.out).2.1.cells2
          go_upto_region 16 with fail
          go_region_with (first | (go_at_call 42; refine (toA y _ ?_ hs2.out).mono ?_; exact (AF.out _ B6.out).2.2.2; rintro e w6 ⟨g3, rfl, own6, b6⟩; have K6 : Hid (Below wc.heap.size wc w6) := Below.trans ((Below.refl _ _).drew) b6; have GG := GY.out w6 (Y6.out.trans (K6.out.mono Y6.out.size)); obtain ⟨y0, y1⟩ := GG.2.1.cells2; have R7 : Hid (OwnA w6 g2 y) := GG.2.2.2; have S7 : Hid (OwnA w6 g3 y) := own6; clear b6 own6 GG) | (go_at_call 43; refine (eqA y _ _ _ R7.out S7.out hs2.out).mono ?_; rintro e w8 ⟨rfl, b8⟩; have K8 : Hid (Below wc.heap.size wc w8) := K6.out.trans (b8.mono K6.out.size); clear b8))
          all_goals
            go_wp2_with fail
            go_ret
            exact ⟨rfl, BW.out.trans ((B6.out.trans (K8.out.mono B6.out.size)).mono BW.out.size)⟩
    · have CZ1 := szA x 1048576 W (H1.out.below BW.out) (by decide) (by decide)
      rw [if_neg (by omega)] at CZ1
      have hpos : ¬ (1048576 : Int) - (x.sz : Int) < 0 := by omega
      have CZ2 : Hid (∀ w', InA w' y → Calls Try.prog 41 #[.agg #[.int .i64 y.m, .slice y.a y.vs.length y.c], .int .i64 ((1048576 : Int) - (x.sz : Int))] w' fun e w'' => e = .returned (.int .i64 (-1)) ∧ Below w'.heap.size w' w'') := fun w' hy => by
        have h := szA y ((1048576 : Int) - (x.sz : Int)) w' hy (by omega) (by omega)
        rw [if_pos (by omega)] at h
        exact h
      generalize (1048576 : Int) - (x.sz : Int) = z1 at CZ1 CZ2 hpos
      have HZ1 : Hid _ := CZ1
      clear CZ1 hn hn2
      go_enter Try.func11, Try.ntmps11
      go_wp2_with fail
      rw [← HW.out]
      refine Calls.mono HZ1.out ?_
      rintro e w1 ⟨rfl, b1'⟩
      have B1 : Hid (Below W.heap.size W w1) := b1'
      clear b1'
      obtain ⟨r0, r1⟩ := (AF.out w1 B1.out).2.1.cells2
      go_wp2_with fail
      refine (CZ2.out w1 (AF.out w1 B1.out).2.2.2).mono ?_
      rintro e w2 ⟨rfl, b2'⟩
      have B2 : Hid (Below w.heap.size w w2) := BW.out.trans ((B1.out.trans (b2'.mono B1.out.size)).mono BW.out.size)
      clear b2'
      go_wp2_with fail
      go_ret
      exact ⟨rfl, B2.out⟩
  · have CZ1 := szA x 1048576 W (H1.out.below BW.out) (by decide) (by decide)
    rw [if_pos (by omega)] at CZ1
    have HZ1 : Hid _ := CZ1
    clear CZ1
    go_enter Try.func11, Try.ntmps11
    go_wp2_with fail
    rw [← HW.out]
    refine Calls.mono HZ1.out ?_
    rintro e w1 ⟨rfl, b1'⟩
    have B1 : Hid (Below w.heap.size w w1) := BW.out.trans (b1'.mono BW.out.size)
    clear b1'
    go_wp2_with fail
    go_ret
    exact ⟨rfl, B1.out⟩
theorem lawAccSame (m : Int) (a : Option Addr) (c : Nat) (vs : List VM) (m' : Int) (b : Option Addr) (d : Nat) (us : List VM) (w : World) (h1 : SlV w a vs) (l1 : vs.length ≤ maxLen) (n1 : VM0 vs) (h2 : SlV w b us) (l2 : us.length ≤ maxLen) (n2 : VM0 us) :
    Calls Try.prog 11 #[.agg #[.int .i64 m, .slice a vs.length c], .agg #[.int .i64 m', .slice b us.length d]] w fun e w' => e = .returned (.bool true) ∧ Below w.heap.size w w' :=
  lawAccSameX ⟨m, a, c, vs⟩ ⟨m', b, d, us⟩ w ⟨h1, l1, n1⟩ ⟨h2, l2, n2⟩
end Go.Proofs.Ytmcpefikmcaemaa.Own

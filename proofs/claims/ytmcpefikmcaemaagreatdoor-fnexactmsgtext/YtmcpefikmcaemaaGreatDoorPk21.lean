/-
  Own texts, bundled: EntTextS, InsOkS.
-/
import Derived.Test.YtmcpefikmcaemaaGreatDoorPk6
import Derived.Test.YtmcpefikmcaemaaGreatDoorPk20
import Derived.BigQuiet
import Derived.Lib.QuietBelow
import Derived.Deep.Cut
import Derived.Test.YtmcpefikmcaemaaGreatDoorPk4
namespace Go.Proofs.YtmcpefikmcaemaaGreatDoor.Own
open Go.RowKit Go.Sort
set_option linter.unusedVariables false
set_option linter.unusedSimpArgs false

set_option maxRecDepth 100000 in
set_option maxHeartbeats 1000000 in
theorem specEntryNone (p q : Int) (a1 a2 : Option Addr) (n1 n2 c1 c2 : Nat) (v k : Int) (w : World) :
    Calls Tryz.prog 34 #[.agg #[.bool true, .int .i64 p, .int .i64 q, .slice a1 n1 c1, .slice a2 n2 c2, .int .i64 v, .int .i64 k]] w fun e w' => e = .returned (.string (str [110, 111, 110, 101])) ∧ Below w.heap.size w w' := by
  go_enter Tryz.func34, Tryz.ntmps34
  go_wp2_with fail
  go_ret
  exact ⟨rfl, (Below.refl _ _).alloc (Nat.le_refl _) _⟩

set_option maxRecDepth 100000 in
set_option maxHeartbeats 4000000 in
theorem specEntryRun (p q : Int) (a1 a2 : Option Addr) (c1 c2 : Nat) (xs ys : List P2) (v k : Int) (w : World) (h1 : Sl w a1 xs) (h2 : Sl w a2 ys) (hf : WfE ⟨false, p, q, xs, ys, v, k⟩) (lx : xs.length ≤ 2 ^ 30) (ly : ys.length ≤ 2 ^ 30) :
    Calls Tryz.prog 34 #[.agg #[.bool false, .int .i64 p, .int .i64 q, .slice a1 xs.length c1, .slice a2 ys.length c2, .int .i64 v, .int .i64 k]] w fun e w' => e = .returned (.string (str (entText ⟨false, p, q, xs, ys, v, k⟩))) ∧ Below w.heap.size w w' := by
  obtain ⟨fp, fq, wx, wy, fv, fk⟩ := hf
  have WX : Hid (WfP xs) := wx
  have WY : Hid (WfP ys) := wy
  have FV : Hid (Fits v ∧ Fits k) := ⟨fv, fk⟩
  simp only at fp fq
  have hl := head_len p q fp fq
  obtain ⟨L2, hL2⟩ : ∃ L2, L2 = pairsTo 63 47 (headText p q) xs xs.length := ⟨_, rfl⟩
  have M1 : Hid (∀ j, j ≤ xs.length → (pairsTo 63 47 (headText p q) xs j).length ≤ 2 ^ 43) := fun j hj => by have := pairsTo_len 63 47 (headText p q) xs wx j hj; omega
  have l2 : L2.length ≤ 44 + 44 * 2 ^ 30 := by rw [hL2]; have := pairsTo_len 63 47 (headText p q) xs wx _ (Nat.le_refl _); omega
  have M2 : Hid (∀ j, j ≤ ys.length → (pairsTo 33 61 L2 ys j).length ≤ 2 ^ 43) := fun j hj => by have := pairsTo_len 33 61 L2 ys wy j hj; omega
  have EF : Hid (entText ⟨false, p, q, xs, ys, v, k⟩ = pairsTo 33 61 L2 ys ys.length ++ (125 :: (Lib.itoa v ++ (58 :: Lib.itoa k)))) := by
    show _ = _
    rw [hL2]; rfl
  have EL2 : Hid (pairsTo 63 47 (headText p q) xs xs.length = L2) := hL2.symm
  generalize entText ⟨false, p, q, xs, ys, v, k⟩ = FIN at EF ⊢
  obtain ⟨W, hW⟩ : ∃ W, W = w.alloc (.cells #[.bool false, .int .i64 p, .int .i64 q, .slice a1 xs.length c1, .slice a2 ys.length c2, .int .i64 v, .int .i64 k] 30) := ⟨_, rfl⟩
  have BW : Hid (Below w.heap.size w W) := by show Below _ _ _; rw [hW]; exact (Below.refl _ _).alloc (Nat.le_refl _) _
  have G0 : Hid (Blk W w.heap.size #[.bool false, .int .i64 p, .int .i64 q, .slice a1 xs.length c1, .slice a2 ys.length c2, .int .i64 v, .int .i64 k] 30) := by show Blk _ _ _ _; rw [hW]; exact Blk.new _ _ _
  have HX : Hid (Sl W a1 xs) := h1.below BW.out
  have HY : Hid (Sl W a2 ys) := h2.below BW.out
  have HW : Hid (W = _) := hW
  clear hW h1 h2 wx wy fv fk hL2 l2 hl
  have K0 : Hid (Below W.heap.size W W) := Below.refl _ _
  obtain ⟨t1, e1⟩ : ∃ s, s = str (Lib.itoa p) := ⟨_, rfl⟩
  obtain ⟨t2, e2⟩ : ∃ s, s = str (Lib.itoa q) := ⟨_, rfl⟩
  have z1 : t1.size ≤ 21 := by rw [e1, str_size]; exact itoa_len p fp
  have z2 : t2.size ≤ 21 := by rw [e2, str_size]; exact itoa_len q fq
  have T1 : Hid (t1.data.toList = Lib.itoa p) := by show _ = _; rw [e1, str_list]
  have T2 : Hid (t2.data.toList = Lib.itoa q) := by show _ = _; rw [e2, str_list]
  have Q1 : Hid (∀ d os, Calls Tryz.prog 33 #[.int .i64 p] (grow (redrawn W d) os) fun e w'' => e = .returned (.string t1) ∧ ∃ p : Regrown, w'' = grow (redrawn W p.d) p.os) := fun d os => Calls.regrown_of (by rw [e1]; exact l15Dec p _ (fp).1 (fp).2)
  have Q2 : Hid (∀ d os, Calls Tryz.prog 33 #[.int .i64 q] (grow (redrawn W d) os) fun e w'' => e = .returned (.string t2) ∧ ∃ p : Regrown, w'' = grow (redrawn W p.d) p.os) := fun d os => Calls.regrown_of (by rw [e2]; exact l15Dec q _ (fq).1 (fq).2)
  clear e1 e2
  have n1 : ¬ 9223372036854775807 < t1.size + 1 := by omega
  have n2 : ¬ 9223372036854775807 < t1.size + 1 + t2.size := by omega
  have n3 : ¬ 9223372036854775807 < t1.size + 1 + t2.size + 1 := by omega
  obtain ⟨d0, d1, d2, d3, d4, d5, d6⟩ := G0.out.cells7
  have m0 := cell_regrown d0
  have m1 := cell_regrown d1
  have m2 := cell_regrown d2
  clear d1 d2 d3 d4 d5 d6
  go_enter Tryz.func34, Tryz.ntmps34
  go_upto_region 3 with fail
  rw [← HW.out]
  go_upto_region 3 with fail
  refine wp_region_quiet_below (by kernel_rfl) (by kernel_rfl) ?_
  repeat (go_big_quiet_step (first | (go_at_call_of 33 (Value.int IntKind.i64 p); exact Q1.out _ _) | (go_at_call_of 33 (Value.int IntKind.i64 q); exact Q2.out _ _)))
  refine wpQuiet_nil ?_
  intro Y hw'
  obtain ⟨⟨dq, osq⟩, hw''⟩ := hw'
  have KY : Hid (Below W.heap.size W Y) := by
    have hx : Below W.heap.size W Y := by rw [hw'']; exact below_regrown W dq osq
    exact K0.out.trans (hx.mono K0.out.size)
  clear hw''
  clear m0 m1 m2 d0
  go_wp2_with fail
  go_loopw [3, 4] (fun out i wr => ∃ (j : Nat) (s : ByteArray), j ≤ xs.length ∧ i = .int .i64 j ∧ out = .string s ∧ Hid (s.data.toList = pairsTo 63 47 (headText p q) xs j) ∧ Hid (Below W.heap.size W wr)) (fun _ i _ => xs.length - (intOf i).toNat)
  case atStart => exact ⟨0, _, Nat.zero_le _, rfl, rfl, by show _ = _; simp [list_append, T1.out, T2.out, pairsTo, headText], KY.out⟩
  case round =>
    obtain ⟨j, s, hj, rfl, rfl, SR, KR⟩ := hrel
    obtain ⟨d0, d1, d2, d3, d4, d5, d6⟩ := (G0.out.keep KR.out).cells7
    by_cases hlt : j < xs.length
    · have hji : (j : Int) < (xs.length : Int) := by omega
      have hsl : s.size ≤ 2 ^ 43 := by rw [← size_list, SR.out]; exact M1.out j hj
      rcases HX.out.below KR.out with hh | ⟨b1, o1, rfl, _, hh⟩
      · rw [hh] at hlt; simp at hlt
      obtain ⟨g0, g1⟩ := hh j hlt
      have FX := WX.out j hlt
      have NX : Hid (pairsTo 63 47 (headText p q) xs j ++ (63 :: (Lib.itoa (xs.getD j (0, 0)).1 ++ (47 :: Lib.itoa (xs.getD j (0, 0)).2))) = pairsTo 63 47 (headText p q) xs (j + 1)) := by show _ = _; simp [pairsTo, pairText]
      clear hh
      generalize xs.getD j (0, 0) = pr at g0 g1 FX NX
      obtain ⟨p1, p2⟩ := pr
      simp only at g0 g1 FX NX
      obtain ⟨t1, e1⟩ : ∃ s, s = str (Lib.itoa p1) := ⟨_, rfl⟩
      obtain ⟨t2, e2⟩ : ∃ s, s = str (Lib.itoa p2) := ⟨_, rfl⟩
      have z1 : t1.size ≤ 21 := by rw [e1, str_size]; exact itoa_len p1 FX.1
      have z2 : t2.size ≤ 21 := by rw [e2, str_size]; exact itoa_len p2 FX.2
      have T1 : Hid (t1.data.toList = Lib.itoa p1) := by show _ = _; rw [e1, str_list]
      have T2 : Hid (t2.data.toList = Lib.itoa p2) := by show _ = _; rw [e2, str_list]
      have Q1 : Hid (∀ d os, Calls Tryz.prog 33 #[.int .i64 p1] (grow (redrawn wr d) os) fun e w'' => e = .returned (.string t1) ∧ ∃ p : Regrown, w'' = grow (redrawn wr p.d) p.os) := fun d os => Calls.regrown_of (by rw [e1]; exact l15Dec p1 _ (FX.1).1 (FX.1).2)
      have Q2 : Hid (∀ d os, Calls Tryz.prog 33 #[.int .i64 p2] (grow (redrawn wr d) os) fun e w'' => e = .returned (.string t2) ∧ ∃ p : Regrown, w'' = grow (redrawn wr p.d) p.os) := fun d os => Calls.regrown_of (by rw [e2]; exact l15Dec p2 _ (FX.2).1 (FX.2).2)
      clear e1 e2
      have n0 : ¬ 9223372036854775807 < s.size + 1 := by omega
      have n1 : ¬ 9223372036854775807 < s.size + 1 + t1.size := by omega
      have n2 : ¬ 9223372036854775807 < s.size + 1 + t1.size + 1 := by omega
      have n3 : ¬ 9223372036854775807 < s.size + 1 + t1.size + 1 + t2.size := by omega
      have m3 := cell_regrown d3
      have r0 := cell_regrown g0
      have r1 := cell_regrown g1
      go_upto_region 7 with fail
      refine wp_region_quiet_below (by kernel_rfl) (by kernel_rfl) ?_
      repeat (go_big_quiet_step (first | (go_at_call_of 33 (Value.int IntKind.i64 p1); exact Q1.out _ _) | (go_at_call_of 33 (Value.int IntKind.i64 p2); exact Q2.out _ _)))
      refine wpQuiet_nil ?_
      intro Y hw'
      obtain ⟨⟨dq, osq⟩, hw''⟩ := hw'
      have KY : Hid (Below W.heap.size W Y) := by
        have hx : Below wr.heap.size wr Y := by rw [hw'']; exact below_regrown wr dq osq
        exact KR.out.trans (hx.mono KR.out.size)
      clear hw''
      clear m3 r0 r1 g0 g1 d0 d1 d2 d3 d4 d5 d6
      go_wp2_with fail
      go_roundw
      case rel => exact ⟨j + 1, _, by omega, by go_num, rfl, by show _ = _; rw [← NX.out]; simp [list_append, T1.out, T2.out, SR.out], KY.out⟩
      case measure => simp [intOf]; omega
    · have hji : ¬ (j : Int) < (xs.length : Int) := by omega
      obtain rfl : j = xs.length := by omega
      rw [EL2.out] at SR
      go_wp2_with fail
      clear d0 d1 d2 d3 d4 d5 d6
      go_loopw [3, 5] (fun out i wr => ∃ (j : Nat) (s : ByteArray), j ≤ ys.length ∧ i = .int .i64 j ∧ out = .string s ∧ Hid (s.data.toList = pairsTo 33 61 L2 ys j) ∧ Hid (Below W.heap.size W wr)) (fun _ i _ => ys.length - (intOf i).toNat)
      case atStart => exact ⟨0, _, Nat.zero_le _, rfl, rfl, by show _ = _; rw [SR.out]; rfl, KR.out⟩
      case round =>
        obtain ⟨j, s, hj, rfl, rfl, SR, KR⟩ := hrel
        obtain ⟨d0, d1, d2, d3, d4, d5, d6⟩ := (G0.out.keep KR.out).cells7
        by_cases hlt : j < ys.length
        · have hji : (j : Int) < (ys.length : Int) := by omega
          have hsl : s.size ≤ 2 ^ 43 := by rw [← size_list, SR.out]; exact M2.out j hj
          rcases HY.out.below KR.out with hh | ⟨b1, o1, rfl, _, hh⟩
          · rw [hh] at hlt; simp at hlt
          obtain ⟨g0, g1⟩ := hh j hlt
          have FX := WY.out j hlt
          have NX : Hid (pairsTo 33 61 L2 ys j ++ (33 :: (Lib.itoa (ys.getD j (0, 0)).1 ++ (61 :: Lib.itoa (ys.getD j (0, 0)).2))) = pairsTo 33 61 L2 ys (j + 1)) := by show _ = _; simp [pairsTo, pairText]
          clear hh
          generalize ys.getD j (0, 0) = pr at g0 g1 FX NX
          obtain ⟨p1, p2⟩ := pr
          simp only at g0 g1 FX NX
          obtain ⟨t1, e1⟩ : ∃ s, s = str (Lib.itoa p1) := ⟨_, rfl⟩
          obtain ⟨t2, e2⟩ : ∃ s, s = str (Lib.itoa p2) := ⟨_, rfl⟩
          have z1 : t1.size ≤ 21 := by rw [e1, str_size]; exact itoa_len p1 FX.1
          have z2 : t2.size ≤ 21 := by rw [e2, str_size]; exact itoa_len p2 FX.2
          have T1 : Hid (t1.data.toList = Lib.itoa p1) := by show _ = _; rw [e1, str_list]
          have T2 : Hid (t2.data.toList = Lib.itoa p2) := by show _ = _; rw [e2, str_list]
          have Q1 : Hid (∀ d os, Calls Tryz.prog 33 #[.int .i64 p1] (grow (redrawn wr d) os) fun e w'' => e = .returned (.string t1) ∧ ∃ p : Regrown, w'' = grow (redrawn wr p.d) p.os) := fun d os => Calls.regrown_of (by rw [e1]; exact l15Dec p1 _ (FX.1).1 (FX.1).2)
          have Q2 : Hid (∀ d os, Calls Tryz.prog 33 #[.int .i64 p2] (grow (redrawn wr d) os) fun e w'' => e = .returned (.string t2) ∧ ∃ p : Regrown, w'' = grow (redrawn wr p.d) p.os) := fun d os => Calls.regrown_of (by rw [e2]; exact l15Dec p2 _ (FX.2).1 (FX.2).2)
          clear e1 e2
          have n0 : ¬ 9223372036854775807 < s.size + 1 := by omega
          have n1 : ¬ 9223372036854775807 < s.size + 1 + t1.size := by omega
          have n2 : ¬ 9223372036854775807 < s.size + 1 + t1.size + 1 := by omega
          have n3 : ¬ 9223372036854775807 < s.size + 1 + t1.size + 1 + t2.size := by omega
          have m3 := cell_regrown d4
          have r0 := cell_regrown g0
          have r1 := cell_regrown g1
          go_upto_region 11 with fail
          refine wp_region_quiet_below (by kernel_rfl) (by kernel_rfl) ?_
          repeat (go_big_quiet_step (first | (go_at_call_of 33 (Value.int IntKind.i64 p1); exact Q1.out _ _) | (go_at_call_of 33 (Value.int IntKind.i64 p2); exact Q2.out _ _)))
          refine wpQuiet_nil ?_
          intro Y hw'
          obtain ⟨⟨dq, osq⟩, hw''⟩ := hw'
          have KY : Hid (Below W.heap.size W Y) := by
            have hx : Below wr.heap.size wr Y := by rw [hw'']; exact below_regrown wr dq osq
            exact KR.out.trans (hx.mono KR.out.size)
          clear hw''
          clear m3 r0 r1 g0 g1 d0 d1 d2 d3 d4 d5 d6
          go_wp2_with fail
          go_roundw
          case rel => exact ⟨j + 1, _, by omega, by go_num, rfl, by show _ = _; rw [← NX.out]; simp [list_append, T1.out, T2.out, SR.out], KY.out⟩
          case measure => simp [intOf]; omega
        · have hji : ¬ (j : Int) < (ys.length : Int) := by omega
          obtain rfl : j = ys.length := by omega
          have hsl : s.size ≤ 2 ^ 43 := by rw [← size_list, SR.out]; exact M2.out _ (Nat.le_refl _)
          obtain ⟨t1, e1⟩ : ∃ s, s = str (Lib.itoa v) := ⟨_, rfl⟩
          obtain ⟨t2, e2⟩ : ∃ s, s = str (Lib.itoa k) := ⟨_, rfl⟩
          have z1 : t1.size ≤ 21 := by rw [e1, str_size]; exact itoa_len v FV.out.1
          have z2 : t2.size ≤ 21 := by rw [e2, str_size]; exact itoa_len k FV.out.2
          have T1 : Hid (t1.data.toList = Lib.itoa v) := by show _ = _; rw [e1, str_list]
          have T2 : Hid (t2.data.toList = Lib.itoa k) := by show _ = _; rw [e2, str_list]
          have Q1 : Hid (∀ d os, Calls Tryz.prog 33 #[.int .i64 v] (grow (redrawn wr d) os) fun e w'' => e = .returned (.string t1) ∧ ∃ p : Regrown, w'' = grow (redrawn wr p.d) p.os) := fun d os => Calls.regrown_of (by rw [e1]; exact l15Dec v _ (FV.out.1).1 (FV.out.1).2)
          have Q2 : Hid (∀ d os, Calls Tryz.prog 33 #[.int .i64 k] (grow (redrawn wr d) os) fun e w'' => e = .returned (.string t2) ∧ ∃ p : Regrown, w'' = grow (redrawn wr p.d) p.os) := fun d os => Calls.regrown_of (by rw [e2]; exact l15Dec k _ (FV.out.2).1 (FV.out.2).2)
          clear e1 e2
          have n0 : ¬ 9223372036854775807 < s.size + 1 := by omega
          have n1 : ¬ 9223372036854775807 < s.size + 1 + t1.size := by omega
          have n2 : ¬ 9223372036854775807 < s.size + 1 + t1.size + 1 := by omega
          have n3 : ¬ 9223372036854775807 < s.size + 1 + t1.size + 1 + t2.size := by omega
          have m5 := cell_regrown d5
          have m6 := cell_regrown d6
          go_upto_region 12 with fail
          refine wp_region_quiet_below (by kernel_rfl) (by kernel_rfl) ?_
          repeat (go_big_quiet_step (first | (go_at_call_of 33 (Value.int IntKind.i64 v); exact Q1.out _ _) | (go_at_call_of 33 (Value.int IntKind.i64 k); exact Q2.out _ _)))
          refine wpQuiet_nil ?_
          intro Y hw'
          obtain ⟨⟨dq, osq⟩, hw''⟩ := hw'
          have KY : Hid (Below W.heap.size W Y) := by
            have hx : Below wr.heap.size wr Y := by rw [hw'']; exact below_regrown wr dq osq
            exact KR.out.trans (hx.mono KR.out.size)
          clear hw''
          clear m5 m6 d0 d1 d2 d3 d4 d5 d6
          go_wp2_with fail
          go_ret
          exact ⟨ret_str (str_eq (by rw [EF.out]; simp [list_append, T1.out, T2.out, SR.out])), BW.out.trans (KY.out.mono BW.out.size)⟩
theorem specMsgEntry (n : Bool) (p q : Int) (a1 a2 : Option Addr) (c1 c2 : Nat) (xs ys : List P2) (v k : Int) (w : World) (h1 : Sl w a1 xs) (h2 : Sl w a2 ys) (hf : WfE ⟨n, p, q, xs, ys, v, k⟩) (lx : xs.length ≤ 2 ^ 30) (ly : ys.length ≤ 2 ^ 30) :
    Calls Tryz.prog 34 #[.agg #[.bool n, .int .i64 p, .int .i64 q, .slice a1 xs.length c1, .slice a2 ys.length c2, .int .i64 v, .int .i64 k]] w fun e w' => e = .returned (.string (str (entText ⟨n, p, q, xs, ys, v, k⟩))) ∧ Below w.heap.size w w' := by
  cases n with
  | false => exact specEntryRun p q a1 a2 c1 c2 xs ys v k w h1 h2 hf lx ly
  | true => exact specEntryNone p q a1 a2 xs.length ys.length c1 c2 v k w
end Go.Proofs.YtmcpefikmcaemaaGreatDoor.Own

namespace Go.Proofs.YtmcpefikmcaemaaGreatDoor.Own
open Go.RowKit
set_option linter.unusedVariables false
set_option linter.unusedSimpArgs false

set_option maxHeartbeats 400000 in
theorem l2Reg (n : Int) (w : World) : Calls Tryz.prog 174 #[.int .i64 n] w fun e w' => e = .returned (.bool (regOk n)) ∧ w' = w := by
  have e : Hid (regOk n = (decide (0 ≤ n) && decide (n ≤ 3))) := rfl
  generalize regOk n = r at e ⊢
  by_cases h1 : 0 ≤ n
  · by_cases h2 : n < 4
    all_goals
      go_enter Tryz.func174, Tryz.ntmps174
      go_wp2
      go_ret
      exact ⟨ret_bool (by rw [e.out]; simp [h1]; omega), rfl⟩
  · have h1' : n < 0 := by omega
    go_enter Tryz.func174, Tryz.ntmps174
    go_wp2
    go_ret
    exact ⟨ret_bool (by rw [e.out]; simp; omega), rfl⟩

set_option maxHeartbeats 400000 in
theorem l2Box (n : Int) (w : World) : Calls Tryz.prog 126 #[.int .i64 n] w fun e w' => e = .returned (.bool (regOk n)) ∧ w' = w := by
  have e : Hid (regOk n = (decide (0 ≤ n) && decide (n ≤ 3))) := rfl
  generalize regOk n = r at e ⊢
  by_cases h1 : 0 ≤ n
  · by_cases h2 : n < 4
    all_goals
      go_enter Tryz.func126, Tryz.ntmps126
      go_wp2
      go_ret
      exact ⟨ret_bool (by rw [e.out]; simp [h1]; omega), rfl⟩
  · have h1' : n < 0 := by omega
    go_enter Tryz.func126, Tryz.ntmps126
    go_wp2
    go_ret
    exact ⟨ret_bool (by rw [e.out]; simp; omega), rfl⟩

set_option maxHeartbeats 400000 in
theorem l1Num2 (n : Int) (w : World) : Calls Tryz.prog 125 #[.int .i64 n] w fun e w' => e = .returned (.bool (numOk2 n)) ∧ w' = w := by
  have e : Hid (numOk2 n = (decide (-1000000 ≤ n) && decide (n ≤ 1000000))) := rfl
  generalize numOk2 n = r at e ⊢
  by_cases h1 : -1000000 ≤ n
  · by_cases h2 : n ≤ 1000000
    all_goals
      go_enter Tryz.func125, Tryz.ntmps125
      go_wp2
      go_ret
      exact ⟨ret_bool (by rw [e.out]; simp [h1, h2]), rfl⟩
  · have h1' : n < -1000000 := by omega
    go_enter Tryz.func125, Tryz.ntmps125
    go_wp2
    go_ret
    exact ⟨ret_bool (by rw [e.out]; simp; omega), rfl⟩

set_option maxRecDepth 100000 in
set_option maxHeartbeats 2000000 in
theorem l2Ins1 (a b n : Int) (w : World) : Calls Tryz.prog 167 #[.agg #[.int .i64 1, .int .i64 a, .int .i64 b, .int .i64 n]] w fun e w' => e = .returned (.bool (regOk a && regOk b && (n == 0))) ∧ Below w.heap.size w w' := by
  cases ha : regOk a with
  | false =>
    go_enter Tryz.func167, Tryz.ntmps167
    go_wp2_with (first | (go_at_call 174; refine (l2Reg _ _).mono ?_; rintro e w' ⟨rfl, rfl⟩) | (go_at_call 126; refine (l2Box _ _).mono ?_; rintro e w' ⟨rfl, rfl⟩) | (go_at_call 125; refine (l1Num2 _ _).mono ?_; rintro e w' ⟨rfl, rfl⟩))
    go_ret
    exact ⟨ret_bool (by simp), (Below.refl _ _).alloc (Nat.le_refl _) _⟩
  | true =>
    cases hb : regOk b with
    | false =>
      go_enter Tryz.func167, Tryz.ntmps167
      go_wp2_with (first | (go_at_call 174; refine (l2Reg _ _).mono ?_; rintro e w' ⟨rfl, rfl⟩) | (go_at_call 126; refine (l2Box _ _).mono ?_; rintro e w' ⟨rfl, rfl⟩) | (go_at_call 125; refine (l1Num2 _ _).mono ?_; rintro e w' ⟨rfl, rfl⟩))
      go_ret
      exact ⟨ret_bool (by simp), (Below.refl _ _).alloc (Nat.le_refl _) _⟩
    | true =>
      cases hn : (n == 0) with
      | false =>
        go_enter Tryz.func167, Tryz.ntmps167
        go_wp2_with (first | (go_at_call 174; refine (l2Reg _ _).mono ?_; rintro e w' ⟨rfl, rfl⟩) | (go_at_call 126; refine (l2Box _ _).mono ?_; rintro e w' ⟨rfl, rfl⟩) | (go_at_call 125; refine (l1Num2 _ _).mono ?_; rintro e w' ⟨rfl, rfl⟩))
        go_ret
        exact ⟨ret_bool (by simp), (Below.refl _ _).alloc (Nat.le_refl _) _⟩
      | true =>
        go_enter Tryz.func167, Tryz.ntmps167
        go_wp2_with (first | (go_at_call 174; refine (l2Reg _ _).mono ?_; rintro e w' ⟨rfl, rfl⟩) | (go_at_call 126; refine (l2Box _ _).mono ?_; rintro e w' ⟨rfl, rfl⟩) | (go_at_call 125; refine (l1Num2 _ _).mono ?_; rintro e w' ⟨rfl, rfl⟩))
        go_ret
        exact ⟨ret_bool (by simp), (Below.refl _ _).alloc (Nat.le_refl _) _⟩

set_option maxRecDepth 100000 in
set_option maxHeartbeats 2000000 in
theorem l2Ins2 (a b n : Int) (w : World) : Calls Tryz.prog 167 #[.agg #[.int .i64 2, .int .i64 a, .int .i64 b, .int .i64 n]] w fun e w' => e = .returned (.bool (regOk a && regOk b && (n == 0))) ∧ Below w.heap.size w w' := by
  cases ha : regOk a with
  | false =>
    go_enter Tryz.func167, Tryz.ntmps167
    go_wp2_with (first | (go_at_call 174; refine (l2Reg _ _).mono ?_; rintro e w' ⟨rfl, rfl⟩) | (go_at_call 126; refine (l2Box _ _).mono ?_; rintro e w' ⟨rfl, rfl⟩) | (go_at_call 125; refine (l1Num2 _ _).mono ?_; rintro e w' ⟨rfl, rfl⟩))
    go_ret
    exact ⟨ret_bool (by simp), (Below.refl _ _).alloc (Nat.le_refl _) _⟩
  | true =>
    cases hb : regOk b with
    | false =>
      go_enter Tryz.func167, Tryz.ntmps167
      go_wp2_with (first | (go_at_call 174; refine (l2Reg _ _).mono ?_; rintro e w' ⟨rfl, rfl⟩) | (go_at_call 126; refine (l2Box _ _).mono ?_; rintro e w' ⟨rfl, rfl⟩) | (go_at_call 125; refine (l1Num2 _ _).mono ?_; rintro e w' ⟨rfl, rfl⟩))
      go_ret
      exact ⟨ret_bool (by simp), (Below.refl _ _).alloc (Nat.le_refl _) _⟩
    | true =>
      cases hn : (n == 0) with
      | false =>
        go_enter Tryz.func167, Tryz.ntmps167
        go_wp2_with (first | (go_at_call 174; refine (l2Reg _ _).mono ?_; rintro e w' ⟨rfl, rfl⟩) | (go_at_call 126; refine (l2Box _ _).mono ?_; rintro e w' ⟨rfl, rfl⟩) | (go_at_call 125; refine (l1Num2 _ _).mono ?_; rintro e w' ⟨rfl, rfl⟩))
        go_ret
        exact ⟨ret_bool (by simp), (Below.refl _ _).alloc (Nat.le_refl _) _⟩
      | true =>
        go_enter Tryz.func167, Tryz.ntmps167
        go_wp2_with (first | (go_at_call 174; refine (l2Reg _ _).mono ?_; rintro e w' ⟨rfl, rfl⟩) | (go_at_call 126; refine (l2Box _ _).mono ?_; rintro e w' ⟨rfl, rfl⟩) | (go_at_call 125; refine (l1Num2 _ _).mono ?_; rintro e w' ⟨rfl, rfl⟩))
        go_ret
        exact ⟨ret_bool (by simp), (Below.refl _ _).alloc (Nat.le_refl _) _⟩

set_option maxRecDepth 100000 in
set_option maxHeartbeats 2000000 in
theorem l2Ins3 (a b n : Int) (w : World) : Calls Tryz.prog 167 #[.agg #[.int .i64 3, .int .i64 a, .int .i64 b, .int .i64 n]] w fun e w' => e = .returned (.bool (regOk a && (b == 0) && numOk2 n)) ∧ Below w.heap.size w w' := by
  cases ha : regOk a with
  | false =>
    go_enter Tryz.func167, Tryz.ntmps167
    go_wp2_with (first | (go_at_call 174; refine (l2Reg _ _).mono ?_; rintro e w' ⟨rfl, rfl⟩) | (go_at_call 126; refine (l2Box _ _).mono ?_; rintro e w' ⟨rfl, rfl⟩) | (go_at_call 125; refine (l1Num2 _ _).mono ?_; rintro e w' ⟨rfl, rfl⟩))
    go_ret
    exact ⟨ret_bool (by simp), (Below.refl _ _).alloc (Nat.le_refl _) _⟩
  | true =>
    cases hb : (b == 0) with
    | false =>
      go_enter Tryz.func167, Tryz.ntmps167
      go_wp2_with (first | (go_at_call 174; refine (l2Reg _ _).mono ?_; rintro e w' ⟨rfl, rfl⟩) | (go_at_call 126; refine (l2Box _ _).mono ?_; rintro e w' ⟨rfl, rfl⟩) | (go_at_call 125; refine (l1Num2 _ _).mono ?_; rintro e w' ⟨rfl, rfl⟩))
      go_ret
      exact ⟨ret_bool (by simp), (Below.refl _ _).alloc (Nat.le_refl _) _⟩
    | true =>
      cases hn : numOk2 n with
      | false =>
        go_enter Tryz.func167, Tryz.ntmps167
        go_wp2_with (first | (go_at_call 174; refine (l2Reg _ _).mono ?_; rintro e w' ⟨rfl, rfl⟩) | (go_at_call 126; refine (l2Box _ _).mono ?_; rintro e w' ⟨rfl, rfl⟩) | (go_at_call 125; refine (l1Num2 _ _).mono ?_; rintro e w' ⟨rfl, rfl⟩))
        go_ret
        exact ⟨ret_bool (by simp), (Below.refl _ _).alloc (Nat.le_refl _) _⟩
      | true =>
        go_enter Tryz.func167, Tryz.ntmps167
        go_wp2_with (first | (go_at_call 174; refine (l2Reg _ _).mono ?_; rintro e w' ⟨rfl, rfl⟩) | (go_at_call 126; refine (l2Box _ _).mono ?_; rintro e w' ⟨rfl, rfl⟩) | (go_at_call 125; refine (l1Num2 _ _).mono ?_; rintro e w' ⟨rfl, rfl⟩))
        go_ret
        exact ⟨ret_bool (by simp), (Below.refl _ _).alloc (Nat.le_refl _) _⟩

set_option maxRecDepth 100000 in
set_option maxHeartbeats 2000000 in
theorem l2Ins4 (a b n : Int) (w : World) : Calls Tryz.prog 167 #[.agg #[.int .i64 4, .int .i64 a, .int .i64 b, .int .i64 n]] w fun e w' => e = .returned (.bool (regOk a && regOk b && (n == 0))) ∧ Below w.heap.size w w' := by
  cases ha : regOk a with
  | false =>
    go_enter Tryz.func167, Tryz.ntmps167
    go_wp2_with (first | (go_at_call 174; refine (l2Reg _ _).mono ?_; rintro e w' ⟨rfl, rfl⟩) | (go_at_call 126; refine (l2Box _ _).mono ?_; rintro e w' ⟨rfl, rfl⟩) | (go_at_call 125; refine (l1Num2 _ _).mono ?_; rintro e w' ⟨rfl, rfl⟩))
    go_ret
    exact ⟨ret_bool (by simp), (Below.refl _ _).alloc (Nat.le_refl _) _⟩
  | true =>
    cases hb : regOk b with
    | false =>
      go_enter Tryz.func167, Tryz.ntmps167
      go_wp2_with (first | (go_at_call 174; refine (l2Reg _ _).mono ?_; rintro e w' ⟨rfl, rfl⟩) | (go_at_call 126; refine (l2Box _ _).mono ?_; rintro e w' ⟨rfl, rfl⟩) | (go_at_call 125; refine (l1Num2 _ _).mono ?_; rintro e w' ⟨rfl, rfl⟩))
      go_ret
      exact ⟨ret_bool (by simp), (Below.refl _ _).alloc (Nat.le_refl _) _⟩
    | true =>
      cases hn : (n == 0) with
      | false =>
        go_enter Tryz.func167, Tryz.ntmps167
        go_wp2_with (first | (go_at_call 174; refine (l2Reg _ _).mono ?_; rintro e w' ⟨rfl, rfl⟩) | (go_at_call 126; refine (l2Box _ _).mono ?_; rintro e w' ⟨rfl, rfl⟩) | (go_at_call 125; refine (l1Num2 _ _).mono ?_; rintro e w' ⟨rfl, rfl⟩))
        go_ret
        exact ⟨ret_bool (by simp), (Below.refl _ _).alloc (Nat.le_refl _) _⟩
      | true =>
        go_enter Tryz.func167, Tryz.ntmps167
        go_wp2_with (first | (go_at_call 174; refine (l2Reg _ _).mono ?_; rintro e w' ⟨rfl, rfl⟩) | (go_at_call 126; refine (l2Box _ _).mono ?_; rintro e w' ⟨rfl, rfl⟩) | (go_at_call 125; refine (l1Num2 _ _).mono ?_; rintro e w' ⟨rfl, rfl⟩))
        go_ret
        exact ⟨ret_bool (by simp), (Below.refl _ _).alloc (Nat.le_refl _) _⟩

set_option maxRecDepth 100000 in
set_option maxHeartbeats 2000000 in
theorem l2Ins5 (a b n : Int) (w : World) : Calls Tryz.prog 167 #[.agg #[.int .i64 5, .int .i64 a, .int .i64 b, .int .i64 n]] w fun e w' => e = .returned (.bool (regOk a && regOk b && (n == 0))) ∧ Below w.heap.size w w' := by
  cases ha : regOk a with
  | false =>
    go_enter Tryz.func167, Tryz.ntmps167
    go_wp2_with (first | (go_at_call 174; refine (l2Reg _ _).mono ?_; rintro e w' ⟨rfl, rfl⟩) | (go_at_call 126; refine (l2Box _ _).mono ?_; rintro e w' ⟨rfl, rfl⟩) | (go_at_call 125; refine (l1Num2 _ _).mono ?_; rintro e w' ⟨rfl, rfl⟩))
    go_ret
    exact ⟨ret_bool (by simp), (Below.refl _ _).alloc (Nat.le_refl _) _⟩
  | true =>
    cases hb : regOk b with
    | false =>
      go_enter Tryz.func167, Tryz.ntmps167
      go_wp2_with (first | (go_at_call 174; refine (l2Reg _ _).mono ?_; rintro e w' ⟨rfl, rfl⟩) | (go_at_call 126; refine (l2Box _ _).mono ?_; rintro e w' ⟨rfl, rfl⟩) | (go_at_call 125; refine (l1Num2 _ _).mono ?_; rintro e w' ⟨rfl, rfl⟩))
      go_ret
      exact ⟨ret_bool (by simp), (Below.refl _ _).alloc (Nat.le_refl _) _⟩
    | true =>
      cases hn : (n == 0) with
      | false =>
        go_enter Tryz.func167, Tryz.ntmps167
        go_wp2_with (first | (go_at_call 174; refine (l2Reg _ _).mono ?_; rintro e w' ⟨rfl, rfl⟩) | (go_at_call 126; refine (l2Box _ _).mono ?_; rintro e w' ⟨rfl, rfl⟩) | (go_at_call 125; refine (l1Num2 _ _).mono ?_; rintro e w' ⟨rfl, rfl⟩))
        go_ret
        exact ⟨ret_bool (by simp), (Below.refl _ _).alloc (Nat.le_refl _) _⟩
      | true =>
        go_enter Tryz.func167, Tryz.ntmps167
        go_wp2_with (first | (go_at_call 174; refine (l2Reg _ _).mono ?_; rintro e w' ⟨rfl, rfl⟩) | (go_at_call 126; refine (l2Box _ _).mono ?_; rintro e w' ⟨rfl, rfl⟩) | (go_at_call 125; refine (l1Num2 _ _).mono ?_; rintro e w' ⟨rfl, rfl⟩))
        go_ret
        exact ⟨ret_bool (by simp), (Below.refl _ _).alloc (Nat.le_refl _) _⟩

set_option maxRecDepth 100000 in
set_option maxHeartbeats 2000000 in
theorem l2Ins7 (a b n : Int) (w : World) : Calls Tryz.prog 167 #[.agg #[.int .i64 7, .int .i64 a, .int .i64 b, .int .i64 n]] w fun e w' => e = .returned (.bool ((a == 0) && (b == 0) && (n == 0))) ∧ Below w.heap.size w w' := by
  cases ha : (a == 0) with
  | false =>
    go_enter Tryz.func167, Tryz.ntmps167
    go_wp2_with (first | (go_at_call 174; refine (l2Reg _ _).mono ?_; rintro e w' ⟨rfl, rfl⟩) | (go_at_call 126; refine (l2Box _ _).mono ?_; rintro e w' ⟨rfl, rfl⟩) | (go_at_call 125; refine (l1Num2 _ _).mono ?_; rintro e w' ⟨rfl, rfl⟩))
    go_ret
    exact ⟨ret_bool (by simp), (Below.refl _ _).alloc (Nat.le_refl _) _⟩
  | true =>
    cases hb : (b == 0) with
    | false =>
      go_enter Tryz.func167, Tryz.ntmps167
      go_wp2_with (first | (go_at_call 174; refine (l2Reg _ _).mono ?_; rintro e w' ⟨rfl, rfl⟩) | (go_at_call 126; refine (l2Box _ _).mono ?_; rintro e w' ⟨rfl, rfl⟩) | (go_at_call 125; refine (l1Num2 _ _).mono ?_; rintro e w' ⟨rfl, rfl⟩))
      go_ret
      exact ⟨ret_bool (by simp), (Below.refl _ _).alloc (Nat.le_refl _) _⟩
    | true =>
      cases hn : (n == 0) with
      | false =>
        go_enter Tryz.func167, Tryz.ntmps167
        go_wp2_with (first | (go_at_call 174; refine (l2Reg _ _).mono ?_; rintro e w' ⟨rfl, rfl⟩) | (go_at_call 126; refine (l2Box _ _).mono ?_; rintro e w' ⟨rfl, rfl⟩) | (go_at_call 125; refine (l1Num2 _ _).mono ?_; rintro e w' ⟨rfl, rfl⟩))
        go_ret
        exact ⟨ret_bool (by simp), (Below.refl _ _).alloc (Nat.le_refl _) _⟩
      | true =>
        go_enter Tryz.func167, Tryz.ntmps167
        go_wp2_with (first | (go_at_call 174; refine (l2Reg _ _).mono ?_; rintro e w' ⟨rfl, rfl⟩) | (go_at_call 126; refine (l2Box _ _).mono ?_; rintro e w' ⟨rfl, rfl⟩) | (go_at_call 125; refine (l1Num2 _ _).mono ?_; rintro e w' ⟨rfl, rfl⟩))
        go_ret
        exact ⟨ret_bool (by simp), (Below.refl _ _).alloc (Nat.le_refl _) _⟩

set_option maxRecDepth 100000 in
set_option maxHeartbeats 2000000 in
theorem l2Ins6 (a b n : Int) (w : World) : Calls Tryz.prog 167 #[.agg #[.int .i64 6, .int .i64 a, .int .i64 b, .int .i64 n]] w fun e w' => e = .returned (.bool (regOk a && regOk b && lessOk n)) ∧ Below w.heap.size w w' := by
  cases ha : regOk a with
  | false =>
    go_enter Tryz.func167, Tryz.ntmps167
    go_wp2_with (first | (go_at_call 174; refine (l2Reg _ _).mono ?_; rintro e w' ⟨rfl, rfl⟩) | (go_at_call 126; refine (l2Box _ _).mono ?_; rintro e w' ⟨rfl, rfl⟩) | (go_at_call 125; refine (l1Num2 _ _).mono ?_; rintro e w' ⟨rfl, rfl⟩))
    go_ret
    exact ⟨ret_bool (by simp), (Below.refl _ _).alloc (Nat.le_refl _) _⟩
  | true =>
    cases hb : regOk b with
    | false =>
      go_enter Tryz.func167, Tryz.ntmps167
      go_wp2_with (first | (go_at_call 174; refine (l2Reg _ _).mono ?_; rintro e w' ⟨rfl, rfl⟩) | (go_at_call 126; refine (l2Box _ _).mono ?_; rintro e w' ⟨rfl, rfl⟩) | (go_at_call 125; refine (l1Num2 _ _).mono ?_; rintro e w' ⟨rfl, rfl⟩))
      go_ret
      exact ⟨ret_bool (by simp), (Below.refl _ _).alloc (Nat.le_refl _) _⟩
    | true =>
      have e : Hid (lessOk n = (decide (1 ≤ n) && decide (n ≤ 10))) := rfl
      generalize lessOk n = r at e ⊢
      by_cases h1 : 1 ≤ n
      · by_cases h2 : n ≤ 10
        all_goals
          go_enter Tryz.func167, Tryz.ntmps167
          go_wp2_with (first | (go_at_call 174; refine (l2Reg _ _).mono ?_; rintro e w' ⟨rfl, rfl⟩) | (go_at_call 126; refine (l2Box _ _).mono ?_; rintro e w' ⟨rfl, rfl⟩) | (go_at_call 125; refine (l1Num2 _ _).mono ?_; rintro e w' ⟨rfl, rfl⟩))
          go_ret
          exact ⟨ret_bool (by rw [e.out]; simp [h1, h2]), (Below.refl _ _).alloc (Nat.le_refl _) _⟩
      · have h1' : n < 1 := by omega
        have h1'' : decide (1 ≤ n) = false := by simpa using h1
        go_enter Tryz.func167, Tryz.ntmps167
        go_wp2_with (first | (go_at_call 174; refine (l2Reg _ _).mono ?_; rintro e w' ⟨rfl, rfl⟩) | (go_at_call 126; refine (l2Box _ _).mono ?_; rintro e w' ⟨rfl, rfl⟩) | (go_at_call 125; refine (l1Num2 _ _).mono ?_; rintro e w' ⟨rfl, rfl⟩))
        go_ret
        exact ⟨ret_bool (by rw [e.out, h1'']; rfl), (Below.refl _ _).alloc (Nat.le_refl _) _⟩

/-- A kind that there is not. -/
def NoKindS (k : Int) : Prop := (k == 1) = false ∧ (k == 2) = false ∧ (k == 3) = false ∧ (k == 4) = false ∧ (k == 5) = false ∧ (k == 6) = false ∧ (k == 7) = false
theorem noKindS_of {k : Int} (h1 : k ≠ 1) (h2 : k ≠ 2) (h3 : k ≠ 3) (h4 : k ≠ 4) (h5 : k ≠ 5) (h6 : k ≠ 6) (h7 : k ≠ 7) : NoKindS k := by
  simp [NoKindS, h1, h2, h3, h4, h5, h6, h7]

set_option maxRecDepth 100000 in
set_option maxHeartbeats 2000000 in
theorem l2InsNo (k a b n : Int) (w : World) (h : NoKindS k) : Calls Tryz.prog 167 #[.agg #[.int .i64 k, .int .i64 a, .int .i64 b, .int .i64 n]] w fun e w' => e = .returned (.bool false) ∧ Below w.heap.size w w' := by
  obtain ⟨h1, h2, h3, h4, h5, h6, h7⟩ := h
  go_enter Tryz.func167, Tryz.ntmps167
  go_wp2
  go_ret
  exact ⟨rfl, (Below.refl _ _).alloc (Nat.le_refl _) _⟩

theorem l2Ins (p : Q4) (w : World) : Calls Tryz.prog 167 #[.agg #[.int .i64 p.1, .int .i64 p.2.1, .int .i64 p.2.2.1, .int .i64 p.2.2.2]] w fun e w' => e = .returned (.bool (insOk p)) ∧ Below w.heap.size w w' := by
  obtain ⟨k, a, b, n⟩ := p
  by_cases h1 : k = 1
  · subst h1; rw [insOk_1]; exact l2Ins1 a b n w
  by_cases h2 : k = 2
  · subst h2; rw [insOk_2]; exact l2Ins2 a b n w
  by_cases h3 : k = 3
  · subst h3; rw [insOk_3]; exact l2Ins3 a b n w
  by_cases h4 : k = 4
  · subst h4; rw [insOk_4]; exact l2Ins4 a b n w
  by_cases h5 : k = 5
  · subst h5; rw [insOk_5]; exact l2Ins5 a b n w
  by_cases h6 : k = 6
  · subst h6; rw [insOk_6]; exact l2Ins6 a b n w
  by_cases h7 : k = 7
  · subst h7; rw [insOk_7]; exact l2Ins7 a b n w
  · rw [insOk_no a b n ⟨h1, h2, h3, h4, h5, h6, h7⟩]
    exact l2InsNo k a b n w (noKindS_of h1 h2 h3 h4 h5 h6 h7)
end Go.Proofs.YtmcpefikmcaemaaGreatDoor.Own

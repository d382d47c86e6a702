/-
  Own texts, bundled: Dec, EntTextS, InsBoxS, ExecOkS, ExecOkS2, ExecOkS3.
-/
import Derived.Test.YtildonpdmmliaaaGreatDoorPk1
import Derived.Lib.ItoaNum
import Derived.Lib.ItoaLen
import Derived.Laws.IdiomStrings
import Derived.Laws.BytesString
import Derived.Laws.Concat
import Derived.Test.YtildonpdmmliaaaGreatDoorPk3
import Derived.BigQuiet
import Derived.Lib.QuietBelow
import Derived.Deep.Cut
import Derived.Test.YtildonpdmmliaaaGreatDoorPk2
import Derived.Deep.QuietTactic
import Derived.Deep.CutRange
namespace Go.Proofs.YtildonpdmmliaaaGreatDoor.Own
open Go.RowKit

theorem conv1 (d : Nat) (hd : d < 10) (W : World) : ∃ t : ByteArray, (convert 60 9 (.slice (some ⟨W.heap.size, 0, none⟩) 1 1)).run Tryz.prog (W.alloc (.cells #[.int .u8 (48 + (d : Int))] 5)) = .ok (.string t) (W.alloc (.cells #[.int .u8 (48 + (d : Int))] 5)) ∧ t.size = 1 ∧ Hid (t.data.toList = [UInt8.ofNat (48 + d)]) := by
  refine ⟨str [UInt8.ofNat (48 + d)], ?_, rfl, rfl⟩
  refine run_convert_bytes_back (P := Tryz.prog) _ 60 9 5 ⟨W.heap.size, 0, none⟩ 1 [UInt8.ofNat (48 + d)] Tryz.underlying60 Tryz.underlying5 Tryz.underlying9 ?_
  intro j hj
  simp at hj
  subst hj
  have e2 : (⟨W.heap.size, 0, none⟩ : Addr).add 0 = ⟨W.heap.size, 0, none⟩ := by simp [Addr.add]
  rw [e2, cell_heap (heap_new _ _)]
  simp
  omega

set_option maxRecDepth 100000 in
set_option maxHeartbeats 1000000 in
theorem decPos (N : Nat) (w : World) (hN : N < 9223372036854775808) :
    Calls Tryz.prog 13 #[.int .i64 N] w fun e w' => e = .returned (.string (str (Lib.decDigits N))) ∧ Below w.heap.size w w' := by
  have HL : Hid ((Lib.decDigits N).length ≤ 20) := by
    show _ ≤ _
    rw [Lib.decDigits_length]; exact Lib.nDigits_le20 N (by omega)
  go_enter Tryz.func13, Tryz.ntmps13
  go_wp2
  go_loopw [0, 3] (fun n out wr => ∃ (m : Nat) (s : ByteArray), m ≤ N ∧ n = .int .i64 m ∧ out = .string s ∧ Hid (Lib.decDigits N = Lib.decDigits m ++ s.data.toList) ∧ Below w.heap.size w wr) (fun n _ _ => (intOf n).toNat)
  case atStart => exact ⟨N, ⟨#[]⟩, Nat.le_refl _, rfl, rfl, by show _ = _; simp, Below.refl _ _⟩
  case round =>
    obtain ⟨m, s, hm, rfl, rfl, hd, hB⟩ := hrel
    have hs : s.size ≤ 20 := by
      have h1 := HL.out
      rw [hd.out, List.length_append, size_list] at h1
      omega
    by_cases h9 : 9 < m
    · obtain ⟨d, e1, l1, e1'⟩ : ∃ d : Nat, (m : Int) % 10 = d ∧ d < 10 ∧ d = m % 10 := ⟨m % 10, by simp, Nat.mod_lt _ (by omega), rfl⟩
      obtain ⟨q, e2, e2'⟩ : ∃ q : Nat, (m : Int) / 10 = q ∧ q = m / 10 := ⟨m / 10, by simp, rfl⟩
      have E1 : Hid (d = m % 10) := e1'
      have E2 : Hid (q = m / 10) := e2'
      have hq : q < m := by omega
      clear e1' e2'
      obtain ⟨t, hcv, hts, HT⟩ := conv1 d l1 wr
      go_wp2
      go_roundw
      case rel =>
        refine ⟨q, _, by omega, rfl, rfl, ?_, hB.alloc hB.size _⟩
        show _ = _
        rw [hd.out, dec_step m (by omega), list_append, HT.out, ← E1.out, ← E2.out]
        rfl
      case measure => simp [intOf]; omega
    · obtain ⟨t, hcv, hts, HT⟩ := conv1 m (by omega) wr
      go_wp2
      go_ret
      refine ⟨ret_str (str_eq ?_), hB.alloc hB.size _⟩
      rw [hd.out, list_append, HT.out, Lib.decDigits_one (by omega)]

set_option maxRecDepth 100000 in
set_option maxHeartbeats 1000000 in
theorem l15Dec (n : Int) (w : World) (h0 : -9223372036854775808 ≤ n) (h1 : n ≤ 9223372036854775807) :
    Calls Tryz.prog 13 #[.int .i64 n] w fun e w' => e = .returned (.string (str (Lib.itoa n))) ∧ Below w.heap.size w w' := by
  by_cases hneg : n < 0
  · by_cases hmin : n < -9223372036854775807
    · have hE : Hid (str (Lib.itoa n) = ⟨#[45, 57, 50, 50, 51, 51, 55, 50, 48, 51, 54, 56, 53, 52, 55, 55, 53, 56, 48, 56]⟩) := by
        have : n = -9223372036854775808 := by omega
        show _ = _
        rw [this]
        decide +kernel
      go_enter Tryz.func13, Tryz.ntmps13
      go_wp2
      go_ret
      exact ⟨ret_str hE.out.symm, Below.refl _ _⟩
    · obtain ⟨m, hm⟩ : ∃ m : Nat, -n = m := ⟨n.natAbs, by omega⟩
      have hE : Hid (Lib.itoa n = 45 :: Lib.decDigits m) := by
        show _ = _
        rw [itoa_neg' n hneg]
        congr 2; omega
      have hml : m < 9223372036854775808 := by omega
      obtain ⟨t, ht⟩ : ∃ t, t = str (Lib.decDigits m) := ⟨_, rfl⟩
      have hts : t.size ≤ 20 := by rw [ht, str_size, Lib.decDigits_length]; exact Lib.nDigits_le20 m (by omega)
      have HT : Hid (t = str (Lib.decDigits m)) := ht
      clear ht
      go_enter Tryz.func13, Tryz.ntmps13
      go_wp2_with fail
      refine (decPos m _ hml).mono ?_
      rintro e w1 ⟨rfl, hb⟩
      rw [← HT.out]
      have HB : Hid (Below w.heap.size w w1) := hb
      clear hb
      go_wp2
      go_ret
      refine ⟨ret_str ?_, HB.out⟩
      rw [HT.out, hE.out]
      exact str_append [45] _
  · obtain ⟨m, rfl⟩ := Int.eq_ofNat_of_zero_le (by omega : 0 ≤ n)
    rw [itoa_pos' _ hneg]
    simpa using decPos m w (by omega)
end Go.Proofs.YtildonpdmmliaaaGreatDoor.Own

namespace Go.Proofs.YtildonpdmmliaaaGreatDoor.Own
open Go.RowKit Go.Sort
set_option linter.unusedVariables false
set_option linter.unusedSimpArgs false

set_option maxRecDepth 100000 in
set_option maxHeartbeats 1000000 in
theorem specEntryNone (p q : Int) (a1 a2 : Option Addr) (n1 n2 c1 c2 : Nat) (v k : Int) (w : World) :
    Calls Tryz.prog 14 #[.agg #[.bool true, .int .i64 p, .int .i64 q, .slice a1 n1 c1, .slice a2 n2 c2, .int .i64 v, .int .i64 k]] w fun e w' => e = .returned (.string (str [110, 111, 110, 101])) ∧ Below w.heap.size w w' := by
  go_enter Tryz.func14, Tryz.ntmps14
  go_wp2_with fail
  go_ret
  exact ⟨rfl, (Below.refl _ _).alloc (Nat.le_refl _) _⟩

set_option maxRecDepth 100000 in
set_option maxHeartbeats 4000000 in
theorem specEntryRun (p q : Int) (a1 a2 : Option Addr) (c1 c2 : Nat) (xs ys : List P2) (v k : Int) (w : World) (h1 : Sl w a1 xs) (h2 : Sl w a2 ys) (hf : WfE ⟨false, p, q, xs, ys, v, k⟩) (lx : xs.length ≤ 2 ^ 30) (ly : ys.length ≤ 2 ^ 30) :
    Calls Tryz.prog 14 #[.agg #[.bool false, .int .i64 p, .int .i64 q, .slice a1 xs.length c1, .slice a2 ys.length c2, .int .i64 v, .int .i64 k]] w fun e w' => e = .returned (.string (str (entText ⟨false, p, q, xs, ys, v, k⟩))) ∧ Below w.heap.size w w' := by
  obtain ⟨fp, fq, wx, wy, fv, fk⟩ := hf
  have WX : Hid (WfP xs) := wx
  have WY : Hid (WfP ys) := wy
  have FV : Hid (Fits v ∧ Fits k) := ⟨fv, fk⟩
  simp only at fp fq
  have hl := head_len p q fp fq
  obtain ⟨L2, hL2⟩ : ∃ L2, L2 = pairsTo 63 47 (headText p q) xs xs.length := ⟨_, rfl⟩
  have M1 : Hid (∀ j, j ≤ xs.length → (pairsTo 63 47 (headText p q) xs j).length ≤ 2 ^ 43) := fun j hj => by have := pairsTo_len 63 47 (headText p q) xs wx j hj; omega
  have l2 : L2.length ≤ 44 + 44 * 2 ^ 30 := by rw [hL2]; have := pairsTo_len 63 47 (headText p q) xs wx _ (Nat.le_refl _); omega
  have M2 : Hid (∀ j, j ≤ ys.length → (pairsTo 33 61 L2 ys j).length ≤ 2 ^ 43) := fun j hj => by have := pairsTo_len 33 61 L2 ys wy j hj; omega
  have EF : Hid (entText ⟨false, p, q, xs, ys, v, k⟩ = pairsTo 33 61 L2 ys ys.length ++ (125 :: (Lib.itoa v ++ (58 :: Lib.itoa k)))) := by
    show _ = _
    rw [hL2]; rfl
  have EL2 : Hid (pairsTo 63 47 (headText p q) xs xs.length = L2) := hL2.symm
  generalize entText ⟨false, p, q, xs, ys, v, k⟩ = FIN at EF ⊢
  obtain ⟨W, hW⟩ : ∃ W, W = w.alloc (.cells #[.bool false, .int .i64 p, .int .i64 q, .slice a1 xs.length c1, .slice a2 ys.length c2, .int .i64 v, .int .i64 k] 41) := ⟨_, rfl⟩
  have BW : Hid (Below w.heap.size w W) := by show Below _ _ _; rw [hW]; exact (Below.refl _ _).alloc (Nat.le_refl _) _
  have G0 : Hid (Blk W w.heap.size #[.bool false, .int .i64 p, .int .i64 q, .slice a1 xs.length c1, .slice a2 ys.length c2, .int .i64 v, .int .i64 k] 41) := by show Blk _ _ _ _; rw [hW]; exact Blk.new _ _ _
  have HX : Hid (Sl W a1 xs) := h1.below BW.out
  have HY : Hid (Sl W a2 ys) := h2.below BW.out
  have HW : Hid (W = _) := hW
  clear hW h1 h2 wx wy fv fk hL2 l2 hl
  have K0 : Hid (Below W.heap.size W W) := Below.refl _ _
  obtain ⟨t1, e1⟩ : ∃ s, s = str (Lib.itoa p) := ⟨_, rfl⟩
  obtain ⟨t2, e2⟩ : ∃ s, s = str (Lib.itoa q) := ⟨_, rfl⟩
  have z1 : t1.size ≤ 21 := by rw [e1, str_size]; exact itoa_len p fp
  have z2 : t2.size ≤ 21 := by rw [e2, str_size]; exact itoa_len q fq
  have T1 : Hid (t1.data.toList = Lib.itoa p) := by show _ = _; rw [e1, str_list]
  have T2 : Hid (t2.data.toList = Lib.itoa q) := by show _ = _; rw [e2, str_list]
  have Q1 : Hid (∀ d os, Calls Tryz.prog 13 #[.int .i64 p] (grow (redrawn W d) os) fun e w'' => e = .returned (.string t1) ∧ ∃ p : Regrown, w'' = grow (redrawn W p.d) p.os) := fun d os => Calls.regrown_of (by rw [e1]; exact l15Dec p _ (fp).1 (fp).2)
  have Q2 : Hid (∀ d os, Calls Tryz.prog 13 #[.int .i64 q] (grow (redrawn W d) os) fun e w'' => e = .returned (.string t2) ∧ ∃ p : Regrown, w'' = grow (redrawn W p.d) p.os) := fun d os => Calls.regrown_of (by rw [e2]; exact l15Dec q _ (fq).1 (fq).2)
  clear e1 e2
  have n1 : ¬ 9223372036854775807 < t1.size + 1 := by omega
  have n2 : ¬ 9223372036854775807 < t1.size + 1 + t2.size := by omega
  have n3 : ¬ 9223372036854775807 < t1.size + 1 + t2.size + 1 := by omega
  obtain ⟨d0, d1, d2, d3, d4, d5, d6⟩ := G0.out.cells7
  have m0 := cell_regrown d0
  have m1 := cell_regrown d1
  have m2 := cell_regrown d2
  clear d1 d2 d3 d4 d5 d6
  go_enter Tryz.func14, Tryz.ntmps14
  go_upto_region 3 with fail
  rw [← HW.out]
  go_upto_region 3 with fail
  refine wp_region_quiet_below (by kernel_rfl) (by kernel_rfl) ?_
  repeat (go_big_quiet_step (first | (go_at_call_of 13 (Value.int IntKind.i64 p); exact Q1.out _ _) | (go_at_call_of 13 (Value.int IntKind.i64 q); exact Q2.out _ _)))
  refine wpQuiet_nil ?_
  intro Y hw'
  obtain ⟨⟨dq, osq⟩, hw''⟩ := hw'
  have KY : Hid (Below W.heap.size W Y) := by
    have hx : Below W.heap.size W Y := by rw [hw'']; exact below_regrown W dq osq
    exact K0.out.trans (hx.mono K0.out.size)
  clear hw''
  clear m0 m1 m2 d0
  go_wp2_with fail
  go_loopw [3, 4] (fun out i wr => ∃ (j : Nat) (s : ByteArray), j ≤ xs.length ∧ i = .int .i64 j ∧ out = .string s ∧ Hid (s.data.toList = pairsTo 63 47 (headText p q) xs j) ∧ Hid (Below W.heap.size W wr)) (fun _ i _ => xs.length - (intOf i).toNat)
  case atStart => exact ⟨0, _, Nat.zero_le _, rfl, rfl, by show _ = _; simp [list_append, T1.out, T2.out, pairsTo, headText], KY.out⟩
  case round =>
    obtain ⟨j, s, hj, rfl, rfl, SR, KR⟩ := hrel
    obtain ⟨d0, d1, d2, d3, d4, d5, d6⟩ := (G0.out.keep KR.out).cells7
    by_cases hlt : j < xs.length
    · have hji : (j : Int) < (xs.length : Int) := by omega
      have hsl : s.size ≤ 2 ^ 43 := by rw [← size_list, SR.out]; exact M1.out j hj
      rcases HX.out.below KR.out with hh | ⟨b1, o1, rfl, _, hh⟩
      · rw [hh] at hlt; simp at hlt
      obtain ⟨g0, g1⟩ := hh j hlt
      have FX := WX.out j hlt
      have NX : Hid (pairsTo 63 47 (headText p q) xs j ++ (63 :: (Lib.itoa (xs.getD j (0, 0)).1 ++ (47 :: Lib.itoa (xs.getD j (0, 0)).2))) = pairsTo 63 47 (headText p q) xs (j + 1)) := by show _ = _; simp [pairsTo, pairText]
      clear hh
      generalize xs.getD j (0, 0) = pr at g0 g1 FX NX
      obtain ⟨p1, p2⟩ := pr
      simp only at g0 g1 FX NX
      obtain ⟨t1, e1⟩ : ∃ s, s = str (Lib.itoa p1) := ⟨_, rfl⟩
      obtain ⟨t2, e2⟩ : ∃ s, s = str (Lib.itoa p2) := ⟨_, rfl⟩
      have z1 : t1.size ≤ 21 := by rw [e1, str_size]; exact itoa_len p1 FX.1
      have z2 : t2.size ≤ 21 := by rw [e2, str_size]; exact itoa_len p2 FX.2
      have T1 : Hid (t1.data.toList = Lib.itoa p1) := by show _ = _; rw [e1, str_list]
      have T2 : Hid (t2.data.toList = Lib.itoa p2) := by show _ = _; rw [e2, str_list]
      have Q1 : Hid (∀ d os, Calls Tryz.prog 13 #[.int .i64 p1] (grow (redrawn wr d) os) fun e w'' => e = .returned (.string t1) ∧ ∃ p : Regrown, w'' = grow (redrawn wr p.d) p.os) := fun d os => Calls.regrown_of (by rw [e1]; exact l15Dec p1 _ (FX.1).1 (FX.1).2)
      have Q2 : Hid (∀ d os, Calls Tryz.prog 13 #[.int .i64 p2] (grow (redrawn wr d) os) fun e w'' => e = .returned (.string t2) ∧ ∃ p : Regrown, w'' = grow (redrawn wr p.d) p.os) := fun d os => Calls.regrown_of (by rw [e2]; exact l15Dec p2 _ (FX.2).1 (FX.2).2)
      clear e1 e2
      have n0 : ¬ 9223372036854775807 < s.size + 1 := by omega
      have n1 : ¬ 9223372036854775807 < s.size + 1 + t1.size := by omega
      have n2 : ¬ 9223372036854775807 < s.size + 1 + t1.size + 1 := by omega
      have n3 : ¬ 9223372036854775807 < s.size + 1 + t1.size + 1 + t2.size := by omega
      have m3 := cell_regrown d3
      have r0 := cell_regrown g0
      have r1 := cell_regrown g1
      go_upto_region 7 with fail
      refine wp_region_quiet_below (by kernel_rfl) (by kernel_rfl) ?_
      repeat (go_big_quiet_step (first | (go_at_call_of 13 (Value.int IntKind.i64 p1); exact Q1.out _ _) | (go_at_call_of 13 (Value.int IntKind.i64 p2); exact Q2.out _ _)))
      refine wpQuiet_nil ?_
      intro Y hw'
      obtain ⟨⟨dq, osq⟩, hw''⟩ := hw'
      have KY : Hid (Below W.heap.size W Y) := by
        have hx : Below wr.heap.size wr Y := by rw [hw'']; exact below_regrown wr dq osq
        exact KR.out.trans (hx.mono KR.out.size)
      clear hw''
      clear m3 r0 r1 g0 g1 d0 d1 d2 d3 d4 d5 d6
      go_wp2_with fail
      go_roundw
      case rel => exact ⟨j + 1, _, by omega, by go_num, rfl, by show _ = _; rw [← NX.out]; simp [list_append, T1.out, T2.out, SR.out], KY.out⟩
      case measure => simp [intOf]; omega
    · have hji : ¬ (j : Int) < (xs.length : Int) := by omega
      obtain rfl : j = xs.length := by omega
      rw [EL2.out] at SR
      go_wp2_with fail
      clear d0 d1 d2 d3 d4 d5 d6
      go_loopw [3, 5] (fun out i wr => ∃ (j : Nat) (s : ByteArray), j ≤ ys.length ∧ i = .int .i64 j ∧ out = .string s ∧ Hid (s.data.toList = pairsTo 33 61 L2 ys j) ∧ Hid (Below W.heap.size W wr)) (fun _ i _ => ys.length - (intOf i).toNat)
      case atStart => exact ⟨0, _, Nat.zero_le _, rfl, rfl, by show _ = _; rw [SR.out]; rfl, KR.out⟩
      case round =>
        obtain ⟨j, s, hj, rfl, rfl, SR, KR⟩ := hrel
        obtain ⟨d0, d1, d2, d3, d4, d5, d6⟩ := (G0.out.keep KR.out).cells7
        by_cases hlt : j < ys.length
        · have hji : (j : Int) < (ys.length : Int) := by omega
          have hsl : s.size ≤ 2 ^ 43 := by rw [← size_list, SR.out]; exact M2.out j hj
          rcases HY.out.below KR.out with hh | ⟨b1, o1, rfl, _, hh⟩
          · rw [hh] at hlt; simp at hlt
          obtain ⟨g0, g1⟩ := hh j hlt
          have FX := WY.out j hlt
          have NX : Hid (pairsTo 33 61 L2 ys j ++ (33 :: (Lib.itoa (ys.getD j (0, 0)).1 ++ (61 :: Lib.itoa (ys.getD j (0, 0)).2))) = pairsTo 33 61 L2 ys (j + 1)) := by show _ = _; simp [pairsTo, pairText]
          clear hh
          generalize ys.getD j (0, 0) = pr at g0 g1 FX NX
          obtain ⟨p1, p2⟩ := pr
          simp only at g0 g1 FX NX
          obtain ⟨t1, e1⟩ : ∃ s, s = str (Lib.itoa p1) := ⟨_, rfl⟩
          obtain ⟨t2, e2⟩ : ∃ s, s = str (Lib.itoa p2) := ⟨_, rfl⟩
          have z1 : t1.size ≤ 21 := by rw [e1, str_size]; exact itoa_len p1 FX.1
          have z2 : t2.size ≤ 21 := by rw [e2, str_size]; exact itoa_len p2 FX.2
          have T1 : Hid (t1.data.toList = Lib.itoa p1) := by show _ = _; rw [e1, str_list]
          have T2 : Hid (t2.data.toList = Lib.itoa p2) := by show _ = _; rw [e2, str_list]
          have Q1 : Hid (∀ d os, Calls Tryz.prog 13 #[.int .i64 p1] (grow (redrawn wr d) os) fun e w'' => e = .returned (.string t1) ∧ ∃ p : Regrown, w'' = grow (redrawn wr p.d) p.os) := fun d os => Calls.regrown_of (by rw [e1]; exact l15Dec p1 _ (FX.1).1 (FX.1).2)
          have Q2 : Hid (∀ d os, Calls Tryz.prog 13 #[.int .i64 p2] (grow (redrawn wr d) os) fun e w'' => e = .returned (.string t2) ∧ ∃ p : Regrown, w'' = grow (redrawn wr p.d) p.os) := fun d os => Calls.regrown_of (by rw [e2]; exact l15Dec p2 _ (FX.2).1 (FX.2).2)
          clear e1 e2
          have n0 : ¬ 9223372036854775807 < s.size + 1 := by omega
          have n1 : ¬ 9223372036854775807 < s.size + 1 + t1.size := by omega
          have n2 : ¬ 9223372036854775807 < s.size + 1 + t1.size + 1 := by omega
          have n3 : ¬ 9223372036854775807 < s.size + 1 + t1.size + 1 + t2.size := by omega
          have m3 := cell_regrown d4
          have r0 := cell_regrown g0
          have r1 := cell_regrown g1
          go_upto_region 11 with fail
          refine wp_region_quiet_below (by kernel_rfl) (by kernel_rfl) ?_
          repeat (go_big_quiet_step (first | (go_at_call_of 13 (Value.int IntKind.i64 p1); exact Q1.out _ _) | (go_at_call_of 13 (Value.int IntKind.i64 p2); exact Q2.out _ _)))
          refine wpQuiet_nil ?_
          intro Y hw'
          obtain ⟨⟨dq, osq⟩, hw''⟩ := hw'
          have KY : Hid (Below W.heap.size W Y) := by
            have hx : Below wr.heap.size wr Y := by rw [hw'']; exact below_regrown wr dq osq
            exact KR.out.trans (hx.mono KR.out.size)
          clear hw''
          clear m3 r0 r1 g0 g1 d0 d1 d2 d3 d4 d5 d6
          go_wp2_with fail
          go_roundw
          case rel => exact ⟨j + 1, _, by omega, by go_num, rfl, by show _ = _; rw [← NX.out]; simp [list_append, T1.out, T2.out, SR.out], KY.out⟩
          case measure => simp [intOf]; omega
        · have hji : ¬ (j : Int) < (ys.length : Int) := by omega
          obtain rfl : j = ys.length := by omega
          have hsl : s.size ≤ 2 ^ 43 := by rw [← size_list, SR.out]; exact M2.out _ (Nat.le_refl _)
          obtain ⟨t1, e1⟩ : ∃ s, s = str (Lib.itoa v) := ⟨_, rfl⟩
          obtain ⟨t2, e2⟩ : ∃ s, s = str (Lib.itoa k) := ⟨_, rfl⟩
          have z1 : t1.size ≤ 21 := by rw [e1, str_size]; exact itoa_len v FV.out.1
          have z2 : t2.size ≤ 21 := by rw [e2, str_size]; exact itoa_len k FV.out.2
          have T1 : Hid (t1.data.toList = Lib.itoa v) := by show _ = _; rw [e1, str_list]
          have T2 : Hid (t2.data.toList = Lib.itoa k) := by show _ = _; rw [e2, str_list]
          have Q1 : Hid (∀ d os, Calls Tryz.prog 13 #[.int .i64 v] (grow (redrawn wr d) os) fun e w'' => e = .returned (.string t1) ∧ ∃ p : Regrown, w'' = grow (redrawn wr p.d) p.os) := fun d os => Calls.regrown_of (by rw [e1]; exact l15Dec v _ (FV.out.1).1 (FV.out.1).2)
          have Q2 : Hid (∀ d os, Calls Tryz.prog 13 #[.int .i64 k] (grow (redrawn wr d) os) fun e w'' => e = .returned (.string t2) ∧ ∃ p : Regrown, w'' = grow (redrawn wr p.d) p.os) := fun d os => Calls.regrown_of (by rw [e2]; exact l15Dec k _ (FV.out.2).1 (FV.out.2).2)
          clear e1 e2
          have n0 : ¬ 9223372036854775807 < s.size + 1 := by omega
          have n1 : ¬ 9223372036854775807 < s.size + 1 + t1.size := by omega
          have n2 : ¬ 9223372036854775807 < s.size + 1 + t1.size + 1 := by omega
          have n3 : ¬ 9223372036854775807 < s.size + 1 + t1.size + 1 + t2.size := by omega
          have m5 := cell_regrown d5
          have m6 := cell_regrown d6
          go_upto_region 12 with fail
          refine wp_region_quiet_below (by kernel_rfl) (by kernel_rfl) ?_
          repeat (go_big_quiet_step (first | (go_at_call_of 13 (Value.int IntKind.i64 v); exact Q1.out _ _) | (go_at_call_of 13 (Value.int IntKind.i64 k); exact Q2.out _ _)))
          refine wpQuiet_nil ?_
          intro Y hw'
          obtain ⟨⟨dq, osq⟩, hw''⟩ := hw'
          have KY : Hid (Below W.heap.size W Y) := by
            have hx : Below wr.heap.size wr Y := by rw [hw'']; exact below_regrown wr dq osq
            exact KR.out.trans (hx.mono KR.out.size)
          clear hw''
          clear m5 m6 d0 d1 d2 d3 d4 d5 d6
          go_wp2_with fail
          go_ret
          exact ⟨ret_str (str_eq (by rw [EF.out]; simp [list_append, T1.out, T2.out, SR.out])), BW.out.trans (KY.out.mono BW.out.size)⟩
theorem specMsgEntry (n : Bool) (p q : Int) (a1 a2 : Option Addr) (c1 c2 : Nat) (xs ys : List P2) (v k : Int) (w : World) (h1 : Sl w a1 xs) (h2 : Sl w a2 ys) (hf : WfE ⟨n, p, q, xs, ys, v, k⟩) (lx : xs.length ≤ 2 ^ 30) (ly : ys.length ≤ 2 ^ 30) :
    Calls Tryz.prog 14 #[.agg #[.bool n, .int .i64 p, .int .i64 q, .slice a1 xs.length c1, .slice a2 ys.length c2, .int .i64 v, .int .i64 k]] w fun e w' => e = .returned (.string (str (entText ⟨n, p, q, xs, ys, v, k⟩))) ∧ Below w.heap.size w w' := by
  cases n with
  | false => exact specEntryRun p q a1 a2 c1 c2 xs ys v k w h1 h2 hf lx ly
  | true => exact specEntryNone p q a1 a2 xs.length ys.length c1 c2 v k w
end Go.Proofs.YtildonpdmmliaaaGreatDoor.Own

namespace Go.Proofs.YtildonpdmmliaaaGreatDoor.Own
open Go.RowKit
set_option linter.unusedVariables false
set_option linter.unusedSimpArgs false

set_option maxHeartbeats 400000 in
theorem l2Box (n : Int) (w : World) : Calls Tryz.prog 59 #[.int .i64 n] w fun e w' => e = .returned (.bool (regOk n)) ∧ w' = w := by
  have e : Hid (regOk n = (decide (0 ≤ n) && decide (n ≤ 3))) := rfl
  generalize regOk n = r at e ⊢
  by_cases h1 : 0 ≤ n
  · by_cases h2 : n < 4
    all_goals
      go_enter Tryz.func59, Tryz.ntmps59
      go_wp2
      go_ret
      exact ⟨ret_bool (by rw [e.out]; simp [h1]; omega), rfl⟩
  · have h1' : n < 0 := by omega
    go_enter Tryz.func59, Tryz.ntmps59
    go_wp2
    go_ret
    exact ⟨ret_bool (by rw [e.out]; simp; omega), rfl⟩


set_option maxHeartbeats 400000 in
theorem l1Num2 (n : Int) (w : World) : Calls Tryz.prog 58 #[.int .i64 n] w fun e w' => e = .returned (.bool (numOk2 n)) ∧ w' = w := by
  have e : Hid (numOk2 n = (decide (-1000000 ≤ n) && decide (n ≤ 1000000))) := rfl
  generalize numOk2 n = r at e ⊢
  by_cases h1 : -1000000 ≤ n
  · by_cases h2 : n ≤ 1000000
    all_goals
      go_enter Tryz.func58, Tryz.ntmps58
      go_wp2
      go_ret
      exact ⟨ret_bool (by rw [e.out]; simp [h1, h2]), rfl⟩
  · have h1' : n < -1000000 := by omega
    go_enter Tryz.func58, Tryz.ntmps58
    go_wp2
    go_ret
    exact ⟨ret_bool (by rw [e.out]; simp; omega), rfl⟩

end Go.Proofs.YtildonpdmmliaaaGreatDoor.Own

namespace Go.Proofs.YtildonpdmmliaaaGreatDoor.Own
open Go.RowKit
set_option linter.unusedVariables false
set_option linter.unusedSimpArgs false

theorem any_take_succP {xs : List P2} {k : Nat} (n : Int) (h : k < xs.length) : ((xs.take (k + 1)).any fun p => p.1 == n) = (((xs.take k).any fun p => p.1 == n) || (xs.getD k (0, 0)).1 == n) := by
  rw [List.take_succ_eq_append_getElem h, List.any_append]
  simp [List.getD, h]
theorem any_at {xs : List P2} {k : Nat} {n : Int} (h : k < xs.length) (e : ((xs.getD k (0, 0)).1 == n) = true) : (xs.any fun p => p.1 == n) = true := by
  rw [List.any_eq_true]
  exact ⟨xs.getD k (0, 0), by simp [List.getD, h], e⟩

set_option maxRecDepth 100000 in
set_option maxHeartbeats 1000000 in
theorem l3Saw (a : Option Addr) (c n : Nat) (xs : List P2) (z : Int) (w : World) (h : Sl w a xs) (hl : xs.length = n) (hn : n ≤ 2 ^ 40) :
    Calls Tryz.prog 60 #[.slice a n c, .int .i64 z] w fun e w' => e = .returned (.bool (xs.any fun p => p.1 == z)) ∧ w' = w := by
  subst hl
  have H1 : Hid (Sl w a xs) := h
  clear h
  go_enter Tryz.func60, Tryz.ntmps60
  go_wp2
  go_loop [5] (fun i => ∃ k : Nat, k ≤ xs.length ∧ i = .int .i64 k ∧ Hid (((xs.take k).any fun p => p.1 == z) = false)) (fun i => xs.length - (intOf i).toNat)
  case atStart => exact ⟨0, Nat.zero_le _, rfl, rfl⟩
  case round =>
    obtain ⟨k, hk, rfl, hA⟩ := hrel
    by_cases hlt : k < xs.length
    · rcases H1.out with h | ⟨b1, o1, rfl, h1⟩
      · subst h; simp at hlt
      obtain ⟨ca, cb⟩ := h1.2 k hlt
      have HT : Hid (((xs.take (k + 1)).any fun p => p.1 == z) = (((xs.take k).any fun p => p.1 == z) || (xs.getD k (0, 0)).1 == z)) := any_take_succP z hlt
      have HY : Hid (((xs.getD k (0, 0)).1 == z) = true → (xs.any fun p => p.1 == z) = true) := any_at hlt
      obtain ⟨p, hp⟩ : ∃ p, p = (xs.getD k (0, 0)).1 := ⟨_, rfl⟩
      rw [← hp] at ca
      have HP : Hid (p = (xs.getD k (0, 0)).1) := hp
      clear hp h1 cb
      cases t : (p == z) with
      | true =>
        have Y : Hid ((xs.any fun p => p.1 == z) = true) := HY.out (by rw [← HP.out]; exact t)
        clear HY HT
        go_wp2
        go_ret
        exact ⟨ret_bool Y.out.symm, rfl⟩
      | false =>
        have N : Hid (((xs.take (k + 1)).any fun p => p.1 == z) = false) := by show _ = _; rw [HT.out, hA.out, ← HP.out, t]; rfl
        clear HY HT
        go_wp2
        go_round
        case rel => exact ⟨k + 1, by omega, by go_num, N⟩
        case measure => simp [intOf]; omega
    · go_wp2
      go_ret
      have : k = xs.length := by omega
      subst this
      have h := hA.out
      rw [List.take_length] at h
      exact ⟨ret_bool h.symm, rfl⟩

/-- The place of a box among what is put, or -1. -/
def placeOf (xs : List P2) (z : Int) : Int := if (xs.any fun p => p.1 == z) then ((xs.findIdx fun p => p.1 == z) : Nat) else -1

theorem placeOf_at {xs : List P2} {k : Nat} {z : Int} (h : k < xs.length) (e : ((xs.getD k (0, 0)).1 == z) = true) (h0 : ((xs.take k).any fun p => p.1 == z) = false) : placeOf xs z = k := by
  unfold placeOf
  rw [if_pos (any_at h e)]
  have : xs.findIdx (fun p => p.1 == z) = k := by
    rw [List.findIdx_eq h]
    refine ⟨by simpa [List.getD, h] using e, fun j hj => ?_⟩
    rw [List.any_eq_false] at h0
    have := h0 (xs[j]'(by omega)) (by rw [List.mem_take_iff_getElem]; exact ⟨j, by omega, rfl⟩)
    simpa using this
  rw [this]
theorem placeOf_none {xs : List P2} {z : Int} (h : (xs.any fun p => p.1 == z) = false) : placeOf xs z = -1 := by
  simp [placeOf, h]
theorem placeOf_neg (xs : List P2) (z : Int) : decide (placeOf xs z ≥ 0) = (xs.any fun p => p.1 == z) := by
  unfold placeOf
  cases h : (xs.any fun p => p.1 == z) with
  | true => simp
  | false => simp

set_option maxRecDepth 100000 in
set_option maxHeartbeats 1000000 in
theorem l3At (a : Option Addr) (c n : Nat) (xs : List P2) (z : Int) (w : World) (h : Sl w a xs) (hl : xs.length = n) (hn : n ≤ 2 ^ 40) :
    Calls Tryz.prog 61 #[.slice a n c, .int .i64 z] w fun e w' => e = .returned (.int .i64 (placeOf xs z)) ∧ w' = w := by
  subst hl
  have H1 : Hid (Sl w a xs) := h
  clear h
  go_enter Tryz.func61, Tryz.ntmps61
  go_wp2
  go_loop [5] (fun i => ∃ k : Nat, k ≤ xs.length ∧ i = .int .i64 k ∧ Hid (((xs.take k).any fun p => p.1 == z) = false)) (fun i => xs.length - (intOf i).toNat)
  case atStart => exact ⟨0, Nat.zero_le _, rfl, rfl⟩
  case round =>
    obtain ⟨k, hk, rfl, hA⟩ := hrel
    by_cases hlt : k < xs.length
    · rcases H1.out with h | ⟨b1, o1, rfl, h1⟩
      · subst h; simp at hlt
      obtain ⟨ca, cb⟩ := h1.2 k hlt
      have HT : Hid (((xs.take (k + 1)).any fun p => p.1 == z) = (((xs.take k).any fun p => p.1 == z) || (xs.getD k (0, 0)).1 == z)) := any_take_succP z hlt
      have HY : Hid (((xs.getD k (0, 0)).1 == z) = true → placeOf xs z = k) := fun e => placeOf_at hlt e hA.out
      obtain ⟨p, hp⟩ : ∃ p, p = (xs.getD k (0, 0)).1 := ⟨_, rfl⟩
      rw [← hp] at ca
      have HP : Hid (p = (xs.getD k (0, 0)).1) := hp
      clear hp h1 cb
      cases t : (p == z) with
      | true =>
        have Y : Hid (placeOf xs z = k) := HY.out (by rw [← HP.out]; exact t)
        clear HY HT
        go_wp2
        go_ret
        exact ⟨ret_int Y.out.symm, rfl⟩
      | false =>
        have N : Hid (((xs.take (k + 1)).any fun p => p.1 == z) = false) := by show _ = _; rw [HT.out, hA.out, ← HP.out, t]; rfl
        clear HY HT
        go_wp2
        go_round
        case rel => exact ⟨k + 1, by omega, by go_num, N⟩
        case measure => simp [intOf]; omega
    · go_wp2
      go_ret
      have : k = xs.length := by omega
      subst this
      have h := hA.out
      rw [List.take_length] at h
      exact ⟨ret_int (placeOf_none h).symm, rfl⟩
end Go.Proofs.YtildonpdmmliaaaGreatDoor.Own

namespace Go.Proofs.YtildonpdmmliaaaGreatDoor.Own
open Go.RowKit
set_option linter.unusedVariables false
set_option linter.unusedSimpArgs false

theorem BoxAt.pre {w : World} {b off : Nat} {xs : List P2} (h : BoxAt w b off xs) (n : Nat) (hn : n ≤ xs.length) : BoxAt w b off (xs.take n) := by
  refine ⟨h.1, fun i hi => ?_⟩
  rw [List.length_take] at hi
  have e : (xs.take n).getD i (0, 0) = xs.getD i (0, 0) := by simp [List.getD, show i < n by omega]
  rw [e]; exact h.2 i (by omega)

/-- The first test of spec.ExecOk. -/
theorem endOk_true {k v : Int} {nr np : Nat} (h : endOk k v nr np = true) : (k = 0 ∧ numOk v = true) ∨ ((k = 1 ∨ k = 2) ∧ v = 0 ∧ np = 0) ∨ (k = 3 ∧ v = 0 ∧ np = 0 ∧ nr = 0) := by
  unfold endOk at h
  split at h
  · exact .inl ⟨by assumption, h⟩
  split at h
  · simp at h; exact .inr (.inl ⟨by assumption, h.1, h.2⟩)
  split at h
  · simp at h; exact .inr (.inr ⟨by assumption, h.1.1, h.1.2, h.2⟩)
  · cases h
theorem endOk_falls {k v : Int} {nr np : Nat} (h : endOk k v nr np = false) : k < 0 ∨ 3 < k ∨ (0 ≤ k ∧ k ≤ 3 ∧ numOk v = false) ∨ (1 ≤ k ∧ k ≤ 3 ∧ numOk v = true ∧ v ≠ 0) ∨ (1 ≤ k ∧ k ≤ 3 ∧ v = 0 ∧ 0 < np) ∨ (k = 3 ∧ v = 0 ∧ np = 0 ∧ 0 < nr) := by
  by_cases h1 : k < 0
  · exact .inl h1
  by_cases h2 : 3 < k
  · exact .inr (.inl h2)
  cases hn : numOk v with
  | false => exact .inr (.inr (.inl ⟨by omega, by omega, rfl⟩))
  | true =>
    by_cases h0 : k = 0
    · subst h0; rw [endOk_0, hn] at h; cases h
    by_cases hv : v = 0
    · subst hv
      by_cases hp : 0 < np
      · exact .inr (.inr (.inr (.inr (.inl ⟨by omega, by omega, rfl, hp⟩))))
      by_cases h3 : k = 3
      · subst h3
        by_cases hr : 0 < nr
        · exact .inr (.inr (.inr (.inr (.inr ⟨rfl, rfl, by omega, hr⟩))))
        · rw [endOk_3] at h; simp at h; omega
      · have : k = 1 ∨ k = 2 := by omega
        rcases this with rfl | rfl
        · rw [endOk_1] at h; simp at h; omega
        · rw [endOk_2] at h; simp at h; omega
    · exact .inr (.inr (.inr (.inl ⟨by omega, by omega, rfl, hv⟩)))

set_option maxRecDepth 100000 in
set_option maxHeartbeats 2000000 in
theorem specExecOk_no (a1 a2 : Option Addr) (n1 c1 n2 c2 : Nat) (v k : Int) (w : World) (h : endOk k v n1 n2 = false) :
    Calls Tryz.prog 45 #[.agg #[.slice a1 n1 c1, .slice a2 n2 c2, .int .i64 v, .int .i64 k]] w fun e w' => e = .returned (.bool false) ∧ Below w.heap.size w w' := by
  have B0 : ∀ o, Hid (Below w.heap.size w (w.alloc o)) := fun o => (Below.refl _ _).alloc (Nat.le_refl _) _
  rcases endOk_falls h with h | h | ⟨h1, h2, h3⟩ | ⟨h1, h2, h3, h4⟩ | ⟨h1, h2, rfl, h4⟩ | ⟨rfl, rfl, rfl, h4⟩
  · go_enter Tryz.func45, Tryz.ntmps45
    go_wp2
    go_ret
    exact ⟨rfl, (B0 _).out⟩
  · have h' : ¬ k < 0 := by omega
    go_enter Tryz.func45, Tryz.ntmps45
    go_wp2
    go_ret
    exact ⟨rfl, (B0 _).out⟩
  · have H3 : Hid (numOk v = false) := h3
    clear h3
    go_enter Tryz.func45, Tryz.ntmps45
    go_wp2_with fail
    refine (l1Num v _).mono ?_
    rintro e w1 ⟨rfl, rfl⟩
    rw [H3.out]
    go_wp2
    go_ret
    exact ⟨rfl, (B0 _).out⟩
  · have H3 : Hid (numOk v = true) := h3
    have e0 : (k != 0) = true := by simp; omega
    have e1 : (v != 0) = true := by simpa using h4
    clear h3 h4
    go_enter Tryz.func45, Tryz.ntmps45
    go_wp2_with fail
    refine (l1Num v _).mono ?_
    rintro e w1 ⟨rfl, rfl⟩
    rw [H3.out]
    go_wp2
    go_ret
    exact ⟨rfl, (B0 _).out⟩
  · have e0 : (k != 0) = true := by simp; omega
    have e1 : decide ((0 : Int) < (n2 : Int)) = true := by simp; omega
    go_enter Tryz.func45, Tryz.ntmps45
    go_wp2_with fail
    refine (l1Num 0 _).mono ?_
    rintro e w1 ⟨rfl, rfl⟩
    rw [show numOk 0 = true from rfl]
    go_wp2
    go_ret
    exact ⟨rfl, (B0 _).out⟩
  · have e1 : decide ((0 : Int) < (n1 : Int)) = true := by simp; omega
    go_enter Tryz.func45, Tryz.ntmps45
    go_wp2_with fail
    refine (l1Num 0 _).mono ?_
    rintro e w1 ⟨rfl, rfl⟩
    rw [show numOk 0 = true from rfl]
    go_wp2
    go_ret
    exact ⟨rfl, (B0 _).out⟩
end Go.Proofs.YtildonpdmmliaaaGreatDoor.Own

namespace Go.Proofs.YtildonpdmmliaaaGreatDoor.Own
open Go.RowKit
set_option linter.unusedVariables false
set_option linter.unusedSimpArgs false

set_option maxRecDepth 100000 in
set_option maxHeartbeats 4000000 in
theorem specExecOk_yes (a1 a2 : Option Addr) (c1 c2 : Nat) (xs ys : List P2) (v k : Int) (w : World) (h1 : Sl w a1 xs) (h2 : Sl w a2 ys) (hn1 : xs.length ≤ 2 ^ 40) (hn2 : ys.length ≤ 2 ^ 40) (hc1 : xs.length ≤ c1) (hc2 : ys.length ≤ c2) (he : endOk k v xs.length ys.length = true) :
    Calls Tryz.prog 45 #[.agg #[.slice a1 xs.length c1, .slice a2 ys.length c2, .int .i64 v, .int .i64 k]] w fun e w' => e = .returned (.bool (okAll verOk xs && okAll numOk ys)) ∧ Below w.heap.size w w' := by
  obtain ⟨n1, l1⟩ : ∃ n, xs.length = n := ⟨_, rfl⟩
  obtain ⟨n2, l2⟩ : ∃ n, ys.length = n := ⟨_, rfl⟩
  rw [l1] at hn1 hc1 he ⊢
  rw [l2] at hn2 hc2 he ⊢
  have L1 : Hid (xs.length = n1) := l1
  have L2 : Hid (ys.length = n2) := l2
  clear l1 l2
  have H1 : Hid (Sl w a1 xs) := h1
  have H2 : Hid (Sl w a2 ys) := h2
  clear h1 h2
  obtain ⟨W, hW⟩ : ∃ W, W = w.alloc (.cells #[.slice a1 n1 c1, .slice a2 n2 c2, .int .i64 v, .int .i64 k] 39) := ⟨_, rfl⟩
  have hbW : Hid (Below w.heap.size w W) := by
    show Below _ _ _
    rw [hW]; exact (Below.refl _ _).alloc (Nat.le_refl _) _
  have hsW : Hid (W.heap.size = w.heap.size + 1) := by show _ = _; rw [hW]; simp
  have g0 : Hid (W.heap[w.heap.size]? = some (.cells #[.slice a1 n1 c1, .slice a2 n2 c2, .int .i64 v, .int .i64 k] 39 (0, 0))) := by
    show _ = _
    rw [hW]; exact heap_new _ _
  have HW : Hid (W = _) := hW
  clear hW
  have HN : Hid (numOk v = true) := by
    rcases endOk_true he with ⟨_, h⟩ | ⟨_, rfl, _⟩ | ⟨_, rfl, _⟩
    · exact h
    · rfl
    · rfl
  have hcases : (¬ k < 0 ∧ ¬ 3 < k) ∧ (((k != 0) = false ∧ (k == 3) = false) ∨ ((k != 0) = true ∧ (v != 0) = false ∧ n2 = 0 ∧ (k == 3) = false) ∨ ((k != 0) = true ∧ (v != 0) = false ∧ n2 = 0 ∧ (k == 3) = true ∧ n1 = 0)) := by
    rcases endOk_true he with ⟨rfl, _⟩ | ⟨h, rfl, h2⟩ | ⟨rfl, rfl, h2, h3⟩
    · exact ⟨by omega, .inl ⟨rfl, rfl⟩⟩
    · refine ⟨by omega, .inr (.inl ⟨by simp; omega, rfl, h2, by simp; omega⟩)⟩
    · exact ⟨by omega, .inr (.inr ⟨rfl, rfl, h2, rfl, h3⟩)⟩
  clear he
  have HC : Hid ((¬ k < 0 ∧ ¬ 3 < k) ∧ (((k != 0) = false ∧ (k == 3) = false) ∨ ((k != 0) = true ∧ (v != 0) = false ∧ n2 = 0 ∧ (k == 3) = false) ∨ ((k != 0) = true ∧ (v != 0) = false ∧ n2 = 0 ∧ (k == 3) = true ∧ n1 = 0))) := hcases
  clear hcases
  go_enter Tryz.func45, Tryz.ntmps45
  go_upto_region 1 with fail
  go_cut [45] from 5 to 45 (fun c wx => c = .bool false ∧ wx = W)
  case first =>
    obtain ⟨⟨k0, k3⟩, hcases⟩ := HC.out
    rcases hcases with ⟨e0, e3⟩ | ⟨e0, ev, rfl, e3⟩ | ⟨e0, ev, rfl, e3, rfl⟩
    all_goals
      go_wp2_with fail
      refine (l1Num v _).mono ?_
      rintro e w1 ⟨rfl, rfl⟩
      rw [HN.out]
      go_wp2_with fail
      go_meet
      exact ⟨rfl, HW.out.symm⟩
  case rest =>
    obtain ⟨rfl, hwc⟩ := hcut
    have hwc' := hwc.symm
    subst hwc'
    clear HC HN hwc
    have q0 : W.cell? ⟨w.heap.size, 0, none⟩ = some (.slice a1 n1 c1) := by rw [cell_heap g0.out]; rfl
    have q1 : W.cell? ⟨w.heap.size, 1, none⟩ = some (.slice a2 n2 c2) := by rw [cell_heap g0.out]; rfl
    go_wp2_with fail
    go_loopw [3] (fun i wr => ∃ j : Nat, j ≤ n1 ∧ i = .int .i64 j ∧ Hid (∀ i, i < j → okAt verOk xs i = true) ∧ Below W.heap.size W wr) (fun i _ => n1 - (intOf i).toNat)
    case atStart => exact ⟨0, Nat.zero_le _, rfl, fun i hi => by omega, Below.refl _ _⟩
    case round =>
      obtain ⟨j, hj, rfl, hA, hB⟩ := hrel
      have HB : Hid (Below W.heap.size W wr) := hB
      have s0 : wr.cell? ⟨w.heap.size, 0, none⟩ = some (.slice a1 n1 c1) := by rw [hB.cell (p := ⟨w.heap.size, 0, none⟩) (by show w.heap.size < _; have := hsW.out; omega)]; exact q0
      have s1 : wr.cell? ⟨w.heap.size, 1, none⟩ = some (.slice a2 n2 c2) := by rw [hB.cell (p := ⟨w.heap.size, 1, none⟩) (by show w.heap.size < _; have := hsW.out; omega)]; exact q1
      clear q0 q1
      by_cases hlt : j < n1
      · rcases H1.out with h | ⟨b1, o1, rfl, h1⟩
        · have := L1.out; subst h; simp at this; omega
        have H1' : Hid (BoxAt wr b1 o1 xs) := (h1.below hbW.out).below hB
        clear h1 hB
        obtain ⟨p, hp⟩ : ∃ p, p = xs.getD j (0, 0) := ⟨_, rfl⟩
        obtain ⟨ca, cb⟩ := H1'.out.2 j (by rw [L1.out]; exact hlt)
        rw [← hp] at ca cb
        have HP : Hid (p = xs.getD j (0, 0)) := hp
        clear hp
        obtain ⟨p1, p2⟩ := p
        have HS : Hid (okAt verOk xs j = (regOk p1 && verOk p2 && !((xs.take j).any fun p => p.1 == p1))) := by show _ = _; unfold okAt; rw [← HP.out]
        have SC : Hid (∀ n, Calls Tryz.prog 60 #[.slice (some ⟨b1, o1, none⟩) j c1, .int .i64 p1] (wr.drewN n) fun e w' => e = .returned (.bool ((xs.take j).any fun p => p.1 == p1)) ∧ w' = wr.drewN n) := fun n =>
          l3Saw (some ⟨b1, o1, none⟩) c1 j (xs.take j) p1 _ (.inr ⟨_, _, rfl, H1'.out.pre j (by have := L1.out; omega)⟩) (by have := L1.out; simp; omega) (by omega)
        generalize ((xs.take j).any fun p => p.1 == p1) = sn at HS SC
        have hjc : j ≤ c1 := by omega
        go_upto_region 6 with fail
        go_cut [91] from 46 to 91 (fun c wx => c = .bool (!(regOk p1 && verOk p2 && !sn)) ∧ Below W.heap.size W wx)
        case first =>
          cases hr : regOk p1 with
          | false =>
            go_quiet ((first | (go_at_call 59; exact Calls.quiet_of_same (l2Box _ _)) | (go_at_call 60; exact Calls.quiet_of_same (SC.out _))))
            go_wp2
            go_meet
            exact ⟨by rw [hr]; rfl, below_drewN HB.out _⟩
          | true =>
            by_cases t1 : p2 < 0
            · have V : Hid (verOk p2 = false) := by show _ = _; simp [verOk]; omega
              go_quiet ((first | (go_at_call 59; exact Calls.quiet_of_same (l2Box _ _)) | (go_at_call 60; exact Calls.quiet_of_same (SC.out _))))
              go_wp2
              go_meet
              exact ⟨by rw [hr, V.out]; rfl, below_drewN HB.out _⟩
            · by_cases t2 : 1000000 < p2
              · have V : Hid (verOk p2 = false) := by show _ = _; simp [verOk]; omega
                have t2' : decide (1000000 < p2) = true := by simpa using t2
                go_quiet ((first | (go_at_call 59; exact Calls.quiet_of_same (l2Box _ _)) | (go_at_call 60; exact Calls.quiet_of_same (SC.out _))))
                go_wp2
                go_meet
                exact ⟨by rw [hr, V.out]; rfl, below_drewN HB.out _⟩
              · have V : Hid (verOk p2 = true) := by show _ = _; simp [verOk]; omega
                go_quiet ((first | (go_at_call 59; exact Calls.quiet_of_same (l2Box _ _)) | (go_at_call 60; exact Calls.quiet_of_same (SC.out _))))
                go_wp2
                go_meet
                exact ⟨by rw [hr, V.out]; cases sn <;> rfl, below_drewN HB.out _⟩
        case rest =>
          obtain ⟨rfl, hB2⟩ := hcut
          rw [← HS.out]
          have HB2 : Hid (Below W.heap.size W wc) := hB2
          clear hB2 HB ca cb s0 s1 HP HS SC H1'
          cases ho : okAt verOk xs j with
          | false =>
            have F' : Hid ((okAll verOk xs && okAll numOk ys) = false) := by show _ = _; rw [okAll_false (by rw [L1.out]; exact hlt) ho]; rfl
            go_wp2
            go_ret
            exact ⟨ret_bool F'.out.symm, hbW.out.trans (HB2.out.mono (by have := hsW.out; omega))⟩
          | true =>
            have N : Hid (∀ i, i < j + 1 → okAt verOk xs i = true) := by
              intro i hi
              by_cases e : i = j
              · subst e; exact ho
              · exact hA.out i (by omega)
            clear ho
            go_wp2
            go_roundw
            case rel => exact ⟨j + 1, by omega, by go_num, N, HB2.out⟩
            case measure => simp [intOf]; omega
      · have HA : Hid (okAll verOk xs = true) := by
          have h1 : j = n1 := by omega
          have h2 := hA.out
          rw [h1, ← L1.out] at h2
          exact okAll_iff.2 h2
        have E : Hid ((okAll verOk xs && okAll numOk ys) = okAll numOk ys) := by show _ = _; rw [HA.out]; rfl
        clear hA hB HA
        go_wp2_with fail
        go_loopw [4] (fun i ws => ∃ j : Nat, j ≤ n2 ∧ i = .int .i64 j ∧ Hid (∀ i, i < j → okAt numOk ys i = true) ∧ Below W.heap.size W ws) (fun i _ => n2 - (intOf i).toNat)
        case atStart => exact ⟨0, Nat.zero_le _, rfl, fun i hi => by omega, HB.out⟩
        case round =>
          clear s0 s1 HB hlt hj
          obtain ⟨m, hm, rfl, hA, hB⟩ := hrel
          have HB : Hid (Below W.heap.size W wr) := hB
          have s1 : wr.cell? ⟨w.heap.size, 1, none⟩ = some (.slice a2 n2 c2) := by rw [hB.cell (p := ⟨w.heap.size, 1, none⟩) (by show w.heap.size < _; have := hsW.out; omega), cell_heap g0.out]; rfl
          by_cases hlt : m < n2
          · rcases H2.out with h | ⟨b1, o1, rfl, h1⟩
            · have := L2.out; subst h; simp at this; omega
            have H1' : Hid (BoxAt wr b1 o1 ys) := (h1.below hbW.out).below hB
            clear h1 hB
            obtain ⟨p, hp⟩ : ∃ p, p = ys.getD m (0, 0) := ⟨_, rfl⟩
            obtain ⟨ca, cb⟩ := H1'.out.2 m (by rw [L2.out]; exact hlt)
            rw [← hp] at ca cb
            have HP : Hid (p = ys.getD m (0, 0)) := hp
            clear hp
            obtain ⟨p1, p2⟩ := p
            have HS : Hid (okAt numOk ys m = (regOk p1 && numOk p2 && !((ys.take m).any fun p => p.1 == p1))) := by show _ = _; unfold okAt; rw [← HP.out]
            have SC : Hid (∀ n, Calls Tryz.prog 61 #[.slice (some ⟨b1, o1, none⟩) m c2, .int .i64 p1] (wr.drewN n) fun e w' => e = .returned (.int .i64 (placeOf (ys.take m) p1)) ∧ w' = wr.drewN n) := fun n =>
              l3At (some ⟨b1, o1, none⟩) c2 m (ys.take m) p1 _ (.inr ⟨_, _, rfl, H1'.out.pre m (by have := L2.out; omega)⟩) (by have := L2.out; simp; omega) (by omega)
            have SP : Hid (decide (placeOf (ys.take m) p1 ≥ 0) = ((ys.take m).any fun p => p.1 == p1)) := placeOf_neg _ _
            generalize ((ys.take m).any fun p => p.1 == p1) = sn at HS SP
            generalize placeOf (ys.take m) p1 = pl at SC SP
            have hjc : m ≤ c2 := by omega
            go_upto_region 11 with fail
            go_cut [130] from 92 to 130 (fun c wx => c = .bool (!(regOk p1 && numOk p2 && !sn)) ∧ Below W.heap.size W wx)
            case first =>
              cases hr : regOk p1 with
              | false =>
                go_quiet ((first | (go_at_call 59; exact Calls.quiet_of_same (l2Box _ _)) | (go_at_call 58; exact Calls.quiet_of_same (l1Num _ _)) | (go_at_call 61; exact Calls.quiet_of_same (SC.out _))))
                go_wp2
                go_meet
                exact ⟨by rw [hr]; rfl, below_drewN HB.out _⟩
              | true =>
                cases hv : numOk p2 with
                | false =>
                  go_quiet ((first | (go_at_call 59; exact Calls.quiet_of_same (l2Box _ _)) | (go_at_call 58; exact Calls.quiet_of_same (l1Num _ _)) | (go_at_call 61; exact Calls.quiet_of_same (SC.out _))))
                  go_wp2
                  go_meet
                  exact ⟨by rw [hr, hv]; rfl, below_drewN HB.out _⟩
                | true =>
                  go_quiet ((first | (go_at_call 59; exact Calls.quiet_of_same (l2Box _ _)) | (go_at_call 58; exact Calls.quiet_of_same (l1Num _ _)) | (go_at_call 61; exact Calls.quiet_of_same (SC.out _))))
                  go_wp2
                  go_meet
                  exact ⟨by rw [hr, hv, ← SP.out]; simp, below_drewN HB.out _⟩
            case rest =>
              obtain ⟨rfl, hB2⟩ := hcut
              rw [← HS.out]
              have HB2 : Hid (Below W.heap.size W wc) := hB2
              clear hB2 HB ca cb s1 HP HS SC H1' SP
              cases ho : okAt numOk ys m with
              | false =>
                have F' : Hid (okAll numOk ys = false) := okAll_false (by rw [L2.out]; exact hlt) ho
                go_wp2
                go_ret
                exact ⟨ret_bool (by rw [E.out]; exact F'.out.symm), hbW.out.trans (HB2.out.mono (by have := hsW.out; omega))⟩
              | true =>
                have N : Hid (∀ i, i < m + 1 → okAt numOk ys i = true) := by
                  intro i hi
                  by_cases e : i = m
                  · subst e; exact ho
                  · exact hA.out i (by omega)
                clear ho
                go_wp2
                go_roundw
                case rel => exact ⟨m + 1, by omega, by go_num, N, HB2.out⟩
                case measure => simp [intOf]; omega
          · have HA : Hid (okAll numOk ys = true) := by
              have h1 : m = n2 := by omega
              have h2 := hA.out
              rw [h1, ← L2.out] at h2
              exact okAll_iff.2 h2
            clear hA hB
            go_wp2
            go_ret
            exact ⟨ret_bool (by rw [E.out]; exact HA.out.symm), hbW.out.trans (HB.out.mono (by have := hsW.out; omega))⟩

theorem specExecOk (a1 a2 : Option Addr) (c1 c2 : Nat) (xs ys : List P2) (v k : Int) (w : World) (h1 : Sl w a1 xs) (h2 : Sl w a2 ys) (hn1 : xs.length ≤ 2 ^ 40) (hn2 : ys.length ≤ 2 ^ 40) (hc1 : xs.length ≤ c1) (hc2 : ys.length ≤ c2) :
    Calls Tryz.prog 45 #[.agg #[.slice a1 xs.length c1, .slice a2 ys.length c2, .int .i64 v, .int .i64 k]] w fun e w' => e = .returned (.bool (execOk xs ys v k)) ∧ Below w.heap.size w w' := by
  unfold execOk
  cases he : endOk k v xs.length ys.length with
  | false => exact specExecOk_no a1 a2 _ c1 _ c2 v k w he
  | true =>
    refine (specExecOk_yes a1 a2 c1 c2 xs ys v k w h1 h2 hn1 hn2 hc1 hc2 he).mono ?_
    rintro e w' ⟨rfl, hb⟩
    exact ⟨by simp, hb⟩
end Go.Proofs.YtildonpdmmliaaaGreatDoor.Own

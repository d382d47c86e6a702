/-
  Own texts, bundled: EntTextM, Dec, EntTextS, Door, Bar, Pick.
-/
import Derived.Test.YtokbakphfodabaaDoorPk2
import Derived.Deep.Cut
import Derived.Test.YtokbakphfodabaaDoorPk1
import Derived.Lib.ItoaNum
import Derived.Lib.ItoaLen
import Derived.Laws.IdiomStrings
import Derived.Laws.BytesString
import Derived.Laws.Concat
import Derived.BigQuiet
import Derived.Lib.QuietBelow
import Derived.Stop.LaidErr
import Derived.Lib.LaidTab
import Derived.Deep.QuietTactic
namespace Go.Proofs.YtokbakphfodabaaDoor.Own
open Go.RowKit
set_option linter.unusedVariables false
set_option linter.unusedSimpArgs false

set_option maxRecDepth 100000 in
set_option maxHeartbeats 2000000 in
theorem implMsgEntry (n : Bool) (p q : Int) (a1 a2 : Option Addr) (c1 c2 : Nat) (xs ys : List P2) (v k : Int) (w : World) (ht : Tab w) (h1 : Sl w a1 xs) (h2 : Sl w a2 ys) (hf : WfE ⟨n, p, q, xs, ys, v, k⟩) (lx : xs.length ≤ 2 ^ 30) (ly : ys.length ≤ 2 ^ 30) :
    Calls Tryd.prog 26 #[.agg #[.bool n, .int .i64 p, .int .i64 q, .slice a1 xs.length c1, .slice a2 ys.length c2, .int .i64 v, .int .i64 k]] w fun e w' => e = .returned (.string (str (entText ⟨n, p, q, xs, ys, v, k⟩))) ∧ Below w.heap.size w w' := by
  obtain ⟨V, hV⟩ : ∃ V, V = w.alloc (.cells #[.bool n, .int .i64 p, .int .i64 q, .slice a1 xs.length c1, .slice a2 ys.length c2, .int .i64 v, .int .i64 k] 34) := ⟨_, rfl⟩
  have bV : Below w.heap.size w V := by rw [hV]; exact (Below.refl _ _).alloc (Nat.le_refl _) _
  have sV : V.heap.size = w.heap.size + 1 := by rw [hV]; simp
  have gV : Blk V w.heap.size #[.bool n, .int .i64 p, .int .i64 q, .slice a1 xs.length c1, .slice a2 ys.length c2, .int .i64 v, .int .i64 k] 34 := by rw [hV]; exact Blk.new _ _ _
  obtain ⟨W, hW⟩ : ∃ W, W = V.alloc (.cells #[.pointer none, .slice none 0 0] 96) := ⟨_, rfl⟩
  have bW : Below V.heap.size V W := by rw [hW]; exact (Below.refl _ _).alloc (Nat.le_refl _) _
  have dW : Bd 96 V.heap.size V.heap.size [] W := by rw [hW]; exact Lib.fresh_isBuilder _ _ _
  have BW : Hid (Below w.heap.size w W) := bV.trans (bW.mono bV.size)
  have GW : Hid (Blk W w.heap.size _ _) := gV.keep bW
  have NE := entText_ne ⟨n, p, q, xs, ys, v, k⟩
  have CE : Hid (Calls Tryd.prog 53 #[.pointer (some ⟨V.heap.size, 0, none⟩), .agg #[.bool n, .int .i64 p, .int .i64 q, .slice a1 xs.length c1, .slice a2 ys.length c2, .int .i64 v, .int .i64 k]] W fun e w' => e = .returned (.tuple #[]) ∧ Bd 96 V.heap.size V.heap.size (entText ⟨n, p, q, xs, ys, v, k⟩) w' ∧ Below V.heap.size W w') := by
    cases n with
    | true =>
      refine (implEntryNone 96 headsEntry V.heap.size V.heap.size [] p q a1 a2 xs.length ys.length c1 c2 v k W dW (by simp) bW.size).mono ?_
      rintro e w' ⟨rfl, d, b, _⟩
      exact ⟨rfl, d, b⟩
    | false =>
      have bb : ∀ w', Below V.heap.size W w' → Below w.heap.size w w' := fun w' h => bV.trans ((bW.trans h).mono bV.size)
      refine (implEntryRun 96 headsEntry V.heap.size V.heap.size [] p q a1 a2 c1 c2 xs ys v k W dW hf (fun w' h => tab_below ht ht (bb w' h) (Nat.le_refl _)) (fun w' h => h1.below (bb w' h)) (fun w' h => h2.below (bb w' h)) lx ly (by simp) bW.size).mono ?_
      rintro e w' ⟨rfl, d, b, _⟩
      exact ⟨rfl, d, b⟩
  have CS : Hid (∀ w', Bd 96 V.heap.size V.heap.size (entText ⟨n, p, q, xs, ys, v, k⟩) w' → Calls Tryd.prog 54 #[.pointer (some ⟨V.heap.size, 0, none⟩)] w' fun e w'' => e = .returned (.string (str (entText ⟨n, p, q, xs, ys, v, k⟩))) ∧ Below V.heap.size w' w'') := fun w' h => stringG _ V.heap.size V.heap.size _ w' h NE
  have BV : Hid (Below w.heap.size w V) := bV
  have SWV : Hid (V.heap.size ≤ W.heap.size) := bW.size
  have SV : Hid (V.heap.size = w.heap.size + 1) := sV
  have HV : Hid (V = _) := hV
  have HW : Hid (W = _) := hW
  have VW : Hid (Below V.heap.size V W) := bW
  clear hV hW bV sV gV bW dW NE h1 h2 hf ht
  generalize entText ⟨n, p, q, xs, ys, v, k⟩ = FIN at CE CS ⊢
  obtain ⟨q0, q1, q2, q3, q4, q5, q6⟩ := GW.out.cells7
  go_enter Tryd.func26, Tryd.ntmps26
  go_upto_region 2 with fail
  rw [← HV.out, ← HW.out, ← SV.out]
  go_wp2_with fail
  refine Calls.mono CE.out ?_
  rintro e w1 ⟨rfl, d1, b1⟩
  have D1 : Hid (Bd _ _ _ _ w1) := d1
  have B1 : Hid (Below V.heap.size V w1) := VW.out.trans b1
  clear d1 b1 q0 q1 q2 q3 q4 q5 q6
  go_wp2_with fail
  refine (CS.out w1 D1.out).mono ?_
  rintro e w2 ⟨rfl, b2⟩
  have B2 : Hid (Below w.heap.size w w2) := BV.out.trans ((B1.out.trans b2).mono BV.out.size)
  clear b2
  go_wp2_with fail
  go_ret
  exact ⟨rfl, B2.out⟩
end Go.Proofs.YtokbakphfodabaaDoor.Own

namespace Go.Proofs.YtokbakphfodabaaDoor.Own
open Go.RowKit

theorem conv1 (d : Nat) (hd : d < 10) (W : World) : ∃ t : ByteArray, (convert 22 9 (.slice (some ⟨W.heap.size, 0, none⟩) 1 1)).run Tryd.prog (W.alloc (.cells #[.int .u8 (48 + (d : Int))] 5)) = .ok (.string t) (W.alloc (.cells #[.int .u8 (48 + (d : Int))] 5)) ∧ t.size = 1 ∧ Hid (t.data.toList = [UInt8.ofNat (48 + d)]) := by
  refine ⟨str [UInt8.ofNat (48 + d)], ?_, rfl, rfl⟩
  refine run_convert_bytes_back (P := Tryd.prog) _ 22 9 5 ⟨W.heap.size, 0, none⟩ 1 [UInt8.ofNat (48 + d)] Tryd.underlying22 Tryd.underlying5 Tryd.underlying9 ?_
  intro j hj
  simp at hj
  subst hj
  have e2 : (⟨W.heap.size, 0, none⟩ : Addr).add 0 = ⟨W.heap.size, 0, none⟩ := by simp [Addr.add]
  rw [e2, cell_heap (heap_new _ _)]
  simp
  omega

set_option maxRecDepth 100000 in
set_option maxHeartbeats 1000000 in
theorem decPos (N : Nat) (w : World) (hN : N < 9223372036854775808) :
    Calls Tryd.prog 55 #[.int .i64 N] w fun e w' => e = .returned (.string (str (Lib.decDigits N))) ∧ Below w.heap.size w w' := by
  have HL : Hid ((Lib.decDigits N).length ≤ 20) := by
    show _ ≤ _
    rw [Lib.decDigits_length]; exact Lib.nDigits_le20 N (by omega)
  go_enter Tryd.func55, Tryd.ntmps55
  go_wp2
  go_loopw [0, 3] (fun n out wr => ∃ (m : Nat) (s : ByteArray), m ≤ N ∧ n = .int .i64 m ∧ out = .string s ∧ Hid (Lib.decDigits N = Lib.decDigits m ++ s.data.toList) ∧ Below w.heap.size w wr) (fun n _ _ => (intOf n).toNat)
  case atStart => exact ⟨N, ⟨#[]⟩, Nat.le_refl _, rfl, rfl, by show _ = _; simp, Below.refl _ _⟩
  case round =>
    obtain ⟨m, s, hm, rfl, rfl, hd, hB⟩ := hrel
    have hs : s.size ≤ 20 := by
      have h1 := HL.out
      rw [hd.out, List.length_append, size_list] at h1
      omega
    by_cases h9 : 9 < m
    · obtain ⟨d, e1, l1, e1'⟩ : ∃ d : Nat, (m : Int) % 10 = d ∧ d < 10 ∧ d = m % 10 := ⟨m % 10, by simp, Nat.mod_lt _ (by omega), rfl⟩
      obtain ⟨q, e2, e2'⟩ : ∃ q : Nat, (m : Int) / 10 = q ∧ q = m / 10 := ⟨m / 10, by simp, rfl⟩
      have E1 : Hid (d = m % 10) := e1'
      have E2 : Hid (q = m / 10) := e2'
      have hq : q < m := by omega
      clear e1' e2'
      obtain ⟨t, hcv, hts, HT⟩ := conv1 d l1 wr
      go_wp2
      go_roundw
      case rel =>
        refine ⟨q, _, by omega, rfl, rfl, ?_, hB.alloc hB.size _⟩
        show _ = _
        rw [hd.out, dec_step m (by omega), list_append, HT.out, ← E1.out, ← E2.out]
        rfl
      case measure => simp [intOf]; omega
    · obtain ⟨t, hcv, hts, HT⟩ := conv1 m (by omega) wr
      go_wp2
      go_ret
      refine ⟨ret_str (str_eq ?_), hB.alloc hB.size _⟩
      rw [hd.out, list_append, HT.out, Lib.decDigits_one (by omega)]

set_option maxRecDepth 100000 in
set_option maxHeartbeats 1000000 in
theorem l15Dec (n : Int) (w : World) (h0 : -9223372036854775808 ≤ n) (h1 : n ≤ 9223372036854775807) :
    Calls Tryd.prog 55 #[.int .i64 n] w fun e w' => e = .returned (.string (str (Lib.itoa n))) ∧ Below w.heap.size w w' := by
  by_cases hneg : n < 0
  · by_cases hmin : n < -9223372036854775807
    · have hE : Hid (str (Lib.itoa n) = ⟨#[45, 57, 50, 50, 51, 51, 55, 50, 48, 51, 54, 56, 53, 52, 55, 55, 53, 56, 48, 56]⟩) := by
        have : n = -9223372036854775808 := by omega
        show _ = _
        rw [this]
        decide +kernel
      go_enter Tryd.func55, Tryd.ntmps55
      go_wp2
      go_ret
      exact ⟨ret_str hE.out.symm, Below.refl _ _⟩
    · obtain ⟨m, hm⟩ : ∃ m : Nat, -n = m := ⟨n.natAbs, by omega⟩
      have hE : Hid (Lib.itoa n = 45 :: Lib.decDigits m) := by
        show _ = _
        rw [itoa_neg' n hneg]
        congr 2; omega
      have hml : m < 9223372036854775808 := by omega
      obtain ⟨t, ht⟩ : ∃ t, t = str (Lib.decDigits m) := ⟨_, rfl⟩
      have hts : t.size ≤ 20 := by rw [ht, str_size, Lib.decDigits_length]; exact Lib.nDigits_le20 m (by omega)
      have HT : Hid (t = str (Lib.decDigits m)) := ht
      clear ht
      go_enter Tryd.func55, Tryd.ntmps55
      go_wp2_with fail
      refine (decPos m _ hml).mono ?_
      rintro e w1 ⟨rfl, hb⟩
      rw [← HT.out]
      have HB : Hid (Below w.heap.size w w1) := hb
      clear hb
      go_wp2
      go_ret
      refine ⟨ret_str ?_, HB.out⟩
      rw [HT.out, hE.out]
      exact str_append [45] _
  · obtain ⟨m, rfl⟩ := Int.eq_ofNat_of_zero_le (by omega : 0 ≤ n)
    rw [itoa_pos' _ hneg]
    simpa using decPos m w (by omega)
end Go.Proofs.YtokbakphfodabaaDoor.Own

namespace Go.Proofs.YtokbakphfodabaaDoor.Own
open Go.RowKit Go.Sort
set_option linter.unusedVariables false
set_option linter.unusedSimpArgs false

set_option maxRecDepth 100000 in
set_option maxHeartbeats 1000000 in
theorem specEntryNone (p q : Int) (a1 a2 : Option Addr) (n1 n2 c1 c2 : Nat) (v k : Int) (w : World) :
    Calls Tryd.prog 27 #[.agg #[.bool true, .int .i64 p, .int .i64 q, .slice a1 n1 c1, .slice a2 n2 c2, .int .i64 v, .int .i64 k]] w fun e w' => e = .returned (.string (str [110, 111, 110, 101])) ∧ Below w.heap.size w w' := by
  go_enter Tryd.func27, Tryd.ntmps27
  go_wp2_with fail
  go_ret
  exact ⟨rfl, (Below.refl _ _).alloc (Nat.le_refl _) _⟩

set_option maxRecDepth 100000 in
set_option maxHeartbeats 4000000 in
theorem specEntryRun (p q : Int) (a1 a2 : Option Addr) (c1 c2 : Nat) (xs ys : List P2) (v k : Int) (w : World) (h1 : Sl w a1 xs) (h2 : Sl w a2 ys) (hf : WfE ⟨false, p, q, xs, ys, v, k⟩) (lx : xs.length ≤ 2 ^ 30) (ly : ys.length ≤ 2 ^ 30) :
    Calls Tryd.prog 27 #[.agg #[.bool false, .int .i64 p, .int .i64 q, .slice a1 xs.length c1, .slice a2 ys.length c2, .int .i64 v, .int .i64 k]] w fun e w' => e = .returned (.string (str (entText ⟨false, p, q, xs, ys, v, k⟩))) ∧ Below w.heap.size w w' := by
  obtain ⟨fp, fq, wx, wy, fv, fk⟩ := hf
  have WX : Hid (WfP xs) := wx
  have WY : Hid (WfP ys) := wy
  have FV : Hid (Fits v ∧ Fits k) := ⟨fv, fk⟩
  simp only at fp fq
  have hl := head_len p q fp fq
  obtain ⟨L2, hL2⟩ : ∃ L2, L2 = pairsTo 63 47 (headText p q) xs xs.length := ⟨_, rfl⟩
  have M1 : Hid (∀ j, j ≤ xs.length → (pairsTo 63 47 (headText p q) xs j).length ≤ 2 ^ 43) := fun j hj => by have := pairsTo_len 63 47 (headText p q) xs wx j hj; omega
  have l2 : L2.length ≤ 44 + 44 * 2 ^ 30 := by rw [hL2]; have := pairsTo_len 63 47 (headText p q) xs wx _ (Nat.le_refl _); omega
  have M2 : Hid (∀ j, j ≤ ys.length → (pairsTo 33 61 L2 ys j).length ≤ 2 ^ 43) := fun j hj => by have := pairsTo_len 33 61 L2 ys wy j hj; omega
  have EF : Hid (entText ⟨false, p, q, xs, ys, v, k⟩ = pairsTo 33 61 L2 ys ys.length ++ (125 :: (Lib.itoa v ++ (58 :: Lib.itoa k)))) := by
    show _ = _
    rw [hL2]; rfl
  have EL2 : Hid (pairsTo 63 47 (headText p q) xs xs.length = L2) := hL2.symm
  generalize entText ⟨false, p, q, xs, ys, v, k⟩ = FIN at EF ⊢
  obtain ⟨W, hW⟩ : ∃ W, W = w.alloc (.cells #[.bool false, .int .i64 p, .int .i64 q, .slice a1 xs.length c1, .slice a2 ys.length c2, .int .i64 v, .int .i64 k] 34) := ⟨_, rfl⟩
  have BW : Hid (Below w.heap.size w W) := by show Below _ _ _; rw [hW]; exact (Below.refl _ _).alloc (Nat.le_refl _) _
  have G0 : Hid (Blk W w.heap.size #[.bool false, .int .i64 p, .int .i64 q, .slice a1 xs.length c1, .slice a2 ys.length c2, .int .i64 v, .int .i64 k] 34) := by show Blk _ _ _ _; rw [hW]; exact Blk.new _ _ _
  have HX : Hid (Sl W a1 xs) := h1.below BW.out
  have HY : Hid (Sl W a2 ys) := h2.below BW.out
  have HW : Hid (W = _) := hW
  clear hW h1 h2 wx wy fv fk hL2 l2 hl
  have K0 : Hid (Below W.heap.size W W) := Below.refl _ _
  obtain ⟨t1, e1⟩ : ∃ s, s = str (Lib.itoa p) := ⟨_, rfl⟩
  obtain ⟨t2, e2⟩ : ∃ s, s = str (Lib.itoa q) := ⟨_, rfl⟩
  have z1 : t1.size ≤ 21 := by rw [e1, str_size]; exact itoa_len p fp
  have z2 : t2.size ≤ 21 := by rw [e2, str_size]; exact itoa_len q fq
  have T1 : Hid (t1.data.toList = Lib.itoa p) := by show _ = _; rw [e1, str_list]
  have T2 : Hid (t2.data.toList = Lib.itoa q) := by show _ = _; rw [e2, str_list]
  have Q1 : Hid (∀ d os, Calls Tryd.prog 55 #[.int .i64 p] (grow (redrawn W d) os) fun e w'' => e = .returned (.string t1) ∧ ∃ p : Regrown, w'' = grow (redrawn W p.d) p.os) := fun d os => Calls.regrown_of (by rw [e1]; exact l15Dec p _ (fp).1 (fp).2)
  have Q2 : Hid (∀ d os, Calls Tryd.prog 55 #[.int .i64 q] (grow (redrawn W d) os) fun e w'' => e = .returned (.string t2) ∧ ∃ p : Regrown, w'' = grow (redrawn W p.d) p.os) := fun d os => Calls.regrown_of (by rw [e2]; exact l15Dec q _ (fq).1 (fq).2)
  clear e1 e2
  have n1 : ¬ 9223372036854775807 < t1.size + 1 := by omega
  have n2 : ¬ 9223372036854775807 < t1.size + 1 + t2.size := by omega
  have n3 : ¬ 9223372036854775807 < t1.size + 1 + t2.size + 1 := by omega
  obtain ⟨d0, d1, d2, d3, d4, d5, d6⟩ := G0.out.cells7
  have m0 := cell_regrown d0
  have m1 := cell_regrown d1
  have m2 := cell_regrown d2
  clear d1 d2 d3 d4 d5 d6
  go_enter Tryd.func27, Tryd.ntmps27
  go_upto_region 3 with fail
  rw [← HW.out]
  go_upto_region 3 with fail
  refine wp_region_quiet_below (by kernel_rfl) (by kernel_rfl) ?_
  repeat (go_big_quiet_step (first | (go_at_call_of 55 (Value.int IntKind.i64 p); exact Q1.out _ _) | (go_at_call_of 55 (Value.int IntKind.i64 q); exact Q2.out _ _)))
  refine wpQuiet_nil ?_
  intro Y hw'
  obtain ⟨⟨dq, osq⟩, hw''⟩ := hw'
  have KY : Hid (Below W.heap.size W Y) := by
    have hx : Below W.heap.size W Y := by rw [hw'']; exact below_regrown W dq osq
    exact K0.out.trans (hx.mono K0.out.size)
  clear hw''
  clear m0 m1 m2 d0
  go_wp2_with fail
  go_loopw [3, 4] (fun out i wr => ∃ (j : Nat) (s : ByteArray), j ≤ xs.length ∧ i = .int .i64 j ∧ out = .string s ∧ Hid (s.data.toList = pairsTo 63 47 (headText p q) xs j) ∧ Hid (Below W.heap.size W wr)) (fun _ i _ => xs.length - (intOf i).toNat)
  case atStart => exact ⟨0, _, Nat.zero_le _, rfl, rfl, by show _ = _; simp [list_append, T1.out, T2.out, pairsTo, headText], KY.out⟩
  case round =>
    obtain ⟨j, s, hj, rfl, rfl, SR, KR⟩ := hrel
    obtain ⟨d0, d1, d2, d3, d4, d5, d6⟩ := (G0.out.keep KR.out).cells7
    by_cases hlt : j < xs.length
    · have hji : (j : Int) < (xs.length : Int) := by omega
      have hsl : s.size ≤ 2 ^ 43 := by rw [← size_list, SR.out]; exact M1.out j hj
      rcases HX.out.below KR.out with hh | ⟨b1, o1, rfl, _, hh⟩
      · rw [hh] at hlt; simp at hlt
      obtain ⟨g0, g1⟩ := hh j hlt
      have FX := WX.out j hlt
      have NX : Hid (pairsTo 63 47 (headText p q) xs j ++ (63 :: (Lib.itoa (xs.getD j (0, 0)).1 ++ (47 :: Lib.itoa (xs.getD j (0, 0)).2))) = pairsTo 63 47 (headText p q) xs (j + 1)) := by show _ = _; simp [pairsTo, pairText]
      clear hh
      generalize xs.getD j (0, 0) = pr at g0 g1 FX NX
      obtain ⟨p1, p2⟩ := pr
      simp only at g0 g1 FX NX
      obtain ⟨t1, e1⟩ : ∃ s, s = str (Lib.itoa p1) := ⟨_, rfl⟩
      obtain ⟨t2, e2⟩ : ∃ s, s = str (Lib.itoa p2) := ⟨_, rfl⟩
      have z1 : t1.size ≤ 21 := by rw [e1, str_size]; exact itoa_len p1 FX.1
      have z2 : t2.size ≤ 21 := by rw [e2, str_size]; exact itoa_len p2 FX.2
      have T1 : Hid (t1.data.toList = Lib.itoa p1) := by show _ = _; rw [e1, str_list]
      have T2 : Hid (t2.data.toList = Lib.itoa p2) := by show _ = _; rw [e2, str_list]
      have Q1 : Hid (∀ d os, Calls Tryd.prog 55 #[.int .i64 p1] (grow (redrawn wr d) os) fun e w'' => e = .returned (.string t1) ∧ ∃ p : Regrown, w'' = grow (redrawn wr p.d) p.os) := fun d os => Calls.regrown_of (by rw [e1]; exact l15Dec p1 _ (FX.1).1 (FX.1).2)
      have Q2 : Hid (∀ d os, Calls Tryd.prog 55 #[.int .i64 p2] (grow (redrawn wr d) os) fun e w'' => e = .returned (.string t2) ∧ ∃ p : Regrown, w'' = grow (redrawn wr p.d) p.os) := fun d os => Calls.regrown_of (by rw [e2]; exact l15Dec p2 _ (FX.2).1 (FX.2).2)
      clear e1 e2
      have n0 : ¬ 9223372036854775807 < s.size + 1 := by omega
      have n1 : ¬ 9223372036854775807 < s.size + 1 + t1.size := by omega
      have n2 : ¬ 9223372036854775807 < s.size + 1 + t1.size + 1 := by omega
      have n3 : ¬ 9223372036854775807 < s.size + 1 + t1.size + 1 + t2.size := by omega
      have m3 := cell_regrown d3
      have r0 := cell_regrown g0
      have r1 := cell_regrown g1
      go_upto_region 7 with fail
      refine wp_region_quiet_below (by kernel_rfl) (by kernel_rfl) ?_
      repeat (go_big_quiet_step (first | (go_at_call_of 55 (Value.int IntKind.i64 p1); exact Q1.out _ _) | (go_at_call_of 55 (Value.int IntKind.i64 p2); exact Q2.out _ _)))
      refine wpQuiet_nil ?_
      intro Y hw'
      obtain ⟨⟨dq, osq⟩, hw''⟩ := hw'
      have KY : Hid (Below W.heap.size W Y) := by
        have hx : Below wr.heap.size wr Y := by rw [hw'']; exact below_regrown wr dq osq
        exact KR.out.trans (hx.mono KR.out.size)
      clear hw''
      clear m3 r0 r1 g0 g1 d0 d1 d2 d3 d4 d5 d6
      go_wp2_with fail
      go_roundw
      case rel => exact ⟨j + 1, _, by omega, by go_num, rfl, by show _ = _; rw [← NX.out]; simp [list_append, T1.out, T2.out, SR.out], KY.out⟩
      case measure => simp [intOf]; omega
    · have hji : ¬ (j : Int) < (xs.length : Int) := by omega
      obtain rfl : j = xs.length := by omega
      rw [EL2.out] at SR
      go_wp2_with fail
      clear d0 d1 d2 d3 d4 d5 d6
      go_loopw [3, 5] (fun out i wr => ∃ (j : Nat) (s : ByteArray), j ≤ ys.length ∧ i = .int .i64 j ∧ out = .string s ∧ Hid (s.data.toList = pairsTo 33 61 L2 ys j) ∧ Hid (Below W.heap.size W wr)) (fun _ i _ => ys.length - (intOf i).toNat)
      case atStart => exact ⟨0, _, Nat.zero_le _, rfl, rfl, by show _ = _; rw [SR.out]; rfl, KR.out⟩
      case round =>
        obtain ⟨j, s, hj, rfl, rfl, SR, KR⟩ := hrel
        obtain ⟨d0, d1, d2, d3, d4, d5, d6⟩ := (G0.out.keep KR.out).cells7
        by_cases hlt : j < ys.length
        · have hji : (j : Int) < (ys.length : Int) := by omega
          have hsl : s.size ≤ 2 ^ 43 := by rw [← size_list, SR.out]; exact M2.out j hj
          rcases HY.out.below KR.out with hh | ⟨b1, o1, rfl, _, hh⟩
          · rw [hh] at hlt; simp at hlt
          obtain ⟨g0, g1⟩ := hh j hlt
          have FX := WY.out j hlt
          have NX : Hid (pairsTo 33 61 L2 ys j ++ (33 :: (Lib.itoa (ys.getD j (0, 0)).1 ++ (61 :: Lib.itoa (ys.getD j (0, 0)).2))) = pairsTo 33 61 L2 ys (j + 1)) := by show _ = _; simp [pairsTo, pairText]
          clear hh
          generalize ys.getD j (0, 0) = pr at g0 g1 FX NX
          obtain ⟨p1, p2⟩ := pr
          simp only at g0 g1 FX NX
          obtain ⟨t1, e1⟩ : ∃ s, s = str (Lib.itoa p1) := ⟨_, rfl⟩
          obtain ⟨t2, e2⟩ : ∃ s, s = str (Lib.itoa p2) := ⟨_, rfl⟩
          have z1 : t1.size ≤ 21 := by rw [e1, str_size]; exact itoa_len p1 FX.1
          have z2 : t2.size ≤ 21 := by rw [e2, str_size]; exact itoa_len p2 FX.2
          have T1 : Hid (t1.data.toList = Lib.itoa p1) := by show _ = _; rw [e1, str_list]
          have T2 : Hid (t2.data.toList = Lib.itoa p2) := by show _ = _; rw [e2, str_list]
          have Q1 : Hid (∀ d os, Calls Tryd.prog 55 #[.int .i64 p1] (grow (redrawn wr d) os) fun e w'' => e = .returned (.string t1) ∧ ∃ p : Regrown, w'' = grow (redrawn wr p.d) p.os) := fun d os => Calls.regrown_of (by rw [e1]; exact l15Dec p1 _ (FX.1).1 (FX.1).2)
          have Q2 : Hid (∀ d os, Calls Tryd.prog 55 #[.int .i64 p2] (grow (redrawn wr d) os) fun e w'' => e = .returned (.string t2) ∧ ∃ p : Regrown, w'' = grow (redrawn wr p.d) p.os) := fun d os => Calls.regrown_of (by rw [e2]; exact l15Dec p2 _ (FX.2).1 (FX.2).2)
          clear e1 e2
          have n0 : ¬ 9223372036854775807 < s.size + 1 := by omega
          have n1 : ¬ 9223372036854775807 < s.size + 1 + t1.size := by omega
          have n2 : ¬ 9223372036854775807 < s.size + 1 + t1.size + 1 := by omega
          have n3 : ¬ 9223372036854775807 < s.size + 1 + t1.size + 1 + t2.size := by omega
          have m3 := cell_regrown d4
          have r0 := cell_regrown g0
          have r1 := cell_regrown g1
          go_upto_region 11 with fail
          refine wp_region_quiet_below (by kernel_rfl) (by kernel_rfl) ?_
          repeat (go_big_quiet_step (first | (go_at_call_of 55 (Value.int IntKind.i64 p1); exact Q1.out _ _) | (go_at_call_of 55 (Value.int IntKind.i64 p2); exact Q2.out _ _)))
          refine wpQuiet_nil ?_
          intro Y hw'
          obtain ⟨⟨dq, osq⟩, hw''⟩ := hw'
          have KY : Hid (Below W.heap.size W Y) := by
            have hx : Below wr.heap.size wr Y := by rw [hw'']; exact below_regrown wr dq osq
            exact KR.out.trans (hx.mono KR.out.size)
          clear hw''
          clear m3 r0 r1 g0 g1 d0 d1 d2 d3 d4 d5 d6
          go_wp2_with fail
          go_roundw
          case rel => exact ⟨j + 1, _, by omega, by go_num, rfl, by show _ = _; rw [← NX.out]; simp [list_append, T1.out, T2.out, SR.out], KY.out⟩
          case measure => simp [intOf]; omega
        · have hji : ¬ (j : Int) < (ys.length : Int) := by omega
          obtain rfl : j = ys.length := by omega
          have hsl : s.size ≤ 2 ^ 43 := by rw [← size_list, SR.out]; exact M2.out _ (Nat.le_refl _)
          obtain ⟨t1, e1⟩ : ∃ s, s = str (Lib.itoa v) := ⟨_, rfl⟩
          obtain ⟨t2, e2⟩ : ∃ s, s = str (Lib.itoa k) := ⟨_, rfl⟩
          have z1 : t1.size ≤ 21 := by rw [e1, str_size]; exact itoa_len v FV.out.1
          have z2 : t2.size ≤ 21 := by rw [e2, str_size]; exact itoa_len k FV.out.2
          have T1 : Hid (t1.data.toList = Lib.itoa v) := by show _ = _; rw [e1, str_list]
          have T2 : Hid (t2.data.toList = Lib.itoa k) := by show _ = _; rw [e2, str_list]
          have Q1 : Hid (∀ d os, Calls Tryd.prog 55 #[.int .i64 v] (grow (redrawn wr d) os) fun e w'' => e = .returned (.string t1) ∧ ∃ p : Regrown, w'' = grow (redrawn wr p.d) p.os) := fun d os => Calls.regrown_of (by rw [e1]; exact l15Dec v _ (FV.out.1).1 (FV.out.1).2)
          have Q2 : Hid (∀ d os, Calls Tryd.prog 55 #[.int .i64 k] (grow (redrawn wr d) os) fun e w'' => e = .returned (.string t2) ∧ ∃ p : Regrown, w'' = grow (redrawn wr p.d) p.os) := fun d os => Calls.regrown_of (by rw [e2]; exact l15Dec k _ (FV.out.2).1 (FV.out.2).2)
          clear e1 e2
          have n0 : ¬ 9223372036854775807 < s.size + 1 := by omega
          have n1 : ¬ 9223372036854775807 < s.size + 1 + t1.size := by omega
          have n2 : ¬ 9223372036854775807 < s.size + 1 + t1.size + 1 := by omega
          have n3 : ¬ 9223372036854775807 < s.size + 1 + t1.size + 1 + t2.size := by omega
          have m5 := cell_regrown d5
          have m6 := cell_regrown d6
          go_upto_region 12 with fail
          refine wp_region_quiet_below (by kernel_rfl) (by kernel_rfl) ?_
          repeat (go_big_quiet_step (first | (go_at_call_of 55 (Value.int IntKind.i64 v); exact Q1.out _ _) | (go_at_call_of 55 (Value.int IntKind.i64 k); exact Q2.out _ _)))
          refine wpQuiet_nil ?_
          intro Y hw'
          obtain ⟨⟨dq, osq⟩, hw''⟩ := hw'
          have KY : Hid (Below W.heap.size W Y) := by
            have hx : Below wr.heap.size wr Y := by rw [hw'']; exact below_regrown wr dq osq
            exact KR.out.trans (hx.mono KR.out.size)
          clear hw''
          clear m5 m6 d0 d1 d2 d3 d4 d5 d6
          go_wp2_with fail
          go_ret
          exact ⟨ret_str (str_eq (by rw [EF.out]; simp [list_append, T1.out, T2.out, SR.out])), BW.out.trans (KY.out.mono BW.out.size)⟩
theorem specMsgEntry (n : Bool) (p q : Int) (a1 a2 : Option Addr) (c1 c2 : Nat) (xs ys : List P2) (v k : Int) (w : World) (h1 : Sl w a1 xs) (h2 : Sl w a2 ys) (hf : WfE ⟨n, p, q, xs, ys, v, k⟩) (lx : xs.length ≤ 2 ^ 30) (ly : ys.length ≤ 2 ^ 30) :
    Calls Tryd.prog 27 #[.agg #[.bool n, .int .i64 p, .int .i64 q, .slice a1 xs.length c1, .slice a2 ys.length c2, .int .i64 v, .int .i64 k]] w fun e w' => e = .returned (.string (str (entText ⟨n, p, q, xs, ys, v, k⟩))) ∧ Below w.heap.size w w' := by
  cases n with
  | false => exact specEntryRun p q a1 a2 c1 c2 xs ys v k w h1 h2 hf lx ly
  | true => exact specEntryNone p q a1 a2 xs.length ys.length c1 c2 v k w
end Go.Proofs.YtokbakphfodabaaDoor.Own

namespace Go.Proofs.YtokbakphfodabaaDoor.Own
open Go.RowKit

theorem pow10_datum : (Rows.laid_internal_strconv_uint64pow10 : DataW Unit) = Lib.tabData .u64 Lib.pow10Tab := by kernel_rfl

theorem door_of {W : World} {a b : String × DataW Unit} {r : List (String × DataW Unit)} (h : laidMet Tryd.prog (a :: b :: ("internal/strconv.uint64pow10", Rows.laid_internal_strconv_uint64pow10) :: r) W) : Tab W := by
  have h2 := h.tail.tail
  rw [pow10_datum] at h2
  exact Lib.tabIs_of_head (g := 6) (by kernel_rfl) (by kernel_rfl) Tryd.underlying172 Tryd.underlying166 (by kernel_rfl) (by kernel_rfl) h2
end Go.Proofs.YtokbakphfodabaaDoor.Own

namespace Go.Proofs.YtokbakphfodabaaDoor.Own
open Go.RowKit

/-- Of the blocks that were there none but rb has turned. -/
structure Bar (rb : Nat) (w w' : World) : Prop where
  os : w'.os = w.os
  tape : w'.tape = w.tape
  output : w'.output = w.output
  size : w.heap.size ≤ w'.heap.size
  block : ∀ k, k < w.heap.size → k ≠ rb → w'.heap[k]? = w.heap[k]?

theorem Bar.refl (rb : Nat) (w : World) : Bar rb w w := ⟨rfl, rfl, rfl, Nat.le_refl _, fun _ _ _ => rfl⟩
theorem Bar.trans {rb : Nat} {a b c : World} (h : Bar rb a b) (k : Bar rb b c) : Bar rb a c :=
  ⟨k.os.trans h.os, k.tape.trans h.tape, k.output.trans h.output, Nat.le_trans h.size k.size, fun i hi hn => (k.block i (Nat.lt_of_lt_of_le hi h.size) hn).trans (h.block i hi hn)⟩
theorem Bar.ofBelow {rb : Nat} {w w' : World} (h : Below w.heap.size w w') : Bar rb w w' := ⟨h.os, h.tape, h.output, h.size, fun k hk _ => h.block k hk⟩
theorem Bar.ofOnly {rb : Nat} {w w' : World} (h : Only rb w w') : Bar rb w w' := ⟨h.os, h.tape, h.output, Nat.le_of_eq h.size.symm, fun k _ hn => h.block k hn⟩
theorem Bar.setCell {rb : Nat} {a w : World} (h : Bar rb a w) {p : Addr} (hp : a.heap.size ≤ p.block) (v : Value) : Bar rb a (w.setCell p v) :=
  ⟨h.os, h.tape, h.output, by simpa [World.setCell] using h.size, fun k hk hn => by rw [Below.heap_setCell _ _ _ _ (by omega)]; exact h.block k hk hn⟩
theorem Bar.alloc {rb : Nat} {a w : World} (h : Bar rb a w) (o : Obj) : Bar rb a (w.alloc o) :=
  h.trans (Bar.ofBelow ((Below.refl _ _).alloc (Nat.le_refl _) _))
theorem Bar.below {rb B : Nat} {w w' : World} (h : Bar rb w w') (hB : B ≤ rb) (hB2 : B ≤ w.heap.size) : Below B w w' := ⟨h.os, h.tape, h.output, h.size, fun k hk => h.block k (by omega) (by omega)⟩
end Go.Proofs.YtokbakphfodabaaDoor.Own

namespace Go.Proofs.YtokbakphfodabaaDoor.Own
open Go.RowKit

/-- Bytes in memory, in a block below B. -/
def Bytes (w : World) (B : Nat) (a : Option Addr) (n : Nat) : Prop := n = 0 ∨ ∃ b off, a = some ⟨b, off, none⟩ ∧ b < B ∧ ∀ i, i < n → ∃ z : Nat, z < 256 ∧ w.cell? ⟨b, off + i, none⟩ = some (.int .u8 z)

/-- A reader in block rb, at place p; what it reads lies below B. -/
def Rd (w : World) (rb B : Nat) (p : Nat) : Prop := rb < B ∧ B ≤ w.heap.size ∧ ∃ a n c, w.cell? ⟨rb, 0, none⟩ = some (.slice a n c) ∧ w.cell? ⟨rb, 1, none⟩ = some (.int .i64 p) ∧ (∀ o, w.frozen? ⟨rb, o, none⟩ = false) ∧ n ≤ 2000 ∧ Bytes w B a n ∧ (n = 0 ∨ ∀ x, a = some x → x.block ≠ rb)

theorem Bar.at {rb : Nat} {w w' : World} (h : Bar rb w w') {b off : Nat} {xs : List (Int × Int)} (hx : BoxAt w b off xs) (hb : b ≠ rb) : BoxAt w' b off xs := by
  have e : ∀ o, w'.cell? ⟨b, o, none⟩ = w.cell? ⟨b, o, none⟩ := fun o => World.cell?_of_block (w := w) (a := ⟨b, o, none⟩) (h.block b hx.1 hb)
  refine ⟨Nat.lt_of_lt_of_le hx.1 h.size, fun i hi => ?_⟩
  rw [e, e]; exact hx.2 i hi

theorem Rd.keep {w w' : World} {rb B p : Nat} (h : Rd w rb B p) (hs : w.heap.size ≤ w'.heap.size) (hk : ∀ k, k < B → w'.heap[k]? = w.heap[k]?) : Rd w' rb B p := by
  obtain ⟨hrb, hB, a, n, c, c0, c1, hfr, hn, hby, hne⟩ := h
  have e : ∀ b o, b < B → w'.cell? ⟨b, o, none⟩ = w.cell? ⟨b, o, none⟩ := fun b o hb => World.cell?_of_block (w := w) (a := ⟨b, o, none⟩) (hk b hb)
  refine ⟨hrb, Nat.le_trans hB hs, a, n, c, by rw [e _ _ hrb]; exact c0, by rw [e _ _ hrb]; exact c1, fun o => ?_, hn, ?_, hne⟩
  · rw [World.frozen?_of_block (w := w) (a := ⟨rb, o, none⟩) (hk rb hrb)]; exact hfr o
  · rcases hby with h | ⟨b, off, rfl, hb, hz⟩
    · exact .inl h
    · exact .inr ⟨b, off, rfl, hb, fun i hi => by rw [e _ _ hb]; exact hz i hi⟩
theorem Rd.below {w w' : World} {rb B p : Nat} (h : Rd w rb B p) (hb : Below w.heap.size w w') : Rd w' rb B p := h.keep hb.size fun k hk => hb.block k (Nat.lt_of_lt_of_le hk h.2.1)
theorem Rd.setCell {w : World} {rb B p : Nat} (h : Rd w rb B p) {q : Addr} (hq : B ≤ q.block) (v : Value) : Rd (w.setCell q v) rb B p := h.keep (by simp [World.setCell]) fun k hk => Below.heap_setCell _ _ _ _ (by omega)
theorem Rd.alloc {w : World} {rb B p : Nat} (h : Rd w rb B p) (o : Obj) : Rd (w.alloc o) rb B p := h.below ((Below.refl _ _).alloc (Nat.le_refl _) _)

theorem rd_next {w : World} {rb B p : Nat} (h : Rd w rb B p) : Rd (w.setCell ⟨rb, 1, none⟩ (.int .i64 ((p : Int) + 1))) rb B (p + 1) ∧ Only rb w (w.setCell ⟨rb, 1, none⟩ (.int .i64 ((p : Int) + 1))) := by
  obtain ⟨hrb, hB, a, n, c, c0, c1, hfr, hn, hby, hne⟩ := h
  refine ⟨⟨hrb, by simpa [World.setCell] using hB, a, n, c, ?_, ?_, ?_, hn, ?_, hne⟩, (Only.refl _ _).setCell _⟩
  · rw [setCell_cell_other _ _ _ _ _ (by omega)]; exact c0
  · rw [setCell_cell_same _ _ _ _ _ c1]; rfl
  · intro o; simpa using hfr o
  · rcases hby with h | ⟨b, off, rfl, hb, hz⟩
    · exact .inl h
    rcases hne with h | hne
    · exact .inl h
    · refine .inr ⟨b, off, rfl, hb, fun i hi => ?_⟩
      rw [World.cell?_setCell_other _ _ _ _ (by intro e; injection e with e1; exact hne _ rfl e1.symm)]
      exact hz i hi

theorem rd_drew {w w' : World} {rb B p : Nat} (h : Rd w rb B p ∧ Only rb w' w) (n : Nat) : Rd (w.drewN n) rb B p ∧ Only rb w' (w.drewN n) := by
  obtain ⟨h, o⟩ := h
  exact ⟨h, ⟨o.os, o.tape, o.output, o.size, o.block, o.frozen⟩⟩

theorem xor_nonneg (a b : Int) (ha : 0 ≤ a) (ha2 : a < 2 ^ 62) (hb : 0 ≤ b) (hb2 : b < 2 ^ 62) : 0 ≤ bits .xor .i64 a b := by
  obtain ⟨x, rfl⟩ := Int.eq_ofNat_of_zero_le ha
  obtain ⟨y, rfl⟩ := Int.eq_ofNat_of_zero_le hb
  have hx : x ^^^ y < 2 ^ 62 := Nat.xor_lt_two_pow (by omega) (by omega)
  have h1 : (BitVec.ofInt 64 (x : Int)).toNat = x := by
    rw [BitVec.ofInt_natCast, BitVec.toNat_ofNat]; exact Nat.mod_eq_of_lt (by omega)
  have h2 : (BitVec.ofInt 64 (y : Int)).toNat = y := by
    rw [BitVec.ofInt_natCast, BitVec.toNat_ofNat]; exact Nat.mod_eq_of_lt (by omega)
  show 0 ≤ IntKind.i64.wrap ((BitVec.ofInt 64 (x : Int) ^^^ BitVec.ofInt 64 (y : Int)).toNat : Int)
  rw [BitVec.toNat_xor, h1, h2, IntKind.wrap_i64]
  omega

set_option maxHeartbeats 2000000 in
theorem pick (rb B p : Nat) (m : Int) (w : World) (h : Rd w rb B p) (hp : p ≤ 2 ^ 40) (hm : 1 ≤ m) (hm2 : m ≤ 2 ^ 40) :
    Calls Tryd.prog 31 #[.pointer (some ⟨rb, 0, none⟩), .int .i64 m] w fun e w' => (∃ r : Int, e = .returned (.int .i64 r) ∧ 0 ≤ r ∧ r < m) ∧ Rd w' rb B (p + 1) ∧ Only rb w w' := by
  have NX : Hid (Rd (w.setCell ⟨rb, 1, none⟩ (.int .i64 ((p : Int) + 1))) rb B (p + 1) ∧ Only rb w (w.setCell ⟨rb, 1, none⟩ (.int .i64 ((p : Int) + 1)))) := rd_next h
  obtain ⟨hrb, hBs, a, n, c, c0, c1, hfr, hn, hby, hne⟩ := h
  have f1 := hfr 1
  have HF : Hid (∀ o, w.frozen? ⟨rb, o, none⟩ = false) := hfr
  have HB : Hid (Bytes w B a n) := hby
  have HN : Hid (n = 0 ∨ ∀ x, a = some x → x.block ≠ rb) := hne
  clear hfr hby hne
  by_cases h0 : n = 0
  · have h0' : ((n : Int) == 0) = true := by simp [h0]
    clear h0
    go_enter Tryd.func31, Tryd.ntmps31
    go_wp2
    go_ret
    exact ⟨⟨0, rfl, by omega, by omega⟩, NX.out⟩
  · have h0' : ((n : Int) == 0) = false := by simp; omega
    by_cases hlt : p < n
    · rcases HB.out with h | ⟨b, off, rfl, hb, hz⟩
      · omega
      obtain ⟨z, hz1, hz2⟩ := hz p hlt
      clear hz
      have hbr : ¬ b = rb := by
        rcases HN.out with h | h
        · omega
        · exact h _ rfl
      have hbr2 : ¬ rb = b := fun e => hbr e.symm
      go_enter Tryd.func31, Tryd.ntmps31
      go_wp2
      go_ret
      refine ⟨⟨_, rfl, ?_, ?_⟩, NX.out⟩
      · exact Int.emod_nonneg _ (by omega)
      · exact Int.emod_lt_of_pos _ (by omega)
    · rcases HB.out with h | ⟨b, off, rfl, hb, hz⟩
      · omega
      obtain ⟨i1, e1, l1⟩ : ∃ i1 : Nat, (p : Int) % (n : Int) = i1 ∧ i1 < n := ⟨p % n, by simp, Nat.mod_lt _ (by omega)⟩
      obtain ⟨i2, e2, l2⟩ : ∃ i2 : Nat, ((p : Int) * 7 + 3) % (n : Int) = i2 ∧ i2 < n := ⟨(p * 7 + 3) % n, by simp, Nat.mod_lt _ (by omega)⟩
      obtain ⟨q, e3, l3⟩ : ∃ q : Nat, (p : Int) / (n : Int) = q ∧ q ≤ p := ⟨p / n, by simp, Nat.div_le_self _ _⟩
      obtain ⟨z1, hz1, hz2⟩ := hz i1 l1
      obtain ⟨z2, hz3, hz4⟩ := hz i2 l2
      clear hz
      have hbr : ¬ b = rb := by
        rcases HN.out with h | h
        · omega
        · exact h _ rfl
      have hbr2 : ¬ rb = b := fun e => hbr e.symm
      have hpos : (0 : Int) < (n : Int) := by omega
      have L1 : (i1 : Int) < (n : Int) := by omega
      have L2 : (i2 : Int) < (n : Int) := by omega
      go_enter Tryd.func31, Tryd.ntmps31
      go_wp2
      go_quiet (fail)
      go_wp2
      go_ret
      refine ⟨⟨_, rfl, ?_, ?_⟩, rd_drew NX.out _⟩
      · exact Int.tmod_nonneg _ (xor_nonneg _ _ (by omega) (by omega) (by omega) (by omega))
      · exact Int.tmod_lt_of_pos _ (by omega)

/-- A list of numbers in block lb. -/
def Nums (w : World) (lb : Nat) (zs : List Int) : Prop := lb < w.heap.size ∧ ∀ i, i < zs.length → w.cell? ⟨lb, i, none⟩ = some (.int .i64 (zs.getD i 0))

set_option maxHeartbeats 1000000 in
theorem num (rb B p lb c n : Nat) (zs : List Int) (w : World) (h : Rd w rb B p) (hp : p ≤ 2 ^ 40) (hz : Nums w lb zs) (hzl : zs.length = n) (h1 : 1 ≤ n) (h2 : n ≤ 2 ^ 40) (hl : lb ≠ rb) :
    Calls Tryd.prog 57 #[.pointer (some ⟨rb, 0, none⟩), .slice (some ⟨lb, 0, none⟩) n c] w fun e w' => (∃ r : Int, e = .returned (.int .i64 r) ∧ r ∈ zs) ∧ Rd w' rb B (p + 1) ∧ Only rb w w' := by
  have HR : Hid (Rd w rb B p) := h
  have HZ : Hid (Nums w lb zs) := hz
  have HL : Hid (zs.length = n) := hzl
  clear h hz hzl
  go_enter Tryd.func57, Tryd.ntmps57
  go_wp2_with fail
  refine (pick rb B p n w HR.out hp (by omega) (by omega)).mono ?_
  rintro e w1 ⟨⟨r, rfl, r0, r1⟩, hR, hO⟩
  obtain ⟨k, rfl⟩ := Int.eq_ofNat_of_zero_le r0
  have hk : k < n := by omega
  have hc : w1.cell? ⟨lb, k, none⟩ = some (.int .i64 (zs.getD k 0)) := by
    rw [hO.cell (p := ⟨lb, k, none⟩) hl]; exact HZ.out.2 k (by rw [HL.out]; exact hk)
  obtain ⟨v, hv⟩ : ∃ v, v = zs.getD k 0 := ⟨_, rfl⟩
  rw [← hv] at hc
  have HV : Hid (v = zs.getD k 0) := hv
  have HF : Hid (Rd w1 rb B (p + 1) ∧ Only rb w w1) := ⟨hR, hO⟩
  clear hv hR hO
  go_wp2
  go_ret
  refine ⟨⟨v, rfl, ?_⟩, HF.out⟩
  rw [HV.out]
  have := HL.out
  simp [List.getD, show k < zs.length by omega]

set_option maxHeartbeats 1000000 in
theorem l15Open (a : Option Addr) (n c : Nat) (w : World) (h : Bytes w w.heap.size a n) (hc : n ≤ c) (hm : c ≤ maxLen) :
    Calls Tryd.prog 28 #[.slice a n c] w fun e w' => e = .returned (.pointer (some ⟨w.heap.size, 0, none⟩)) ∧ Rd w' w.heap.size (w.heap.size + 1) 0 ∧ Below w.heap.size w w' := by
  unfold maxLen at hm
  have HB : Hid (Bytes w w.heap.size a n) := h
  have key : ∀ m, m ≤ n → m ≤ 2000 → ∀ c', Rd (w.alloc (.cells #[.slice a m c', .int .i64 0] 103)) w.heap.size (w.heap.size + 1) 0 := by
    intro m hm1 hm2 c'
    refine ⟨by omega, by rw [size_new]; omega, a, m, c', by rw [cell_heap (heap_new _ _)]; rfl, by rw [cell_heap (heap_new _ _)]; rfl, fun o => frozen_heap (heap_new _ _) o, hm2, ?_, ?_⟩
    · rcases HB.out with h | ⟨b, off, rfl, hb, hz⟩
      · exact .inl (by omega)
      · refine .inr ⟨b, off, rfl, by omega, fun i hi => ?_⟩
        obtain ⟨z, hz1, hz2⟩ := hz i (by omega)
        exact ⟨z, hz1, by rw [((Below.refl w.heap.size w).alloc (Nat.le_refl _) _).cell (p := ⟨b, off + i, none⟩) hb]; exact hz2⟩
    · rcases HB.out with h | ⟨b, off, rfl, hb, hz⟩
      · exact .inl (by omega)
      · right
        intro x hx
        injection hx with hx
        subst hx
        exact Nat.ne_of_lt hb
  have KEY : Hid (∀ m, m ≤ n → m ≤ 2000 → ∀ c', Rd (w.alloc (.cells #[.slice a m c', .int .i64 0] 103)) w.heap.size (w.heap.size + 1) 0) := key
  clear key h
  by_cases hn : n ≤ 2000
  · go_enter Tryd.func28, Tryd.ntmps28
    go_wp2
    go_ret
    exact ⟨rfl, KEY.out n (Nat.le_refl _) hn _, (Below.refl _ _).alloc (Nat.le_refl _) _⟩
  · go_enter Tryd.func28, Tryd.ntmps28
    go_wp2
    go_ret
    exact ⟨rfl, KEY.out 2000 (by omega) (by omega) _, (Below.refl _ _).alloc (Nat.le_refl _) _⟩
end Go.Proofs.YtokbakphfodabaaDoor.Own

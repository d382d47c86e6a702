/-
  Own texts, bundled: EntTextE, MsgTextV.
-/
import Derived.Test.YtmcpefikmcaemaaGreatDoorPk16
import Derived.Deep.Cut
import Derived.Test.YtmcpefikmcaemaaGreatDoorPk15
namespace Go.Proofs.YtmcpefikmcaemaaGreatDoor.Own
open Go.RowKit
set_option linter.unusedVariables false
set_option linter.unusedSimpArgs false

set_option maxRecDepth 100000 in
set_option maxHeartbeats 4000000 in
theorem implEntryNone (T : TypeId) (hT : Heads T) (B b : Nat) (l : List UInt8) (p q : Int) (a1 a2 : Option Addr) (n1 n2 c1 c2 : Nat) (v k : Int) (w : World) (h : Bd T B b l w) (ll : l.length ≤ 2 ^ 42) (hBw : B ≤ w.heap.size) :
    Calls Tryz.prog 80 #[.pointer (some ⟨b, 0, none⟩), .agg #[.bool true, .int .i64 p, .int .i64 q, .slice a1 n1 c1, .slice a2 n2 c2, .int .i64 v, .int .i64 k]] w fun e w' => e = .returned (.tuple #[]) ∧ Bd T B b (l ++ [110, 111, 110, 101]) w' ∧ Below B w w' ∧ Lib.OthersKept 5 (some b) w w' := by
  obtain ⟨W, hW⟩ : ∃ W, W = w.alloc (.cells #[.bool true, .int .i64 p, .int .i64 q, .slice a1 n1 c1, .slice a2 n2 c2, .int .i64 v, .int .i64 k] 30) := ⟨_, rfl⟩
  have bW : Below w.heap.size w W := by rw [hW]; exact (Below.refl _ _).alloc (Nat.le_refl _) _
  have BW : Hid (Below B w W) := bW.mono hBw
  have C : Hid _ := writeG T hT B b l [110, 111, 110, 101] W (h.below bW) (by simp only [List.length_cons, List.length_nil]; omega) (Nat.le_trans hBw bW.size)
  have K0 : Hid (Lib.OthersKept 5 (some b) w W) := kept_below bW
  have HW : Hid (W = _) := hW
  clear hW bW h
  go_enter Tryz.func80, Tryz.ntmps80
  go_wp2_with fail
  rw [← HW.out]
  refine Calls.mono C.out ?_
  rintro e w1 ⟨rfl, d1, b1, k1⟩
  have D1 : Hid (Bd T B b (l ++ [110, 111, 110, 101]) w1) := d1
  have B1 : Hid (Below B w w1) := BW.out.trans b1
  have K1 : Hid (Lib.OthersKept 5 (some b) w w1) := K0.out.trans k1
  clear d1 b1 k1
  go_wp2
  first | go_end0 | refine bodyPost_ret (results_none rfl _ _ _) rfl ?_
  exact ⟨rfl, D1.out, B1.out, K1.out⟩

set_option maxRecDepth 100000 in
set_option maxHeartbeats 4000000 in
theorem implEntryRun (T : TypeId) (hT : Heads T) (B b : Nat) (l : List UInt8) (p q : Int) (a1 a2 : Option Addr) (c1 c2 : Nat) (xs ys : List P2) (v k : Int) (w : World) (h : Bd T B b l w) (hf : WfE ⟨false, p, q, xs, ys, v, k⟩) (hTab : ∀ w', Below B w w' → Tab w') (hX : ∀ w', Below B w w' → Sl w' a1 xs) (hY : ∀ w', Below B w w' → Sl w' a2 ys) (lx : xs.length ≤ 2 ^ 30) (ly : ys.length ≤ 2 ^ 30) (ll : l.length ≤ 2 ^ 42) (hBw : B ≤ w.heap.size) :
    Calls Tryz.prog 80 #[.pointer (some ⟨b, 0, none⟩), .agg #[.bool false, .int .i64 p, .int .i64 q, .slice a1 xs.length c1, .slice a2 ys.length c2, .int .i64 v, .int .i64 k]] w fun e w' => e = .returned (.tuple #[]) ∧ Bd T B b (l ++ entText ⟨false, p, q, xs, ys, v, k⟩) w' ∧ Below B w w' ∧ Lib.OthersKept 5 (some b) w w' := by
  have HT : Hid (∀ w', Below B w w' → Tab w') := hTab
  have HX : Hid (∀ w', Below B w w' → Sl w' a1 xs) := hX
  have HY : Hid (∀ w', Below B w w' → Sl w' a2 ys) := hY
  obtain ⟨fp, fq, wx, wy, fv, fk⟩ := hf
  have FP : Hid (Fits p) := fp
  have FQ : Hid (Fits q) := fq
  have WX : Hid (WfP xs) := wx
  have WY : Hid (WfP ys) := wy
  have FV : Hid (Fits v) := fv
  have FK : Hid (Fits k) := fk
  have SB : Hid (B ≤ w.heap.size) := hBw
  have HL := head_len p q fp fq
  simp only at fp fq wx wy fv fk
  obtain ⟨L1, hL1⟩ : ∃ L1, L1 = l ++ headText p q := ⟨_, rfl⟩
  have EL1 : Hid (((l ++ ([] ++ Lib.itoa p)) ++ ([46] ++ Lib.itoa q)) ++ [123] = L1) := by show _ = _; rw [hL1]; simp [headText]
  have l1 : L1.length ≤ 2 ^ 42 + 44 := by rw [hL1, List.length_append]; omega
  obtain ⟨L2, hL2⟩ : ∃ L2, L2 = pairsTo 63 47 L1 xs xs.length := ⟨_, rfl⟩
  have M1 : Hid (∀ j, j ≤ xs.length → (pairsTo 63 47 L1 xs j).length ≤ 2 ^ 43) := fun j hj => by have := pairsTo_len 63 47 L1 xs wx j hj; omega
  have l2 : L2.length ≤ 2 ^ 42 + 44 + 44 * 2 ^ 30 := by rw [hL2]; have := pairsTo_len 63 47 L1 xs wx _ (Nat.le_refl _); omega
  have M2 : Hid (∀ j, j ≤ ys.length → (pairsTo 33 61 L2 ys j).length ≤ 2 ^ 43) := fun j hj => by have := pairsTo_len 33 61 L2 ys wy j hj; omega
  have EF : Hid ((pairsTo 33 61 L2 ys ys.length ++ ([125] ++ Lib.itoa v)) ++ ([58] ++ Lib.itoa k) = l ++ entText ⟨false, p, q, xs, ys, v, k⟩) := by
    show _ = _
    rw [← entText_behind l ⟨false, p, q, xs, ys, v, k⟩ rfl, hL2, hL1]
    simp
  have EL2 : Hid (pairsTo 63 47 L1 xs xs.length = L2) := hL2.symm
  generalize l ++ entText ⟨false, p, q, xs, ys, v, k⟩ = FIN at EF ⊢
  have CN : Hid (∀ (l' m : List UInt8) (z : Int) (w' : World), Fits z → Bd T B b l' w' → Below B w w' → l'.length + m.length ≤ 2 ^ 44 → Calls Tryz.prog 79 #[.pointer (some ⟨b, 0, none⟩), .string (str m), .int .i64 z] w' fun e w'' => e = .returned (.tuple #[]) ∧ Bd T B b (l' ++ (m ++ Lib.itoa z)) w'' ∧ Below B w' w'' ∧ Lib.OthersKept 5 (some b) w' w'') :=
    fun l' m z w' hz hd hb hlen => implNumber T hT B b l' m z w' hd hz (fun w'' hw => HT.out w'' (hb.trans hw)) hlen (Nat.le_trans hBw hb.size)
  have CW : Hid (∀ (l' m : List UInt8) (w' : World), Bd T B b l' w' → Below B w w' → l'.length + m.length ≤ 2 ^ 46 → Calls Tryz.prog 78 #[.pointer (some ⟨b, 0, none⟩), .string (str m)] w' fun e w'' => e = .returned (.tuple #[.int .i64 m.length, .nilIface]) ∧ Bd T B b (l' ++ m) w'' ∧ Below B w' w'' ∧ Lib.OthersKept 5 (some b) w' w'') :=
    fun l' m w' hd hb hlen => writeG T hT B b l' m w' hd hlen (Nat.le_trans hBw hb.size)
  have hblt := h.lt
  have NEE : Hid (w.heap.size ≠ b) := by show _ ≠ _; omega
  obtain ⟨W, hW⟩ : ∃ W, W = w.alloc (.cells #[.bool false, .int .i64 p, .int .i64 q, .slice a1 xs.length c1, .slice a2 ys.length c2, .int .i64 v, .int .i64 k] 30) := ⟨_, rfl⟩
  have bW : Below w.heap.size w W := by rw [hW]; exact (Below.refl _ _).alloc (Nat.le_refl _) _
  have B0 : Hid (Below B w W) := bW.mono hBw
  have E0 : Hid (Blk W w.heap.size #[.bool false, .int .i64 p, .int .i64 q, .slice a1 xs.length c1, .slice a2 ys.length c2, .int .i64 v, .int .i64 k] 30) := by show Blk _ _ _ _; rw [hW]; exact Blk.new _ _ _
  have D0 : Hid (Bd T B b l W) := h.below bW
  have K0 : Hid (Lib.OthersKept 5 (some b) w W) := kept_below bW
  have ip := itoa_len p fp
  have iq := itoa_len q fq
  have LB0 : Hid (l.length + ([] : List UInt8).length ≤ 2 ^ 44) := by show _ ≤ _; simp only [List.length_nil]; omega
  have LB1 : Hid ((l ++ ([] ++ Lib.itoa p)).length + ([46] : List UInt8).length ≤ 2 ^ 44) := by show _ ≤ _; simp only [List.length_append, List.length_nil, List.length_cons]; omega
  have LB2 : Hid (((l ++ ([] ++ Lib.itoa p)) ++ ([46] ++ Lib.itoa q)).length + ([123] : List UInt8).length ≤ 2 ^ 46) := by show _ ≤ _; simp only [List.length_append, List.length_nil, List.length_cons]; omega
  have iv := itoa_len v fv
  have LB5 : Hid ((pairsTo 33 61 L2 ys ys.length).length + ([125] : List UInt8).length ≤ 2 ^ 44) := by show _ ≤ _; have := M2.out ys.length (Nat.le_refl _); simp only [List.length_cons, List.length_nil]; omega
  have LB6 : Hid ((pairsTo 33 61 L2 ys ys.length ++ ([125] ++ Lib.itoa v)).length + ([58] : List UInt8).length ≤ 2 ^ 44) := by show _ ≤ _; have := M2.out ys.length (Nat.le_refl _); simp only [List.length_append, List.length_cons, List.length_nil]; omega
  have HW : Hid (W = _) := hW
  clear hW bW h hTab hX hY hT fp fq wx wy fv fk hL1 hL2 l1 l2 HL ll hblt ip iq iv hBw
  have BW := B0.out
  obtain ⟨q0, q1, q2, q3, q4, q5, q6⟩ := E0.out.cells7
  clear BW
  go_enter Tryz.func80, Tryz.ntmps80
  go_upto_region 3 with fail
  rw [← HW.out]
  go_region_with (go_at_call 79; refine (CN.out (l) [] p _ FP.out ?_ ?_ ?_).mono ?_; exact Bd.below D0.out (Below.drew (Below.refl _ _)); exact Below.drew B0.out; exact LB0.out; rintro e w1 ⟨rfl, d', b', k'⟩; have D1 : Hid (Bd T B b ((l) ++ ([] ++ Lib.itoa p)) w1) := d'; have B1 : Hid (Below B w w1) := (Below.drew B0.out).trans b'; have K1 : Hid (Lib.OthersKept 5 (some b) w w1) := (Lib.OthersKept.drew K0.out).trans k'; have E1 : Hid (Blk w1 w.heap.size _ _) := E0.out.kept k' NEE.out (by decide); clear d' b' k')
  clear q0 q1 q2 q3 q4 q5 q6
  obtain ⟨q0, q1, q2, q3, q4, q5, q6⟩ := E1.out.cells7
  go_upto_region 4 with fail
  go_region_with (go_at_call 79; refine (CN.out (l ++ ([] ++ Lib.itoa p)) [46] q _ FQ.out ?_ ?_ ?_).mono ?_; exact Bd.below D1.out (Below.drew (Below.refl _ _)); exact Below.drew B1.out; exact LB1.out; rintro e w2 ⟨rfl, d', b', k'⟩; have D2 : Hid (Bd T B b ((l ++ ([] ++ Lib.itoa p)) ++ ([46] ++ Lib.itoa q)) w2) := d'; have B2 : Hid (Below B w w2) := (Below.drew B1.out).trans b'; have K2 : Hid (Lib.OthersKept 5 (some b) w w2) := (Lib.OthersKept.drew K1.out).trans k'; have E2 : Hid (Blk w2 w.heap.size _ _) := E1.out.kept k' NEE.out (by decide); clear d' b' k')
  clear q0 q1 q2 q3 q4 q5 q6
  obtain ⟨q0, q1, q2, q3, q4, q5, q6⟩ := E2.out.cells7
  go_wp2_with fail
  refine (CW.out _ [123] w2 D2.out B2.out LB2.out).mono ?_
  rintro e w3 ⟨rfl, d', b', k'⟩
  rw [EL1.out] at d'
  have D3 : Hid (Bd T B b L1 w3) := d'
  have B3 : Hid (Below B w w3) := B2.out.trans b'
  have K3 : Hid (Lib.OthersKept 5 (some b) w w3) := K2.out.trans k'
  have E3 : Hid (Blk w3 w.heap.size #[.bool false, .int .i64 p, .int .i64 q, .slice a1 xs.length c1, .slice a2 ys.length c2, .int .i64 v, .int .i64 k] 30) := E2.out.kept k' NEE.out (by decide)
  clear d' b' k' q0 q1 q2 q3 q4 q5 q6 D0 D1 D2 B0 B1 B2 E0 E1 E2 K0 K1 K2 LB0 LB1 LB2
  obtain ⟨q0, q1, q2, q3, q4, q5, q6⟩ := E3.out.cells7
  go_wp2_with fail
  clear q0 q1 q2 q3 q4 q5 q6
  go_loopw [38] (fun i wr => ∃ j : Nat, j ≤ xs.length ∧ i = .int .i64 j ∧ Hid (Bd T B b (pairsTo 63 47 L1 xs j) wr) ∧ Hid (Below B w wr) ∧ Hid (Blk wr w.heap.size #[.bool false, .int .i64 p, .int .i64 q, .slice a1 xs.length c1, .slice a2 ys.length c2, .int .i64 v, .int .i64 k] 30) ∧ Hid (Lib.OthersKept 5 (some b) w wr)) (fun i _ => xs.length - (intOf i).toNat)
  case atStart => exact ⟨0, Nat.zero_le _, rfl, D3.out, B3.out, E3.out, K3.out⟩
  case round =>
    obtain ⟨j, hj, rfl, DR, BR, ER, KR⟩ := hrel
    by_cases hlt : j < xs.length
    · have hji : (j : Int) < (xs.length : Int) := by omega
      rcases HX.out wr BR.out with hh | ⟨b1, o1, rfl, hb1, hh⟩
      · rw [hh] at hlt; simp at hlt
      obtain ⟨d0, d1⟩ := hh j hlt
      have FX := WX.out j hlt
      have NX : Hid ((pairsTo 63 47 L1 xs j ++ ([63] ++ Lib.itoa (xs.getD j (0, 0)).1)) ++ ([47] ++ Lib.itoa (xs.getD j (0, 0)).2) = pairsTo 63 47 L1 xs (j + 1)) := by show _ = _; simp [pairsTo, pairText]
      have LB0 : Hid ((pairsTo 63 47 L1 xs j).length + ([63] : List UInt8).length ≤ 2 ^ 44) := by show _ ≤ _; have := M1.out j (by omega); simp only [List.length_cons, List.length_nil]; omega
      clear hh
      generalize xs.getD j (0, 0) = pr at d0 d1 FX NX
      obtain ⟨p1, p2⟩ := pr
      simp only at d0 d1 FX NX
      have ip := itoa_len p1 FX.1
      have F1 : Hid (Fits p1) := FX.1
      have F2 : Hid (Fits p2) := FX.2
      have LB1 : Hid ((pairsTo 63 47 L1 xs j ++ ([63] ++ Lib.itoa p1)).length + ([47] : List UInt8).length ≤ 2 ^ 44) := by show _ ≤ _; have := M1.out j (by omega); simp only [List.length_append, List.length_cons, List.length_nil]; omega
      clear ip FX
      have hblt := DR.out.lt
      obtain ⟨X, hX⟩ : ∃ X, X = wr.alloc (.cells #[.int .i64 p1, .int .i64 p2] 67) := ⟨_, rfl⟩
      have bX : Below wr.heap.size wr X := by rw [hX]; exact (Below.refl _ _).alloc (Nat.le_refl _) _
      have B0 : Hid (Below B w X) := BR.out.trans (bX.mono (Nat.le_trans SB.out BR.out.size))
      have D0 : Hid (Bd T B b (pairsTo 63 47 L1 xs j) X) := DR.out.below bX
      have E0 : Hid (Blk X w.heap.size _ _) := ER.out.keep bX
      have K0 : Hid (Lib.OthersKept 5 (some b) w X) := KR.out.trans (kept_below bX)
      have R0 : Hid (Blk X wr.heap.size #[.int .i64 p1, .int .i64 p2] 67) := by show Blk _ _ _ _; rw [hX]; exact Blk.new _ _ _
      have NER : Hid (wr.heap.size ≠ b) := by show _ ≠ _; omega
      have HX2 : Hid (X = _) := hX
      clear hX bX hblt
      go_upto_region 9 with fail
      rw [← HX2.out]
      clear d0 d1
      obtain ⟨s0, s1⟩ := R0.out.cells2
      go_region_with (go_at_call 79; refine (CN.out (pairsTo 63 47 L1 xs j) [63] p1 _ F1.out ?_ ?_ ?_).mono ?_; exact Bd.below D0.out (Below.drew (Below.refl _ _)); exact Below.drew B0.out; exact LB0.out; rintro e w1 ⟨rfl, d', b', k'⟩; have D1 : Hid (Bd T B b ((pairsTo 63 47 L1 xs j) ++ ([63] ++ Lib.itoa p1)) w1) := d'; have B1 : Hid (Below B w w1) := (Below.drew B0.out).trans b'; have K1 : Hid (Lib.OthersKept 5 (some b) w w1) := (Lib.OthersKept.drew K0.out).trans k'; have E1 : Hid (Blk w1 w.heap.size _ _) := E0.out.kept k' NEE.out (by decide); have R1 : Hid (Blk w1 wr.heap.size #[.int .i64 p1, .int .i64 p2] 67) := R0.out.kept k' NER.out (by decide); clear d' b' k')
      clear s0 s1
      obtain ⟨s0, s1⟩ := R1.out.cells2
      go_upto_region 10 with fail
      go_region_with (go_at_call 79; refine (CN.out (pairsTo 63 47 L1 xs j ++ ([63] ++ Lib.itoa p1)) [47] p2 _ F2.out ?_ ?_ ?_).mono ?_; exact Bd.below D1.out (Below.drew (Below.refl _ _)); exact Below.drew B1.out; exact LB1.out; rintro e w2 ⟨rfl, d', b', k'⟩; have D2 : Hid (Bd T B b ((pairsTo 63 47 L1 xs j ++ ([63] ++ Lib.itoa p1)) ++ ([47] ++ Lib.itoa p2)) w2) := d'; have B2 : Hid (Below B w w2) := (Below.drew B1.out).trans b'; have K2 : Hid (Lib.OthersKept 5 (some b) w w2) := (Lib.OthersKept.drew K1.out).trans k'; have E2 : Hid (Blk w2 w.heap.size _ _) := E1.out.kept k' NEE.out (by decide); clear d' b' k')
      go_wp2_with fail
      go_roundw
      case rel => exact ⟨j + 1, by omega, by go_num, by show Bd _ _ _ _ _; rw [← NX.out]; exact D2.out, B2.out, E2.out, K2.out⟩
      case measure => simp [intOf]; omega
    · have hji : ¬ (j : Int) < (xs.length : Int) := by omega
      obtain rfl : j = xs.length := by omega
      rw [EL2.out] at DR
      obtain ⟨q0, q1, q2, q3, q4, q5, q6⟩ := ER.out.cells7
      go_wp2_with fail
      clear q0 q1 q2 q3 q4 q5 q6
      go_loopw [59] (fun i wr => ∃ j : Nat, j ≤ ys.length ∧ i = .int .i64 j ∧ Hid (Bd T B b (pairsTo 33 61 L2 ys j) wr) ∧ Hid (Below B w wr) ∧ Hid (Blk wr w.heap.size #[.bool false, .int .i64 p, .int .i64 q, .slice a1 xs.length c1, .slice a2 ys.length c2, .int .i64 v, .int .i64 k] 30) ∧ Hid (Lib.OthersKept 5 (some b) w wr)) (fun i _ => ys.length - (intOf i).toNat)
      case atStart => exact ⟨0, Nat.zero_le _, rfl, DR.out, BR.out, ER.out, KR.out⟩
      case round =>
        obtain ⟨j, hj, rfl, DR, BR, ER, KR⟩ := hrel
        by_cases hlt : j < ys.length
        · have hji : (j : Int) < (ys.length : Int) := by omega
          rcases HY.out wr BR.out with hh | ⟨b1, o1, rfl, hb1, hh⟩
          · rw [hh] at hlt; simp at hlt
          obtain ⟨d0, d1⟩ := hh j hlt
          have FX := WY.out j hlt
          have NX : Hid ((pairsTo 33 61 L2 ys j ++ ([33] ++ Lib.itoa (ys.getD j (0, 0)).1)) ++ ([61] ++ Lib.itoa (ys.getD j (0, 0)).2) = pairsTo 33 61 L2 ys (j + 1)) := by show _ = _; simp [pairsTo, pairText]
          have LB0 : Hid ((pairsTo 33 61 L2 ys j).length + ([33] : List UInt8).length ≤ 2 ^ 44) := by show _ ≤ _; have := M2.out j (by omega); simp only [List.length_cons, List.length_nil]; omega
          clear hh
          generalize ys.getD j (0, 0) = pr at d0 d1 FX NX
          obtain ⟨p1, p2⟩ := pr
          simp only at d0 d1 FX NX
          have ip := itoa_len p1 FX.1
          have F1 : Hid (Fits p1) := FX.1
          have F2 : Hid (Fits p2) := FX.2
          have LB1 : Hid ((pairsTo 33 61 L2 ys j ++ ([33] ++ Lib.itoa p1)).length + ([61] : List UInt8).length ≤ 2 ^ 44) := by show _ ≤ _; have := M2.out j (by omega); simp only [List.length_append, List.length_cons, List.length_nil]; omega
          clear ip FX
          have hblt := DR.out.lt
          obtain ⟨X, hX⟩ : ∃ X, X = wr.alloc (.cells #[.int .i64 p1, .int .i64 p2] 76) := ⟨_, rfl⟩
          have bX : Below wr.heap.size wr X := by rw [hX]; exact (Below.refl _ _).alloc (Nat.le_refl _) _
          have B0 : Hid (Below B w X) := BR.out.trans (bX.mono (Nat.le_trans SB.out BR.out.size))
          have D0 : Hid (Bd T B b (pairsTo 33 61 L2 ys j) X) := DR.out.below bX
          have E0 : Hid (Blk X w.heap.size _ _) := ER.out.keep bX
          have K0 : Hid (Lib.OthersKept 5 (some b) w X) := KR.out.trans (kept_below bX)
          have R0 : Hid (Blk X wr.heap.size #[.int .i64 p1, .int .i64 p2] 76) := by show Blk _ _ _ _; rw [hX]; exact Blk.new _ _ _
          have NER : Hid (wr.heap.size ≠ b) := by show _ ≠ _; omega
          have HX2 : Hid (X = _) := hX
          clear hX bX hblt
          go_upto_region 15 with fail
          rw [← HX2.out]
          clear d0 d1
          obtain ⟨s0, s1⟩ := R0.out.cells2
          go_region_with (go_at_call 79; refine (CN.out (pairsTo 33 61 L2 ys j) [33] p1 _ F1.out ?_ ?_ ?_).mono ?_; exact Bd.below D0.out (Below.drew (Below.refl _ _)); exact Below.drew B0.out; exact LB0.out; rintro e w1 ⟨rfl, d', b', k'⟩; have D1 : Hid (Bd T B b ((pairsTo 33 61 L2 ys j) ++ ([33] ++ Lib.itoa p1)) w1) := d'; have B1 : Hid (Below B w w1) := (Below.drew B0.out).trans b'; have K1 : Hid (Lib.OthersKept 5 (some b) w w1) := (Lib.OthersKept.drew K0.out).trans k'; have E1 : Hid (Blk w1 w.heap.size _ _) := E0.out.kept k' NEE.out (by decide); have R1 : Hid (Blk w1 wr.heap.size #[.int .i64 p1, .int .i64 p2] 76) := R0.out.kept k' NER.out (by decide); clear d' b' k')
          clear s0 s1
          obtain ⟨s0, s1⟩ := R1.out.cells2
          go_upto_region 16 with fail
          go_region_with (go_at_call 79; refine (CN.out (pairsTo 33 61 L2 ys j ++ ([33] ++ Lib.itoa p1)) [61] p2 _ F2.out ?_ ?_ ?_).mono ?_; exact Bd.below D1.out (Below.drew (Below.refl _ _)); exact Below.drew B1.out; exact LB1.out; rintro e w2 ⟨rfl, d', b', k'⟩; have D2 : Hid (Bd T B b ((pairsTo 33 61 L2 ys j ++ ([33] ++ Lib.itoa p1)) ++ ([61] ++ Lib.itoa p2)) w2) := d'; have B2 : Hid (Below B w w2) := (Below.drew B1.out).trans b'; have K2 : Hid (Lib.OthersKept 5 (some b) w w2) := (Lib.OthersKept.drew K1.out).trans k'; have E2 : Hid (Blk w2 w.heap.size _ _) := E1.out.kept k' NEE.out (by decide); clear d' b' k')
          go_wp2_with fail
          go_roundw
          case rel => exact ⟨j + 1, by omega, by go_num, by show Bd _ _ _ _ _; rw [← NX.out]; exact D2.out, B2.out, E2.out, K2.out⟩
          case measure => simp [intOf]; omega
        · have hji : ¬ (j : Int) < (ys.length : Int) := by omega
          obtain rfl : j = ys.length := by omega
          have D5 : Hid (Bd T B b (pairsTo 33 61 L2 ys ys.length) wr) := DR.out
          have B5 : Hid (Below B w wr) := BR.out
          have E5 : Hid (Blk wr w.heap.size _ _) := ER.out
          have K5 : Hid (Lib.OthersKept 5 (some b) w wr) := KR.out
          obtain ⟨q0, q1, q2, q3, q4, q5, q6⟩ := ER.out.cells7
          go_upto_region 18 with fail
          go_region_with (go_at_call 79; refine (CN.out (pairsTo 33 61 L2 ys ys.length) [125] v _ FV.out ?_ ?_ ?_).mono ?_; exact Bd.below D5.out (Below.drew (Below.refl _ _)); exact Below.drew B5.out; exact LB5.out; rintro e w6 ⟨rfl, d', b', k'⟩; have D6 : Hid (Bd T B b ((pairsTo 33 61 L2 ys ys.length) ++ ([125] ++ Lib.itoa v)) w6) := d'; have B6 : Hid (Below B w w6) := (Below.drew B5.out).trans b'; have K6 : Hid (Lib.OthersKept 5 (some b) w w6) := (Lib.OthersKept.drew K5.out).trans k'; have E6 : Hid (Blk w6 w.heap.size _ _) := E5.out.kept k' NEE.out (by decide); clear d' b' k')
          clear q0 q1 q2 q3 q4 q5 q6
          obtain ⟨q0, q1, q2, q3, q4, q5, q6⟩ := E6.out.cells7
          go_upto_region 19 with fail
          go_region_with (go_at_call 79; refine (CN.out (pairsTo 33 61 L2 ys ys.length ++ ([125] ++ Lib.itoa v)) [58] k _ FK.out ?_ ?_ ?_).mono ?_; exact Bd.below D6.out (Below.drew (Below.refl _ _)); exact Below.drew B6.out; exact LB6.out; rintro e w7 ⟨rfl, d', b', k'⟩; have D7 : Hid (Bd T B b ((pairsTo 33 61 L2 ys ys.length ++ ([125] ++ Lib.itoa v)) ++ ([58] ++ Lib.itoa k)) w7) := d'; have B7 : Hid (Below B w w7) := (Below.drew B6.out).trans b'; have K7 : Hid (Lib.OthersKept 5 (some b) w w7) := (Lib.OthersKept.drew K6.out).trans k'; clear d' b' k')
          go_wp2
          go_end0
          exact ⟨rfl, by rw [← EF.out]; exact D7.out, B7.out, K7.out⟩
end Go.Proofs.YtmcpefikmcaemaaGreatDoor.Own

namespace Go.Proofs.YtmcpefikmcaemaaGreatDoor.Own
open Go.RowKit
set_option linter.unusedVariables false
set_option linter.unusedSimpArgs false

theorem headsMsg : Heads 90 := ⟨by kernel_rfl, by decide⟩

theorem implEntryA (T : TypeId) (hT : Heads T) (B b : Nat) (l : List UInt8) (n : Bool) (p q : Int) (a1 a2 : Option Addr) (c1 c2 : Nat) (xs ys : List P2) (v k : Int) (w : World) (h : Bd T B b l w) (hf : WfE ⟨n, p, q, xs, ys, v, k⟩) (hTab : ∀ w', Below B w w' → Tab w') (hX : ∀ w', Below B w w' → Sl w' a1 xs) (hY : ∀ w', Below B w w' → Sl w' a2 ys) (lx : xs.length ≤ 2 ^ 30) (ly : ys.length ≤ 2 ^ 30) (ll : l.length ≤ 2 ^ 42) (hBw : B ≤ w.heap.size) :
    Calls Tryz.prog 80 #[.pointer (some ⟨b, 0, none⟩), .agg #[.bool n, .int .i64 p, .int .i64 q, .slice a1 xs.length c1, .slice a2 ys.length c2, .int .i64 v, .int .i64 k]] w fun e w' => e = .returned (.tuple #[]) ∧ Bd T B b (l ++ entText ⟨n, p, q, xs, ys, v, k⟩) w' ∧ Below B w w' ∧ Lib.OthersKept 5 (some b) w w' := by
  cases n with
  | true => exact implEntryNone T hT B b l p q a1 a2 xs.length ys.length c1 c2 v k w h ll hBw
  | false => exact implEntryRun T hT B b l p q a1 a2 c1 c2 xs ys v k w h hf hTab hX hY lx ly ll hBw

set_option maxRecDepth 100000 in
set_option maxHeartbeats 4000000 in
theorem implWriteVote (T : TypeId) (hT : Heads T) (B b : Nat) (l : List UInt8) (m : Int) (n : Bool) (p q : Int) (a1 a2 : Option Addr) (c1 c2 : Nat) (xs ys : List P2) (v k : Int) (w : World) (h : Bd T B b l w) (fm : Fits m) (hf : WfE ⟨n, p, q, xs, ys, v, k⟩) (hTab : ∀ w', Below B w w' → Tab w') (hX : ∀ w', Below B w w' → Sl w' a1 xs) (hY : ∀ w', Below B w w' → Sl w' a2 ys) (lx : xs.length ≤ 2 ^ 30) (ly : ys.length ≤ 2 ^ 30) (ll : l.length ≤ 2 ^ 41) (hBw : B ≤ w.heap.size) :
    Calls Tryz.prog 81 #[.pointer (some ⟨b, 0, none⟩), .agg #[.int .i64 m, .bool n, .int .i64 p, .int .i64 q, .slice a1 xs.length c1, .slice a2 ys.length c2, .int .i64 v, .int .i64 k]] w fun e w' => e = .returned (.tuple #[]) ∧ Bd T B b (l ++ voteText (m, ⟨n, p, q, xs, ys, v, k⟩)) w' ∧ Below B w w' ∧ Lib.OthersKept 5 (some b) w w' := by
  have CN : Hid (∀ (l' m : List UInt8) (z : Int) (w' : World), Fits z → Bd T B b l' w' → Below B w w' → l'.length + m.length ≤ 2 ^ 44 → Calls Tryz.prog 79 #[.pointer (some ⟨b, 0, none⟩), .string (str m), .int .i64 z] w' fun e w'' => e = .returned (.tuple #[]) ∧ Bd T B b (l' ++ (m ++ Lib.itoa z)) w'' ∧ Below B w' w'' ∧ Lib.OthersKept 5 (some b) w' w'') :=
    fun l' m z w' hz hd hb hlen => implNumber T hT B b l' m z w' hd hz (fun w'' hw => hTab w'' (hb.trans hw)) hlen (Nat.le_trans hBw hb.size)
  have CE : Hid (∀ (l' : List UInt8) (w' : World), Bd T B b l' w' → Below B w w' → l'.length ≤ 2 ^ 42 → Calls Tryz.prog 80 #[.pointer (some ⟨b, 0, none⟩), .agg #[.bool n, .int .i64 p, .int .i64 q, .slice a1 xs.length c1, .slice a2 ys.length c2, .int .i64 v, .int .i64 k]] w' fun e w'' => e = .returned (.tuple #[]) ∧ Bd T B b (l' ++ entText ⟨n, p, q, xs, ys, v, k⟩) w'' ∧ Below B w' w'' ∧ Lib.OthersKept 5 (some b) w' w'') :=
    fun l' w' hd hb hlen => implEntryA T hT B b l' n p q a1 a2 c1 c2 xs ys v k w' hd hf (fun w'' hw => hTab w'' (hb.trans hw)) (fun w'' hw => hX w'' (hb.trans hw)) (fun w'' hw => hY w'' (hb.trans hw)) lx ly hlen (Nat.le_trans hBw hb.size)
  have FM : Hid (Fits m) := fm
  have im := itoa_len m fm
  have hblt := h.lt
  have NEE : Hid (w.heap.size ≠ b) := by show _ ≠ _; omega
  have EV0 : Hid (m = 0 → l ++ ([32] ++ Lib.itoa m) = l ++ voteText (m, ⟨n, p, q, xs, ys, v, k⟩)) := fun h0 => by simp [voteText, numText, h0]
  have EV1 : Hid (m ≠ 0 → (l ++ ([32] ++ Lib.itoa m)) ++ entText ⟨n, p, q, xs, ys, v, k⟩ = l ++ voteText (m, ⟨n, p, q, xs, ys, v, k⟩)) := fun h0 => by simp [voteText, numText, h0]
  generalize l ++ voteText (m, ⟨n, p, q, xs, ys, v, k⟩) = FIN at EV0 EV1 ⊢
  generalize entText ⟨n, p, q, xs, ys, v, k⟩ = et at CE EV1
  obtain ⟨W, hW⟩ : ∃ W, W = w.alloc (.cells #[.int .i64 m, .bool n, .int .i64 p, .int .i64 q, .slice a1 xs.length c1, .slice a2 ys.length c2, .int .i64 v, .int .i64 k] 98) := ⟨_, rfl⟩
  have bW : Below w.heap.size w W := by rw [hW]; exact (Below.refl _ _).alloc (Nat.le_refl _) _
  have B0 : Hid (Below B w W) := bW.mono hBw
  have E0 : Hid (Blk W w.heap.size #[.int .i64 m, .bool n, .int .i64 p, .int .i64 q, .slice a1 xs.length c1, .slice a2 ys.length c2, .int .i64 v, .int .i64 k] 98) := by show Blk _ _ _ _; rw [hW]; exact Blk.new _ _ _
  have D0 : Hid (Bd T B b l W) := h.below bW
  have K0 : Hid (Lib.OthersKept 5 (some b) w W) := kept_below bW
  have LB0 : Hid (l.length + ([32] : List UInt8).length ≤ 2 ^ 44) := by show _ ≤ _; simp only [List.length_nil, List.length_cons]; omega
  have LB1 : Hid ((l ++ ([32] ++ Lib.itoa m)).length ≤ 2 ^ 42) := by show _ ≤ _; simp only [List.length_append, List.length_nil, List.length_cons]; omega
  have HW : Hid (W = _) := hW
  clear hW bW h hTab hX hY hT fm hf lx ly ll hblt im hBw
  obtain ⟨q0, q1, q2, q3, q4, q5, q6, q7⟩ := E0.out.cells8
  go_enter Tryz.func81, Tryz.ntmps81
  go_upto_region 1 with fail
  rw [← HW.out]
  go_region_with (go_at_call 79; refine (CN.out (l) [32] m _ FM.out ?_ ?_ ?_).mono ?_; exact Bd.below D0.out (Below.drew (Below.refl _ _)); exact Below.drew B0.out; exact LB0.out; rintro e w1 ⟨rfl, d', b', k'⟩; have D1 : Hid (Bd T B b ((l) ++ ([32] ++ Lib.itoa m)) w1) := d'; have B1 : Hid (Below B w w1) := (Below.drew B0.out).trans b'; have K1 : Hid (Lib.OthersKept 5 (some b) w w1) := (Lib.OthersKept.drew K0.out).trans k'; have E1 : Hid (Blk w1 _ _ _) := E0.out.kept k' NEE.out (by decide); clear d' b' k')
  clear q0 q1 q2 q3 q4 q5 q6 q7
  obtain ⟨q0, q1, q2, q3, q4, q5, q6, q7⟩ := E1.out.cells8
  by_cases hm : m = 0
  · have X : Hid (l ++ ([32] ++ Lib.itoa m) = FIN) := EV0.out hm
    have hmn : (m != 0) = false := by simp [hm]
    clear hm EV0 EV1
    go_wp2_with fail
    first | go_end0 | refine bodyPost_ret (results_none rfl _ _ _) rfl ?_
    exact ⟨rfl, by rw [← X.out]; exact D1.out, B1.out, K1.out⟩
  · have X : Hid ((l ++ ([32] ++ Lib.itoa m)) ++ et = FIN) := EV1.out hm
    have hmn : (m != 0) = true := by simpa using hm
    clear hm EV0 EV1
    go_upto_region 3 with fail
    go_region_with (go_at_call 80; refine (CE.out (l ++ ([32] ++ Lib.itoa m)) _ ?_ ?_ ?_).mono ?_; exact Bd.below D1.out (Below.drew (Below.refl _ _)); exact Below.drew B1.out; exact LB1.out; rintro e w2 ⟨rfl, d', b', k'⟩; have D2 : Hid (Bd T B b ((l ++ ([32] ++ Lib.itoa m)) ++ et) w2) := d'; have B2 : Hid (Below B w w2) := (Below.drew B1.out).trans b'; have K2 : Hid (Lib.OthersKept 5 (some b) w w2) := (Lib.OthersKept.drew K1.out).trans k'; clear d' b' k')
    go_wp2_with fail
    first | go_end0 | refine bodyPost_ret (results_none rfl _ _ _) rfl ?_
    exact ⟨rfl, by rw [← X.out]; exact D2.out, B2.out, K2.out⟩

theorem ent_nil3 (w : World) : (binOp .neq 102 (.func (.func 82) #[] #[]) .nilFunc).run Tryz.prog w = .ok (.bool true) w := by kernel_rfl
theorem ent_nil7 (w : World) : (binOp .neq 102 (.func (.func 83) #[] #[]) .nilFunc).run Tryz.prog w = .ok (.bool true) w := by kernel_rfl
theorem ent_nil0 (w : World) : (binOp .neq 102 .nilFunc .nilFunc).run Tryz.prog w = .ok (.bool false) w := by kernel_rfl
theorem ent_nil (kind : Int) (w : World) : (binOp .neq 102 (entFn kind) .nilFunc).run Tryz.prog w = .ok (.bool (hasEnt kind)) w := by
  by_cases k3 : kind = 3 ∨ kind = 5
  · have e1 : entFn kind = .func (.func 82) #[] #[] := by simp only [entFn, k3, if_true]
    have e2 : hasEnt kind = true := hasEnt_iff.2 (by omega)
    rw [e1, e2]; exact ent_nil3 w
  · by_cases k7 : kind = 7
    · have e1 : entFn kind = .func (.func 83) #[] #[] := by rw [k7]; rfl
      have e2 : hasEnt kind = true := hasEnt_iff.2 (by omega)
      rw [e1, e2]; exact ent_nil7 w
    · have e1 : entFn kind = .nilFunc := by simp only [entFn, k3, k7, if_false]
      have e2 : hasEnt kind = false := by
        rw [← Bool.not_eq_true, hasEnt_iff]; omega
      rw [e1, e2]; exact ent_nil0 w
end Go.Proofs.YtmcpefikmcaemaaGreatDoor.Own

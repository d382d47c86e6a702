/-
  Own texts, bundled: VoteOps, ToVoteR, BestR, InsOkS, ExecOkS, ExecOkS2.
-/
import Derived.Test.YtbbbfnfpmaogoaaPk2
import Derived.Test.YtbbbfnfpmaogoaaPk7
import Derived.BigQuiet
import Derived.Lib.QuietBelow
import Derived.Test.YtbbbfnfpmaogoaaPk6
import Derived.Test.YtbbbfnfpmaogoaaPk1
import Derived.Deep.QuietTactic
namespace Go.Proofs.Ytbbbfnfpmaogoaa.Own
open Go.RowKit Go.Sort
set_option linter.unusedVariables false
set_option linter.unusedSimpArgs false

theorem infoVote : (Try.prog.info? 86).map (fun i => (i.zero, i.size, i.bytes)) = some (some (.agg #[.int .i64 0, .bool false, .int .i64 0, .int .i64 0, .slice none 0 0, .slice none 0 0, .int .i64 0, .int .i64 0]), 8, 96) := by kernel_rfl

set_option maxHeartbeats 400000 in
theorem szVote (m : Int) (n : Bool) (p q : Int) (a1 a2 : Option Addr) (n1 c1 n2 c2 : Nat) (v k left : Int) (w : World) (h1 : n1 ≤ maxLen) (h2 : n2 ≤ maxLen) (h0 : 0 ≤ left) (hm : left ≤ 2 ^ 60) :
    Calls Try.prog 86 #[.agg #[.int .i64 m, .bool n, .int .i64 p, .int .i64 q, .slice a1 n1 c1, .slice a2 n2 c2, .int .i64 v, .int .i64 k], .int .i64 left] w fun e w' => e = .returned (.int .i64 (if left - n1 - n2 < 0 then -1 else left - n1 - n2)) ∧ Below w.heap.size w w' := by
  obtain ⟨W, hW⟩ : ∃ W, W = w.alloc (.cells #[.int .i64 m, .bool n, .int .i64 p, .int .i64 q, .slice a1 n1 c1, .slice a2 n2 c2, .int .i64 v, .int .i64 k] 122) := ⟨_, rfl⟩
  have BW : Hid (Below w.heap.size w W) := by show Below _ _ _; rw [hW]; exact (Below.refl _ _).alloc (Nat.le_refl _) _
  have HW : Hid (W = _) := hW
  clear hW
  by_cases hl : left - n1 - n2 < 0
  · go_enter Try.func86, Try.ntmps86
    go_wp2_with fail
    rw [← HW.out]
    refine (szEntry n p q a1 a2 n1 c1 n2 c2 v k left W h1 h2 h0 hm).mono ?_
    rintro e w1 ⟨rfl, b1⟩
    rw [if_pos (by omega)]
    have B1 : Hid (Below w.heap.size w w1) := BW.out.trans (b1.mono BW.out.size)
    clear b1
    go_wp2_with fail
    go_ret
    exact ⟨rfl, B1.out⟩
  · go_enter Try.func86, Try.ntmps86
    go_wp2_with fail
    rw [← HW.out]
    refine (szEntry n p q a1 a2 n1 c1 n2 c2 v k left W h1 h2 h0 hm).mono ?_
    rintro e w1 ⟨rfl, b1⟩
    rw [if_neg (by omega)]
    have B1 : Hid (Below w.heap.size w w1) := BW.out.trans (b1.mono BW.out.size)
    clear b1
    go_wp2_with fail
    go_ret
    exact ⟨rfl, B1.out⟩

set_option maxHeartbeats 1000000 in
theorem szVoteS (a : Option Addr) (c : Nat) (vs : List VM) (left : Int) (w : World) (h : SlV w a vs) (hl : vs.length ≤ maxLen) (hm : ∀ i, i < vs.length → (vs.getD i v0).b.xs.length ≤ maxLen ∧ (vs.getD i v0).b.ys.length ≤ maxLen) (h0 : 0 ≤ left) (h1 : left ≤ 2 ^ 60) :
    Calls Try.prog 34 #[.slice a vs.length c, .int .i64 left] w fun e w' => e = .returned (.int .i64 (if left < (vs.length + sumV vs vs.length : Nat) then -1 else left - (vs.length + sumV vs vs.length : Nat))) ∧ Below w.heap.size w w' := by
  have HS : Hid (SlV w a vs) := h
  have HM : Hid (∀ i, i < vs.length → (vs.getD i v0).b.xs.length ≤ maxLen ∧ (vs.getD i v0).b.ys.length ≤ maxLen) := hm
  clear h hm
  unfold maxLen at hl
  obtain ⟨T, hT⟩ : ∃ T, T = vs.length + sumV vs vs.length := ⟨_, rfl⟩
  rw [← hT]
  have HT : Hid (T = vs.length + sumV vs vs.length) := hT
  obtain ⟨r, hr⟩ : ∃ r : Int, r = if left < (T : Nat) then -1 else left - (T : Nat) := ⟨_, rfl⟩
  rw [← hr]
  have HR1 : Hid (left < (T : Nat) → r = -1) := fun h => by rw [hr, if_pos h]
  have HR2 : Hid (¬ left < (T : Nat) → r = left - (T : Nat)) := fun h => by rw [hr, if_neg h]
  clear hT hr
  by_cases hb : left - (vs.length : Int) < 0
  · have hlt : Hid (left < (T : Nat)) := by have := HT.out; show _ < _; omega
    go_enter Try.func34, Try.ntmps34
    go_wp2_with fail
    go_ret
    exact ⟨ret_int (HR1.out hlt.out).symm, Below.refl _ _⟩
  · go_enter Try.func34, Try.ntmps34
    go_wp2_with fail
    go_loopw [1, 5] (fun q i wr => ∃ k : Nat, k ≤ vs.length ∧ i = .int .i64 k ∧ ((vs.length + sumV vs k : Nat) : Int) ≤ left ∧ q = .int .i64 (left - vs.length - (sumV vs k : Nat)) ∧ Hid (Below w.heap.size w wr)) (fun _ i _ => vs.length - (intOf i).toNat)
    case atStart => exact ⟨0, Nat.zero_le _, rfl, by simp [sumV]; omega, by simp [sumV], Below.refl _ _⟩
    case round =>
      obtain ⟨k, hk, rfl, hle, rfl, KB⟩ := hrel
      by_cases hlt : k < vs.length
      · have hki : (k : Int) < (vs.length : Int) := by omega
        rcases HS.out.below KB.out with hh | ⟨b, off, rfl, _, hh⟩
        · rw [hh] at hlt; simp at hlt
        obtain ⟨⟨d0, d1, d2, d3, d4, d5, d6, d7⟩, _⟩ := hh k hlt
        obtain ⟨mx1, mx2⟩ := HM.out k hlt
        have NX : Hid (sumV vs (k + 1) = sumV vs k + ((vs.getD k v0).b.xs.length + (vs.getD k v0).b.ys.length)) := rfl
        have TM : Hid (vs.length + sumV vs (k + 1) ≤ T) := by have := sumV_mono vs (show k + 1 ≤ vs.length by omega); have := HT.out; show _ ≤ _; omega
        clear hh
        generalize vs.getD k v0 = x at d0 d1 d2 d3 d4 d5 d6 d7 mx1 mx2 NX
        obtain ⟨xbal, ⟨xn, xp, xq, xxs, xys, xv, xk⟩, xa1, xc1, xa2, xc2⟩ := x
        simp only at d0 d1 d2 d3 d4 d5 d6 d7 mx1 mx2 NX
        obtain ⟨z, hz, z0⟩ : ∃ z : Int, z = left - vs.length - (sumV vs k : Nat) ∧ 0 ≤ z := ⟨_, rfl, by omega⟩
        rw [← hz]
        have HZ : Hid (z = left - vs.length - (sumV vs k : Nat)) := hz
        have z1 : z ≤ 2 ^ 60 := by omega
        clear hz
        go_wp2_with fail
        refine (szVote xbal xn xp xq xa1 xa2 xxs.length xc1 xys.length xc2 xv xk z _ mx1 mx2 z0 z1).mono ?_
        rintro e w1 ⟨rfl, hw⟩
        have B1 : Hid (Below w.heap.size w w1) := KB.out.trans (hw.mono KB.out.size)
        clear hw
        by_cases hc : z - (xxs.length : Int) - (xys.length : Int) < 0
        · rw [if_pos hc]
          have LT : Hid (left < (T : Nat)) := by have := TM.out; have := NX.out; have := HZ.out; show _ < _; omega
          go_wp2_with fail
          go_ret
          exact ⟨ret_int (HR1.out LT.out).symm, B1.out⟩
        · rw [if_neg hc]
          go_wp2_with fail
          go_roundw
          case rel => exact ⟨k + 1, by omega, by go_num, by have := NX.out; have := HZ.out; omega, by have := NX.out; have := HZ.out; congr 1; omega, B1.out⟩
          case measure => simp [intOf]; omega
      · have hki : ¬ (k : Int) < (vs.length : Int) := by omega
        obtain rfl : k = vs.length := by omega
        go_wp2_with fail
        go_ret
        have ht := HT.out
        have h2 := HR2.out (by omega)
        exact ⟨ret_int (by omega), KB.out⟩

set_option maxRecDepth 100000 in
set_option maxHeartbeats 1000000 in
theorem toVote (m : Int) (n : Bool) (p q : Int) (a1 a2 : Option Addr) (c1 c2 : Nat) (xs ys : List P2) (v k : Int) (w : World) (h1 : Sl w a1 xs) (h2 : Sl w a2 ys) (hn1 : xs.length ≤ 2 ^ 40) (hn2 : ys.length ≤ 2 ^ 40) :
    Calls Try.prog 88 #[.agg #[.int .i64 m, .bool n, .int .i64 p, .int .i64 q, .slice a1 xs.length c1, .slice a2 ys.length c2, .int .i64 v, .int .i64 k]] w fun e w' => ∃ g1 g2, e = .returned (.agg #[.int .i64 m, .bool n, .int .i64 p, .int .i64 q, .slice (some ⟨g1, 0, none⟩) xs.length xs.length, .slice (some ⟨g2, 0, none⟩) ys.length ys.length, .int .i64 v, .int .i64 k]) ∧ RunOwn w' w.heap.size g1 g2 xs ys ∧ Below w.heap.size w w' := by
  have H1 : Hid (Sl w a1 xs) := h1
  have H2 : Hid (Sl w a2 ys) := h2
  clear h1 h2
  obtain ⟨W, hW⟩ : ∃ W, W = ((w.alloc (.cells #[.int .i64 m, .bool n, .int .i64 p, .int .i64 q, .slice a1 xs.length c1, .slice a2 ys.length c2, .int .i64 v, .int .i64 k] 122)).alloc (.cells #[.int .i64 0, .bool false, .int .i64 0, .int .i64 0, .slice none 0 0, .slice none 0 0, .int .i64 0, .int .i64 0] 86)).alloc (.cells #[.int .i64 m, .bool false, .int .i64 0, .int .i64 0, .slice none 0 0, .slice none 0 0, .int .i64 0, .int .i64 0] 86) := ⟨_, rfl⟩
  have BW : Hid (Below w.heap.size w W) := by
    show Below _ _ _
    rw [hW]; exact ((((Below.refl _ _).alloc (Nat.le_refl _) _).alloc (by simp) _).alloc (by simp; omega) _)
  have SW : Hid (W.heap.size = w.heap.size + 3) := by show _ = _; rw [hW]; simp
  have G1 : Hid (Blk W (w.heap.size + 1) #[.int .i64 0, .bool false, .int .i64 0, .int .i64 0, .slice none 0 0, .slice none 0 0, .int .i64 0, .int .i64 0] 86) := by
    show Blk _ _ _ _; rw [hW]; exact (Blk.new2 _ _ _ _).alloc _
  have G2 : Hid (Blk W (w.heap.size + 1 + 1) #[.int .i64 m, .bool false, .int .i64 0, .int .i64 0, .slice none 0 0, .slice none 0 0, .int .i64 0, .int .i64 0] 86) := by
    show Blk _ _ _ _; rw [hW]; exact Blk.new3 _ _ _ _ _
  have HW : Hid (W = _) := hW
  clear hW
  go_enter Try.func88, Try.ntmps88
  go_wp2_with fail
  rw [← HW.out]
  refine (toEntry n p q a1 a2 c1 c2 xs ys v k W (H1.out.below BW.out) (H2.out.below BW.out) hn1 hn2).mono ?_
  rintro e w3 ⟨g1, g2, rfl, own, b3⟩
  have F1 : Hid (Blk w3 (w.heap.size + 1) _ _) := G1.out.keep b3
  have F2 : Hid (Blk w3 (w.heap.size + 1 + 1) _ _) := G2.out.keep b3
  have B3 : Hid (Below w.heap.size w w3) := BW.out.trans (b3.mono BW.out.size)
  have O3 : Hid (RunOwn w3 w.heap.size g1 g2 xs ys) := ⟨Nat.le_trans BW.out.size own.1, Nat.le_trans BW.out.size own.2.1, own.2.2⟩
  have N3 : Hid (w.heap.size + 3 ≤ g1 ∧ w.heap.size + 3 ≤ g2) := ⟨by have := SW.out; have := own.1; omega, by have := SW.out; have := own.2.1; omega⟩
  clear b3 own
  obtain ⟨i0, i1, i2, i3, i4, i5, i6, i7⟩ := F1.out.cells8
  obtain ⟨o0, o1, o2, o3, o4, o5, o6, o7⟩ := F2.out.cells8
  have fo := F2.out.frozen
  have fi := F1.out.frozen
  go_wp2
  refine bodyPost_ret (v := .agg #[.int .i64 m, .bool n, .int .i64 p, .int .i64 q, .slice (some ⟨g1, 0, none⟩) xs.length xs.length, .slice (some ⟨g2, 0, none⟩) ys.length ys.length, .int .i64 v, .int .i64 k]) (by simp [results, Try.results88, go_sem, i0, i1, i2, i3, i4, i5, i6, i7]) rfl ⟨g1, g2, rfl, ?_, ?_⟩
  · have S2 : ∀ {u : World} (o : Nat) (x : Value), KeepFrom (w.heap.size + 3) w3 u → KeepFrom (w.heap.size + 3) w3 (u.setCell ⟨w.heap.size + 1 + 1, o, none⟩ x) := fun o x h => h.setCell (by show w.heap.size + 1 + 1 < _; omega) x
    have S1 : ∀ {u : World} (o : Nat) (x : Value), KeepFrom (w.heap.size + 3) w3 u → KeepFrom (w.heap.size + 3) w3 (u.setCell ⟨w.heap.size + 1, o, none⟩ x) := fun o x h => h.setCell (by show w.heap.size + 1 < _; omega) x
    exact O3.out.keep (S1 _ _ (S1 _ _ (S1 _ _ (S1 _ _ (S1 _ _ (S1 _ _ (S1 _ _ (S1 _ _ (S2 _ _ (S2 _ _ (S2 _ _ (S2 _ _ (S2 _ _ (S2 _ _ (S2 _ _ (KeepFrom.refl _ _)))))))))))))))) N3.out.1 N3.out.2
  · have s2 : w.heap.size ≤ w.heap.size + 1 + 1 := by omega
    have s1 : w.heap.size ≤ w.heap.size + 1 := by omega
    exact ((((((((((((((B3.out.setCell s2 _).setCell s2 _).setCell s2 _).setCell s2 _).setCell s2 _).setCell s2 _).setCell s2 _).setCell s1 _).setCell s1 _).setCell s1 _).setCell s1 _).setCell s1 _).setCell s1 _).setCell s1 _).setCell s1 _

theorem RowV.made (w : World) (n : Nat) : RowV (w.alloc (.cells (madeCells (Value.agg #[.int .i64 0, .bool false, .int .i64 0, .int .i64 0, .slice none 0 0, .slice none 0 0, .int .i64 0, .int .i64 0]).cells (n * 8)) 86)) w.heap.size n := by
  refine ⟨_, _, heap_new _ _, size_madeCells _ _, ?_⟩
  intro v hv
  obtain ⟨k, hk, rfl⟩ := Array.getElem_of_mem hv
  rw [size_madeCells] at hk
  obtain ⟨v, h1, h2⟩ := made_cell (z := (Value.agg #[.int .i64 0, .bool false, .int .i64 0, .int .i64 0, .slice none 0 0, .slice none 0 0, .int .i64 0, .int .i64 0]).cells) (n := n * 8) (k := k) (by decide) hk (by simp [Value.cells, Value.oneCell'])
  rw [Array.getElem?_eq_getElem (by simpa [size_madeCells] using hk)] at h1
  injection h1 with h1
  rw [h1]; exact h2

set_option maxRecDepth 100000 in
set_option maxHeartbeats 2000000 in
theorem toVoteS (a : Option Addr) (c : Nat) (vs : List VM) (w : World) (h : SlV w a vs) (hn : vs.length ≤ 2 ^ 40) (hl : ∀ i, i < vs.length → (vs.getD i v0).b.xs.length ≤ 2 ^ 40 ∧ (vs.getD i v0).b.ys.length ≤ 2 ^ 40) :
    Calls Try.prog 36 #[.slice a vs.length c] w fun e w' => e = .returned (.slice (some ⟨w.heap.size, 0, none⟩) vs.length vs.length) ∧ (∃ gs, CopyV w' w.heap.size gs (bodies vs)) ∧ RowV w' w.heap.size vs.length ∧ Below w.heap.size w w' := by
  have HS : Hid (SlV w a vs) := h
  have HL : Hid (∀ i, i < vs.length → (vs.getD i v0).b.xs.length ≤ 2 ^ 40 ∧ (vs.getD i v0).b.ys.length ≤ 2 ^ 40) := hl
  clear h hl
  have hmk := make_row (P := Try.prog) Try.underlying22 infoVote vs.length (by omega) (by omega)
  go_enter Try.func36, Try.ntmps36
  go_wp2
  clear hmk
  go_loopw [4] (fun i wr => ∃ (k : Nat) (gs : List (Nat × Nat)), k ≤ vs.length ∧ i = .int .i64 k ∧ Hid (CopyV wr w.heap.size gs ((bodies vs).take k) ∧ RowV wr w.heap.size vs.length ∧ Below w.heap.size w wr)) (fun i _ => vs.length - (intOf i).toNat)
  case atStart => exact ⟨0, [], Nat.zero_le _, rfl, by rw [List.take_zero]; exact CopyV.nil (RowV.made w vs.length).lt, RowV.made w _, (Below.refl _ _).alloc (Nat.le_refl _) _⟩
  case round =>
    obtain ⟨k, gs, hk, rfl, IV⟩ := hrel
    have PL := bodies_len vs
    by_cases hlt : k < vs.length
    · have hki : (k : Int) < (vs.length : Int) := by omega
      rcases HS.out.below IV.out.2.2 with hh | ⟨b, off, rfl, _, hh⟩
      · rw [hh] at hlt; simp at hlt
      obtain ⟨⟨d0, d1, d2, d3, d4, d5, d6, d7⟩, s1, s2⟩ := hh k hlt
      obtain ⟨lx1, lx2⟩ := HL.out k hlt
      have NX : Hid ((bodies vs).take (k + 1) = (bodies vs).take k ++ [(vs.getD k v0).body]) := by
        show _ = _
        rw [List.take_succ_eq_append_getElem (by omega), ← bodies_getD]
        simp [List.getD, PL, hlt]
      have LK : Hid (((bodies vs).take k).length = k) := by show _ = _; simp [PL]; omega
      have SX : Hid (Sl wr (vs.getD k v0).a1 (vs.getD k v0).b.xs ∧ Sl wr (vs.getD k v0).a2 (vs.getD k v0).b.ys) := ⟨s1, s2⟩
      clear hh s1 s2 PL
      generalize vs.getD k v0 = x at d0 d1 d2 d3 d4 d5 d6 d7 lx1 lx2 NX SX
      obtain ⟨xbal, ⟨xn, xp, xq, xxs, xys, xv, xk⟩, xa1, xc1, xa2, xc2⟩ := x
      simp only [VM.body] at d0 d1 d2 d3 d4 d5 d6 d7 lx1 lx2 NX SX
      go_wp2_with fail
      refine (toVote xbal xn xp xq xa1 xa2 xc1 xc2 xxs xys xv xk wr SX.out.1 SX.out.2 lx1 lx2).mono ?_
      rintro e w1 ⟨g1, g2, rfl, ho, hb⟩
      have RP : Hid (RowV w1 w.heap.size vs.length) := IV.out.2.1.below hb IV.out.2.1.lt
      have CN : Hid (CopyV (set8 w1 w.heap.size (k * 8) (vmOf (g1, g2) (xbal, ⟨xn, xp, xq, xxs, xys, xv, xk⟩))) w.heap.size (gs ++ [(g1, g2)]) ((bodies vs).take (k + 1))) := by
        have h := IV.out.1.snoc (x := (xbal, ⟨xn, xp, xq, xxs, xys, xv, xk⟩)) hb ho RP.out (by rw [LK.out]; exact hlt)
        rw [LK.out, ← NX.out] at h
        exact h
      have B1 : Hid (Below w.heap.size w w1) := IV.out.2.2.trans (hb.mono IV.out.2.2.size)
      have FF := fun o => RP.out.frozen o
      obtain ⟨u0, t0, _⟩ := RP.out.cell (k * 8) (by omega)
      obtain ⟨u1, t1, _⟩ := RP.out.cell (k * 8 + 1) (by omega)
      obtain ⟨u2, t2, _⟩ := RP.out.cell (k * 8 + 2) (by omega)
      obtain ⟨u3, t3, _⟩ := RP.out.cell (k * 8 + 3) (by omega)
      obtain ⟨u4, t4, _⟩ := RP.out.cell (k * 8 + 4) (by omega)
      obtain ⟨u5, t5, _⟩ := RP.out.cell (k * 8 + 5) (by omega)
      obtain ⟨u6, t6, _⟩ := RP.out.cell (k * 8 + 6) (by omega)
      obtain ⟨u7, t7, _⟩ := RP.out.cell (k * 8 + 7) (by omega)
      clear ho hb d0 d1 d2 d3 d4 d5 d6 d7
      go_wp2
      go_roundw
      case rel => exact ⟨k + 1, gs ++ [(g1, g2)], by omega, by go_num, CN.out, set8_row RP.out _ (vmOf (g1, g2) (xbal, ⟨xn, xp, xq, xxs, xys, xv, xk⟩)), set8_below B1.out (Nat.le_refl _) _ (vmOf (g1, g2) (xbal, ⟨xn, xp, xq, xxs, xys, xv, xk⟩))⟩
      case measure => simp [intOf]; omega
    · have hki : ¬ (k : Int) < (vs.length : Int) := by omega
      obtain rfl : k = vs.length := by omega
      go_wp2_with fail
      go_ret
      have := IV.out
      rw [List.take_of_length_le (by omega)] at this
      exact ⟨rfl, ⟨gs, this.1⟩, this.2.1, this.2.2⟩
end Go.Proofs.Ytbbbfnfpmaogoaa.Own

namespace Go.Proofs.Ytbbbfnfpmaogoaa.Own
open Go.RowKit
set_option linter.unusedVariables false
set_option linter.unusedSimpArgs false

/-- Votes of which each has at most n boxes in its lists. -/
def Short (n : Nat) (bs : List V) : Prop := ∀ i, i < bs.length → (bs.getD i (0, e0)).2.xs.length ≤ n ∧ (bs.getD i (0, e0)).2.ys.length ≤ n
theorem Short.of {n : Nat} {vs : List VM} (h : vs.length + sumV vs vs.length ≤ n) : Short n (bodies vs) := fun i hi => by
  rw [bodies_len] at hi
  rw [bodies_getD]
  have := sumV_at vs hi
  show (vs.getD i v0).b.xs.length ≤ n ∧ (vs.getD i v0).b.ys.length ≤ n
  omega
theorem Short.vm {n : Nat} {L : List VM} (h : Short n (bodies L)) : ∀ i, i < L.length → (L.getD i v0).b.xs.length ≤ n ∧ (L.getD i v0).b.ys.length ≤ n := fun i hi => by
  have := h i (by rw [bodies_len]; exact hi)
  rw [bodies_getD] at this
  exact this
theorem Short.mono {n m : Nat} {bs : List V} (h : Short n bs) (hm : n ≤ m) : Short m bs := fun i hi => ⟨Nat.le_trans (h i hi).1 hm, Nat.le_trans (h i hi).2 hm⟩

theorem toR (a : Option Addr) (c : Nat) (vs : List VM) (w : World) (h : SlV w a vs) (hn : vs.length ≤ 2 ^ 30) (hl : Short (2 ^ 30) (bodies vs)) :
    Calls Try.prog 36 #[.slice a vs.length c] w fun e w' => ∃ v L, e = .returned v ∧ OwnR w' w.heap.size w'.heap.size v L ∧ bodies L = bodies vs ∧ VLs L ∧ Below w.heap.size w w' := by
  refine (toVoteS a c vs w h (by omega) (fun i hi => by have := hl.vm i hi; omega)).mono ?_
  rintro e w' ⟨rfl, ⟨gs, hc⟩, hr, hb⟩
  refine ⟨_, vmsOf gs (bodies vs), rfl, OwnR.ofCopy hc hr (Nat.le_refl _) (by rw [bodies_len]), vmsOf_bodies _ _, CopyV.vls (fun i hi => by have := hl i hi; omega), hb⟩
end Go.Proofs.Ytbbbfnfpmaogoaa.Own

namespace Go.Proofs.Ytbbbfnfpmaogoaa.Own
open Go.RowKit
set_option linter.unusedVariables false
set_option linter.unusedSimpArgs false

/-- What AccBest answers. -/
def bestOf (A B : List V) : List V := if votesUpto 3000 A && votesUpto 3000 B then (List.range (max A.length B.length)).map (bestAt A B) else []
theorem ext_bodies {L : List VM} {C : List V} (hl : L.length = C.length) (h : ∀ i, i < C.length → (L.getD i v0).body = C.getD i (0, e0)) : bodies L = C := by
  apply List.ext_getElem
  · rw [bodies_len, hl]
  · intro i h1 h2
    have := h i h2
    rw [← bodies_getD] at this
    simpa [List.getD, h1, h2] using this
theorem bestOf_at {A B : List V} (h : (votesUpto 3000 A && votesUpto 3000 B) = true) : bestOf A B = (List.range (max A.length B.length)).map (bestAt A B) := by
  unfold bestOf; rw [if_pos h]
theorem BestTo.bodies {A B : List V} {L : List VM} (h : BestTo A B B.length L) (hk : (votesUpto 3000 A && votesUpto 3000 B) = true) : bodies L = bestOf A B := by
  rw [bestOf_at hk]
  refine ext_bodies (by rw [h.1]; simp) fun i hi => ?_
  have hi' : i < max A.length B.length := by simpa using hi
  rw [h.2 i]
  have e : ((List.range (max A.length B.length)).map (bestAt A B)).getD i (0, e0) = bestAt A B i := by
    simp only [List.getD, List.getElem?_map, List.getElem?_range hi']
    rfl
  rw [e]
  by_cases hb : i < B.length
  · rw [if_pos hb]
  · rw [if_neg hb]
    unfold bestAt
    rw [if_neg (fun h => hb h.1)]
theorem bestAt_of (A B : List V) (i : Nat) : bestAt A B i = A.getD i (0, e0) ∨ bestAt A B i = B.getD i (0, e0) := by
  unfold bestAt
  split
  · exact .inr rfl
  · exact .inl rfl
theorem Short.getD {n : Nat} {A : List V} (h : Short n A) (i : Nat) : (A.getD i (0, e0)).2.xs.length ≤ n ∧ (A.getD i (0, e0)).2.ys.length ≤ n := by
  by_cases hi : i < A.length
  · exact h i hi
  · have : A.getD i (0, e0) = (0, e0) := by simp [List.getD, List.getElem?_eq_none (Nat.le_of_not_lt hi)]
    rw [this]
    exact ⟨Nat.zero_le _, Nat.zero_le _⟩
theorem bestOf_short {n : Nat} {A B : List V} (ha : Short n A) (hb : Short n B) : Short n (bestOf A B) := by
  intro i hi
  unfold bestOf at hi ⊢
  split at hi
  · rename_i hk
    rw [if_pos hk]
    have hi' : i < max A.length B.length := by simpa using hi
    have e : ((List.range (max A.length B.length)).map (bestAt A B)).getD i (0, e0) = bestAt A B i := by
      simp only [List.getD, List.getElem?_map, List.getElem?_range hi']
      rfl
    rw [e]
    rcases bestAt_of A B i with e | e
    · rw [e]; exact ha.getD i
    · rw [e]; exact hb.getD i
  · simp at hi
theorem votesUpto_len {m : Int} {A : List V} (h : votesUpto m A = true) : A.length ≤ 40 := by
  unfold votesUpto at h
  simp only [Bool.and_eq_true, decide_eq_true_eq] at h
  exact h.1
theorem bestOf_len (A B : List V) : (bestOf A B).length ≤ 40 := by
  unfold bestOf
  split
  · rename_i hk
    simp only [Bool.and_eq_true] at hk
    have := votesUpto_len hk.1
    have := votesUpto_len hk.2
    simp; omega
  · simp
theorem best_steps {L : List VM} {A B : List V} (h : bodies L = bestOf A B) (ha : Short (2 ^ 21) A) (hb : Short (2 ^ 21) B) : L.length ≤ 40 ∧ stepsV L L.length ≤ 2 ^ 30 := by
  have hl : L.length ≤ 40 := by rw [← bodies_len, h]; exact bestOf_len A B
  have hs : Short (2 ^ 21) (bodies L) := by rw [h]; exact bestOf_short ha hb
  refine ⟨hl, ?_⟩
  have := stepsV_le L (6 + 2 ^ 23) (fun i hi => by have := hs.vm i hi; unfold stepV; omega) L.length (Nat.le_refl _)
  have : L.length * (6 + 2 ^ 23) ≤ 40 * (6 + 2 ^ 23) := Nat.mul_le_mul_right _ hl
  omega

theorem bestI (B T B' T' : Nat) (v u : Value) (L M : List VM) (w : World) (h1 : OwnR w B T v L) (h2 : OwnR w B' T' u M) (l1 : VLs L) (l2 : VLs M) (n1 : L.length ≤ 2 ^ 30) (n2 : M.length ≤ 2 ^ 30) :
    Calls Try.prog 37 #[v, u] w fun e w' => ∃ x N, e = .returned x ∧ OwnR w' w.heap.size w'.heap.size x N ∧ bodies N = bestOf (bodies L) (bodies M) ∧ Below w.heap.size w w' := by
  obtain ⟨a, c, rfl, s1⟩ := h1.form
  obtain ⟨b, d, rfl, s2⟩ := h2.form
  refine (implAccBest a b c d L M w s1 s2 l1 l2 n1 n2).mono ?_
  rintro e w' ⟨x, rfl, hx⟩
  by_cases hk : (votesUpto 3000 (bodies L) && votesUpto 3000 (bodies M)) = true
  · rw [if_pos hk] at hx
    obtain ⟨a', n, cap, N, rfl, hn, ht, ho, hb⟩ := hx
    refine ⟨_, N, rfl, ?_, ht.bodies hk, hb⟩
    subst hn
    by_cases h0 : 0 < N.length
    · obtain ⟨g, rfl, hv, hs⟩ := ho h0
      exact OwnR.ofVs hv hs
    · obtain rfl : N = [] := List.eq_nil_of_length_eq_zero (by omega)
      exact OwnR.nil _ _ _ _
  · rw [if_neg hk] at hx
    obtain ⟨rfl, hb⟩ := hx
    refine ⟨_, [], rfl, OwnR.nil _ _ _ _, ?_, hb⟩
    unfold bestOf
    rw [if_neg hk]
    rfl
end Go.Proofs.Ytbbbfnfpmaogoaa.Own

namespace Go.Proofs.Ytbbbfnfpmaogoaa.Own
open Go.RowKit
set_option linter.unusedVariables false
set_option linter.unusedSimpArgs false

set_option maxHeartbeats 400000 in
theorem l2Reg (n : Int) (w : World) : Calls Try.prog 155 #[.int .i64 n] w fun e w' => e = .returned (.bool (regOk n)) ∧ w' = w := by
  have e : Hid (regOk n = (decide (0 ≤ n) && decide (n ≤ 3))) := rfl
  generalize regOk n = r at e ⊢
  by_cases h1 : 0 ≤ n
  · by_cases h2 : n < 4
    all_goals
      go_enter Try.func155, Try.ntmps155
      go_wp2
      go_ret
      exact ⟨ret_bool (by rw [e.out]; simp [h1]; omega), rfl⟩
  · have h1' : n < 0 := by omega
    go_enter Try.func155, Try.ntmps155
    go_wp2
    go_ret
    exact ⟨ret_bool (by rw [e.out]; simp; omega), rfl⟩

set_option maxHeartbeats 400000 in
theorem l2Box (n : Int) (w : World) : Calls Try.prog 145 #[.int .i64 n] w fun e w' => e = .returned (.bool (regOk n)) ∧ w' = w := by
  have e : Hid (regOk n = (decide (0 ≤ n) && decide (n ≤ 3))) := rfl
  generalize regOk n = r at e ⊢
  by_cases h1 : 0 ≤ n
  · by_cases h2 : n < 4
    all_goals
      go_enter Try.func145, Try.ntmps145
      go_wp2
      go_ret
      exact ⟨ret_bool (by rw [e.out]; simp [h1]; omega), rfl⟩
  · have h1' : n < 0 := by omega
    go_enter Try.func145, Try.ntmps145
    go_wp2
    go_ret
    exact ⟨ret_bool (by rw [e.out]; simp; omega), rfl⟩

set_option maxHeartbeats 400000 in
theorem l1Num2 (n : Int) (w : World) : Calls Try.prog 144 #[.int .i64 n] w fun e w' => e = .returned (.bool (numOk2 n)) ∧ w' = w := by
  have e : Hid (numOk2 n = (decide (-1000000 ≤ n) && decide (n ≤ 1000000))) := rfl
  generalize numOk2 n = r at e ⊢
  by_cases h1 : -1000000 ≤ n
  · by_cases h2 : n ≤ 1000000
    all_goals
      go_enter Try.func144, Try.ntmps144
      go_wp2
      go_ret
      exact ⟨ret_bool (by rw [e.out]; simp [h1, h2]), rfl⟩
  · have h1' : n < -1000000 := by omega
    go_enter Try.func144, Try.ntmps144
    go_wp2
    go_ret
    exact ⟨ret_bool (by rw [e.out]; simp; omega), rfl⟩

set_option maxRecDepth 100000 in
set_option maxHeartbeats 2000000 in
theorem l2Ins1 (a b n : Int) (w : World) : Calls Try.prog 152 #[.agg #[.int .i64 1, .int .i64 a, .int .i64 b, .int .i64 n]] w fun e w' => e = .returned (.bool (regOk a && regOk b && (n == 0))) ∧ Below w.heap.size w w' := by
  cases ha : regOk a with
  | false =>
    go_enter Try.func152, Try.ntmps152
    go_wp2_with (first | (go_at_call 155; refine (l2Reg _ _).mono ?_; rintro e w' ⟨rfl, rfl⟩) | (go_at_call 145; refine (l2Box _ _).mono ?_; rintro e w' ⟨rfl, rfl⟩) | (go_at_call 144; refine (l1Num2 _ _).mono ?_; rintro e w' ⟨rfl, rfl⟩))
    go_ret
    exact ⟨ret_bool (by simp), (Below.refl _ _).alloc (Nat.le_refl _) _⟩
  | true =>
    cases hb : regOk b with
    | false =>
      go_enter Try.func152, Try.ntmps152
      go_wp2_with (first | (go_at_call 155; refine (l2Reg _ _).mono ?_; rintro e w' ⟨rfl, rfl⟩) | (go_at_call 145; refine (l2Box _ _).mono ?_; rintro e w' ⟨rfl, rfl⟩) | (go_at_call 144; refine (l1Num2 _ _).mono ?_; rintro e w' ⟨rfl, rfl⟩))
      go_ret
      exact ⟨ret_bool (by simp), (Below.refl _ _).alloc (Nat.le_refl _) _⟩
    | true =>
      cases hn : (n == 0) with
      | false =>
        go_enter Try.func152, Try.ntmps152
        go_wp2_with (first | (go_at_call 155; refine (l2Reg _ _).mono ?_; rintro e w' ⟨rfl, rfl⟩) | (go_at_call 145; refine (l2Box _ _).mono ?_; rintro e w' ⟨rfl, rfl⟩) | (go_at_call 144; refine (l1Num2 _ _).mono ?_; rintro e w' ⟨rfl, rfl⟩))
        go_ret
        exact ⟨ret_bool (by simp), (Below.refl _ _).alloc (Nat.le_refl _) _⟩
      | true =>
        go_enter Try.func152, Try.ntmps152
        go_wp2_with (first | (go_at_call 155; refine (l2Reg _ _).mono ?_; rintro e w' ⟨rfl, rfl⟩) | (go_at_call 145; refine (l2Box _ _).mono ?_; rintro e w' ⟨rfl, rfl⟩) | (go_at_call 144; refine (l1Num2 _ _).mono ?_; rintro e w' ⟨rfl, rfl⟩))
        go_ret
        exact ⟨ret_bool (by simp), (Below.refl _ _).alloc (Nat.le_refl _) _⟩

set_option maxRecDepth 100000 in
set_option maxHeartbeats 2000000 in
theorem l2Ins2 (a b n : Int) (w : World) : Calls Try.prog 152 #[.agg #[.int .i64 2, .int .i64 a, .int .i64 b, .int .i64 n]] w fun e w' => e = .returned (.bool (regOk a && regOk b && (n == 0))) ∧ Below w.heap.size w w' := by
  cases ha : regOk a with
  | false =>
    go_enter Try.func152, Try.ntmps152
    go_wp2_with (first | (go_at_call 155; refine (l2Reg _ _).mono ?_; rintro e w' ⟨rfl, rfl⟩) | (go_at_call 145; refine (l2Box _ _).mono ?_; rintro e w' ⟨rfl, rfl⟩) | (go_at_call 144; refine (l1Num2 _ _).mono ?_; rintro e w' ⟨rfl, rfl⟩))
    go_ret
    exact ⟨ret_bool (by simp), (Below.refl _ _).alloc (Nat.le_refl _) _⟩
  | true =>
    cases hb : regOk b with
    | false =>
      go_enter Try.func152, Try.ntmps152
      go_wp2_with (first | (go_at_call 155; refine (l2Reg _ _).mono ?_; rintro e w' ⟨rfl, rfl⟩) | (go_at_call 145; refine (l2Box _ _).mono ?_; rintro e w' ⟨rfl, rfl⟩) | (go_at_call 144; refine (l1Num2 _ _).mono ?_; rintro e w' ⟨rfl, rfl⟩))
      go_ret
      exact ⟨ret_bool (by simp), (Below.refl _ _).alloc (Nat.le_refl _) _⟩
    | true =>
      cases hn : (n == 0) with
      | false =>
        go_enter Try.func152, Try.ntmps152
        go_wp2_with (first | (go_at_call 155; refine (l2Reg _ _).mono ?_; rintro e w' ⟨rfl, rfl⟩) | (go_at_call 145; refine (l2Box _ _).mono ?_; rintro e w' ⟨rfl, rfl⟩) | (go_at_call 144; refine (l1Num2 _ _).mono ?_; rintro e w' ⟨rfl, rfl⟩))
        go_ret
        exact ⟨ret_bool (by simp), (Below.refl _ _).alloc (Nat.le_refl _) _⟩
      | true =>
        go_enter Try.func152, Try.ntmps152
        go_wp2_with (first | (go_at_call 155; refine (l2Reg _ _).mono ?_; rintro e w' ⟨rfl, rfl⟩) | (go_at_call 145; refine (l2Box _ _).mono ?_; rintro e w' ⟨rfl, rfl⟩) | (go_at_call 144; refine (l1Num2 _ _).mono ?_; rintro e w' ⟨rfl, rfl⟩))
        go_ret
        exact ⟨ret_bool (by simp), (Below.refl _ _).alloc (Nat.le_refl _) _⟩

set_option maxRecDepth 100000 in
set_option maxHeartbeats 2000000 in
theorem l2Ins3 (a b n : Int) (w : World) : Calls Try.prog 152 #[.agg #[.int .i64 3, .int .i64 a, .int .i64 b, .int .i64 n]] w fun e w' => e = .returned (.bool (regOk a && (b == 0) && numOk2 n)) ∧ Below w.heap.size w w' := by
  cases ha : regOk a with
  | false =>
    go_enter Try.func152, Try.ntmps152
    go_wp2_with (first | (go_at_call 155; refine (l2Reg _ _).mono ?_; rintro e w' ⟨rfl, rfl⟩) | (go_at_call 145; refine (l2Box _ _).mono ?_; rintro e w' ⟨rfl, rfl⟩) | (go_at_call 144; refine (l1Num2 _ _).mono ?_; rintro e w' ⟨rfl, rfl⟩))
    go_ret
    exact ⟨ret_bool (by simp), (Below.refl _ _).alloc (Nat.le_refl _) _⟩
  | true =>
    cases hb : (b == 0) with
    | false =>
      go_enter Try.func152, Try.ntmps152
      go_wp2_with (first | (go_at_call 155; refine (l2Reg _ _).mono ?_; rintro e w' ⟨rfl, rfl⟩) | (go_at_call 145; refine (l2Box _ _).mono ?_; rintro e w' ⟨rfl, rfl⟩) | (go_at_call 144; refine (l1Num2 _ _).mono ?_; rintro e w' ⟨rfl, rfl⟩))
      go_ret
      exact ⟨ret_bool (by simp), (Below.refl _ _).alloc (Nat.le_refl _) _⟩
    | true =>
      cases hn : numOk2 n with
      | false =>
        go_enter Try.func152, Try.ntmps152
        go_wp2_with (first | (go_at_call 155; refine (l2Reg _ _).mono ?_; rintro e w' ⟨rfl, rfl⟩) | (go_at_call 145; refine (l2Box _ _).mono ?_; rintro e w' ⟨rfl, rfl⟩) | (go_at_call 144; refine (l1Num2 _ _).mono ?_; rintro e w' ⟨rfl, rfl⟩))
        go_ret
        exact ⟨ret_bool (by simp), (Below.refl _ _).alloc (Nat.le_refl _) _⟩
      | true =>
        go_enter Try.func152, Try.ntmps152
        go_wp2_with (first | (go_at_call 155; refine (l2Reg _ _).mono ?_; rintro e w' ⟨rfl, rfl⟩) | (go_at_call 145; refine (l2Box _ _).mono ?_; rintro e w' ⟨rfl, rfl⟩) | (go_at_call 144; refine (l1Num2 _ _).mono ?_; rintro e w' ⟨rfl, rfl⟩))
        go_ret
        exact ⟨ret_bool (by simp), (Below.refl _ _).alloc (Nat.le_refl _) _⟩

set_option maxRecDepth 100000 in
set_option maxHeartbeats 2000000 in
theorem l2Ins4 (a b n : Int) (w : World) : Calls Try.prog 152 #[.agg #[.int .i64 4, .int .i64 a, .int .i64 b, .int .i64 n]] w fun e w' => e = .returned (.bool (regOk a && regOk b && (n == 0))) ∧ Below w.heap.size w w' := by
  cases ha : regOk a with
  | false =>
    go_enter Try.func152, Try.ntmps152
    go_wp2_with (first | (go_at_call 155; refine (l2Reg _ _).mono ?_; rintro e w' ⟨rfl, rfl⟩) | (go_at_call 145; refine (l2Box _ _).mono ?_; rintro e w' ⟨rfl, rfl⟩) | (go_at_call 144; refine (l1Num2 _ _).mono ?_; rintro e w' ⟨rfl, rfl⟩))
    go_ret
    exact ⟨ret_bool (by simp), (Below.refl _ _).alloc (Nat.le_refl _) _⟩
  | true =>
    cases hb : regOk b with
    | false =>
      go_enter Try.func152, Try.ntmps152
      go_wp2_with (first | (go_at_call 155; refine (l2Reg _ _).mono ?_; rintro e w' ⟨rfl, rfl⟩) | (go_at_call 145; refine (l2Box _ _).mono ?_; rintro e w' ⟨rfl, rfl⟩) | (go_at_call 144; refine (l1Num2 _ _).mono ?_; rintro e w' ⟨rfl, rfl⟩))
      go_ret
      exact ⟨ret_bool (by simp), (Below.refl _ _).alloc (Nat.le_refl _) _⟩
    | true =>
      cases hn : (n == 0) with
      | false =>
        go_enter Try.func152, Try.ntmps152
        go_wp2_with (first | (go_at_call 155; refine (l2Reg _ _).mono ?_; rintro e w' ⟨rfl, rfl⟩) | (go_at_call 145; refine (l2Box _ _).mono ?_; rintro e w' ⟨rfl, rfl⟩) | (go_at_call 144; refine (l1Num2 _ _).mono ?_; rintro e w' ⟨rfl, rfl⟩))
        go_ret
        exact ⟨ret_bool (by simp), (Below.refl _ _).alloc (Nat.le_refl _) _⟩
      | true =>
        go_enter Try.func152, Try.ntmps152
        go_wp2_with (first | (go_at_call 155; refine (l2Reg _ _).mono ?_; rintro e w' ⟨rfl, rfl⟩) | (go_at_call 145; refine (l2Box _ _).mono ?_; rintro e w' ⟨rfl, rfl⟩) | (go_at_call 144; refine (l1Num2 _ _).mono ?_; rintro e w' ⟨rfl, rfl⟩))
        go_ret
        exact ⟨ret_bool (by simp), (Below.refl _ _).alloc (Nat.le_refl _) _⟩

set_option maxRecDepth 100000 in
set_option maxHeartbeats 2000000 in
theorem l2Ins5 (a b n : Int) (w : World) : Calls Try.prog 152 #[.agg #[.int .i64 5, .int .i64 a, .int .i64 b, .int .i64 n]] w fun e w' => e = .returned (.bool (regOk a && regOk b && (n == 0))) ∧ Below w.heap.size w w' := by
  cases ha : regOk a with
  | false =>
    go_enter Try.func152, Try.ntmps152
    go_wp2_with (first | (go_at_call 155; refine (l2Reg _ _).mono ?_; rintro e w' ⟨rfl, rfl⟩) | (go_at_call 145; refine (l2Box _ _).mono ?_; rintro e w' ⟨rfl, rfl⟩) | (go_at_call 144; refine (l1Num2 _ _).mono ?_; rintro e w' ⟨rfl, rfl⟩))
    go_ret
    exact ⟨ret_bool (by simp), (Below.refl _ _).alloc (Nat.le_refl _) _⟩
  | true =>
    cases hb : regOk b with
    | false =>
      go_enter Try.func152, Try.ntmps152
      go_wp2_with (first | (go_at_call 155; refine (l2Reg _ _).mono ?_; rintro e w' ⟨rfl, rfl⟩) | (go_at_call 145; refine (l2Box _ _).mono ?_; rintro e w' ⟨rfl, rfl⟩) | (go_at_call 144; refine (l1Num2 _ _).mono ?_; rintro e w' ⟨rfl, rfl⟩))
      go_ret
      exact ⟨ret_bool (by simp), (Below.refl _ _).alloc (Nat.le_refl _) _⟩
    | true =>
      cases hn : (n == 0) with
      | false =>
        go_enter Try.func152, Try.ntmps152
        go_wp2_with (first | (go_at_call 155; refine (l2Reg _ _).mono ?_; rintro e w' ⟨rfl, rfl⟩) | (go_at_call 145; refine (l2Box _ _).mono ?_; rintro e w' ⟨rfl, rfl⟩) | (go_at_call 144; refine (l1Num2 _ _).mono ?_; rintro e w' ⟨rfl, rfl⟩))
        go_ret
        exact ⟨ret_bool (by simp), (Below.refl _ _).alloc (Nat.le_refl _) _⟩
      | true =>
        go_enter Try.func152, Try.ntmps152
        go_wp2_with (first | (go_at_call 155; refine (l2Reg _ _).mono ?_; rintro e w' ⟨rfl, rfl⟩) | (go_at_call 145; refine (l2Box _ _).mono ?_; rintro e w' ⟨rfl, rfl⟩) | (go_at_call 144; refine (l1Num2 _ _).mono ?_; rintro e w' ⟨rfl, rfl⟩))
        go_ret
        exact ⟨ret_bool (by simp), (Below.refl _ _).alloc (Nat.le_refl _) _⟩

set_option maxRecDepth 100000 in
set_option maxHeartbeats 2000000 in
theorem l2Ins7 (a b n : Int) (w : World) : Calls Try.prog 152 #[.agg #[.int .i64 7, .int .i64 a, .int .i64 b, .int .i64 n]] w fun e w' => e = .returned (.bool ((a == 0) && (b == 0) && (n == 0))) ∧ Below w.heap.size w w' := by
  cases ha : (a == 0) with
  | false =>
    go_enter Try.func152, Try.ntmps152
    go_wp2_with (first | (go_at_call 155; refine (l2Reg _ _).mono ?_; rintro e w' ⟨rfl, rfl⟩) | (go_at_call 145; refine (l2Box _ _).mono ?_; rintro e w' ⟨rfl, rfl⟩) | (go_at_call 144; refine (l1Num2 _ _).mono ?_; rintro e w' ⟨rfl, rfl⟩))
    go_ret
    exact ⟨ret_bool (by simp), (Below.refl _ _).alloc (Nat.le_refl _) _⟩
  | true =>
    cases hb : (b == 0) with
    | false =>
      go_enter Try.func152, Try.ntmps152
      go_wp2_with (first | (go_at_call 155; refine (l2Reg _ _).mono ?_; rintro e w' ⟨rfl, rfl⟩) | (go_at_call 145; refine (l2Box _ _).mono ?_; rintro e w' ⟨rfl, rfl⟩) | (go_at_call 144; refine (l1Num2 _ _).mono ?_; rintro e w' ⟨rfl, rfl⟩))
      go_ret
      exact ⟨ret_bool (by simp), (Below.refl _ _).alloc (Nat.le_refl _) _⟩
    | true =>
      cases hn : (n == 0) with
      | false =>
        go_enter Try.func152, Try.ntmps152
        go_wp2_with (first | (go_at_call 155; refine (l2Reg _ _).mono ?_; rintro e w' ⟨rfl, rfl⟩) | (go_at_call 145; refine (l2Box _ _).mono ?_; rintro e w' ⟨rfl, rfl⟩) | (go_at_call 144; refine (l1Num2 _ _).mono ?_; rintro e w' ⟨rfl, rfl⟩))
        go_ret
        exact ⟨ret_bool (by simp), (Below.refl _ _).alloc (Nat.le_refl _) _⟩
      | true =>
        go_enter Try.func152, Try.ntmps152
        go_wp2_with (first | (go_at_call 155; refine (l2Reg _ _).mono ?_; rintro e w' ⟨rfl, rfl⟩) | (go_at_call 145; refine (l2Box _ _).mono ?_; rintro e w' ⟨rfl, rfl⟩) | (go_at_call 144; refine (l1Num2 _ _).mono ?_; rintro e w' ⟨rfl, rfl⟩))
        go_ret
        exact ⟨ret_bool (by simp), (Below.refl _ _).alloc (Nat.le_refl _) _⟩

set_option maxRecDepth 100000 in
set_option maxHeartbeats 2000000 in
theorem l2Ins6 (a b n : Int) (w : World) : Calls Try.prog 152 #[.agg #[.int .i64 6, .int .i64 a, .int .i64 b, .int .i64 n]] w fun e w' => e = .returned (.bool (regOk a && regOk b && lessOk n)) ∧ Below w.heap.size w w' := by
  cases ha : regOk a with
  | false =>
    go_enter Try.func152, Try.ntmps152
    go_wp2_with (first | (go_at_call 155; refine (l2Reg _ _).mono ?_; rintro e w' ⟨rfl, rfl⟩) | (go_at_call 145; refine (l2Box _ _).mono ?_; rintro e w' ⟨rfl, rfl⟩) | (go_at_call 144; refine (l1Num2 _ _).mono ?_; rintro e w' ⟨rfl, rfl⟩))
    go_ret
    exact ⟨ret_bool (by simp), (Below.refl _ _).alloc (Nat.le_refl _) _⟩
  | true =>
    cases hb : regOk b with
    | false =>
      go_enter Try.func152, Try.ntmps152
      go_wp2_with (first | (go_at_call 155; refine (l2Reg _ _).mono ?_; rintro e w' ⟨rfl, rfl⟩) | (go_at_call 145; refine (l2Box _ _).mono ?_; rintro e w' ⟨rfl, rfl⟩) | (go_at_call 144; refine (l1Num2 _ _).mono ?_; rintro e w' ⟨rfl, rfl⟩))
      go_ret
      exact ⟨ret_bool (by simp), (Below.refl _ _).alloc (Nat.le_refl _) _⟩
    | true =>
      have e : Hid (lessOk n = (decide (1 ≤ n) && decide (n ≤ 10))) := rfl
      generalize lessOk n = r at e ⊢
      by_cases h1 : 1 ≤ n
      · by_cases h2 : n ≤ 10
        all_goals
          go_enter Try.func152, Try.ntmps152
          go_wp2_with (first | (go_at_call 155; refine (l2Reg _ _).mono ?_; rintro e w' ⟨rfl, rfl⟩) | (go_at_call 145; refine (l2Box _ _).mono ?_; rintro e w' ⟨rfl, rfl⟩) | (go_at_call 144; refine (l1Num2 _ _).mono ?_; rintro e w' ⟨rfl, rfl⟩))
          go_ret
          exact ⟨ret_bool (by rw [e.out]; simp [h1, h2]), (Below.refl _ _).alloc (Nat.le_refl _) _⟩
      · have h1' : n < 1 := by omega
        have h1'' : decide (1 ≤ n) = false := by simpa using h1
        go_enter Try.func152, Try.ntmps152
        go_wp2_with (first | (go_at_call 155; refine (l2Reg _ _).mono ?_; rintro e w' ⟨rfl, rfl⟩) | (go_at_call 145; refine (l2Box _ _).mono ?_; rintro e w' ⟨rfl, rfl⟩) | (go_at_call 144; refine (l1Num2 _ _).mono ?_; rintro e w' ⟨rfl, rfl⟩))
        go_ret
        exact ⟨ret_bool (by rw [e.out, h1'']; rfl), (Below.refl _ _).alloc (Nat.le_refl _) _⟩

/-- A kind that there is not. -/
def NoKindS (k : Int) : Prop := (k == 1) = false ∧ (k == 2) = false ∧ (k == 3) = false ∧ (k == 4) = false ∧ (k == 5) = false ∧ (k == 6) = false ∧ (k == 7) = false
theorem noKindS_of {k : Int} (h1 : k ≠ 1) (h2 : k ≠ 2) (h3 : k ≠ 3) (h4 : k ≠ 4) (h5 : k ≠ 5) (h6 : k ≠ 6) (h7 : k ≠ 7) : NoKindS k := by
  simp [NoKindS, h1, h2, h3, h4, h5, h6, h7]

set_option maxRecDepth 100000 in
set_option maxHeartbeats 2000000 in
theorem l2InsNo (k a b n : Int) (w : World) (h : NoKindS k) : Calls Try.prog 152 #[.agg #[.int .i64 k, .int .i64 a, .int .i64 b, .int .i64 n]] w fun e w' => e = .returned (.bool false) ∧ Below w.heap.size w w' := by
  obtain ⟨h1, h2, h3, h4, h5, h6, h7⟩ := h
  go_enter Try.func152, Try.ntmps152
  go_wp2
  go_ret
  exact ⟨rfl, (Below.refl _ _).alloc (Nat.le_refl _) _⟩

theorem l2Ins (p : Q4) (w : World) : Calls Try.prog 152 #[.agg #[.int .i64 p.1, .int .i64 p.2.1, .int .i64 p.2.2.1, .int .i64 p.2.2.2]] w fun e w' => e = .returned (.bool (insOk p)) ∧ Below w.heap.size w w' := by
  obtain ⟨k, a, b, n⟩ := p
  by_cases h1 : k = 1
  · subst h1; rw [insOk_1]; exact l2Ins1 a b n w
  by_cases h2 : k = 2
  · subst h2; rw [insOk_2]; exact l2Ins2 a b n w
  by_cases h3 : k = 3
  · subst h3; rw [insOk_3]; exact l2Ins3 a b n w
  by_cases h4 : k = 4
  · subst h4; rw [insOk_4]; exact l2Ins4 a b n w
  by_cases h5 : k = 5
  · subst h5; rw [insOk_5]; exact l2Ins5 a b n w
  by_cases h6 : k = 6
  · subst h6; rw [insOk_6]; exact l2Ins6 a b n w
  by_cases h7 : k = 7
  · subst h7; rw [insOk_7]; exact l2Ins7 a b n w
  · rw [insOk_no a b n ⟨h1, h2, h3, h4, h5, h6, h7⟩]
    exact l2InsNo k a b n w (noKindS_of h1 h2 h3 h4 h5 h6 h7)
end Go.Proofs.Ytbbbfnfpmaogoaa.Own

namespace Go.Proofs.Ytbbbfnfpmaogoaa.Own
open Go.RowKit
set_option linter.unusedVariables false
set_option linter.unusedSimpArgs false

theorem any_take_succP {xs : List P2} {k : Nat} (n : Int) (h : k < xs.length) : ((xs.take (k + 1)).any fun p => p.1 == n) = (((xs.take k).any fun p => p.1 == n) || (xs.getD k (0, 0)).1 == n) := by
  rw [List.take_succ_eq_append_getElem h, List.any_append]
  simp [List.getD, h]
theorem any_at {xs : List P2} {k : Nat} {n : Int} (h : k < xs.length) (e : ((xs.getD k (0, 0)).1 == n) = true) : (xs.any fun p => p.1 == n) = true := by
  rw [List.any_eq_true]
  exact ⟨xs.getD k (0, 0), by simp [List.getD, h], e⟩

set_option maxRecDepth 100000 in
set_option maxHeartbeats 1000000 in
theorem l3Saw (a : Option Addr) (c n : Nat) (xs : List P2) (z : Int) (w : World) (h : Sl w a xs) (hl : xs.length = n) (hn : n ≤ 2 ^ 40) :
    Calls Try.prog 146 #[.slice a n c, .int .i64 z] w fun e w' => e = .returned (.bool (xs.any fun p => p.1 == z)) ∧ w' = w := by
  subst hl
  have H1 : Hid (Sl w a xs) := h
  clear h
  go_enter Try.func146, Try.ntmps146
  go_wp2
  go_loop [5] (fun i => ∃ k : Nat, k ≤ xs.length ∧ i = .int .i64 k ∧ Hid (((xs.take k).any fun p => p.1 == z) = false)) (fun i => xs.length - (intOf i).toNat)
  case atStart => exact ⟨0, Nat.zero_le _, rfl, rfl⟩
  case round =>
    obtain ⟨k, hk, rfl, hA⟩ := hrel
    by_cases hlt : k < xs.length
    · rcases H1.out with h | ⟨b1, o1, rfl, h1⟩
      · subst h; simp at hlt
      obtain ⟨ca, cb⟩ := h1.2 k hlt
      have HT : Hid (((xs.take (k + 1)).any fun p => p.1 == z) = (((xs.take k).any fun p => p.1 == z) || (xs.getD k (0, 0)).1 == z)) := any_take_succP z hlt
      have HY : Hid (((xs.getD k (0, 0)).1 == z) = true → (xs.any fun p => p.1 == z) = true) := any_at hlt
      obtain ⟨p, hp⟩ : ∃ p, p = (xs.getD k (0, 0)).1 := ⟨_, rfl⟩
      rw [← hp] at ca
      have HP : Hid (p = (xs.getD k (0, 0)).1) := hp
      clear hp h1 cb
      cases t : (p == z) with
      | true =>
        have Y : Hid ((xs.any fun p => p.1 == z) = true) := HY.out (by rw [← HP.out]; exact t)
        clear HY HT
        go_wp2
        go_ret
        exact ⟨ret_bool Y.out.symm, rfl⟩
      | false =>
        have N : Hid (((xs.take (k + 1)).any fun p => p.1 == z) = false) := by show _ = _; rw [HT.out, hA.out, ← HP.out, t]; rfl
        clear HY HT
        go_wp2
        go_round
        case rel => exact ⟨k + 1, by omega, by go_num, N⟩
        case measure => simp [intOf]; omega
    · go_wp2
      go_ret
      have : k = xs.length := by omega
      subst this
      have h := hA.out
      rw [List.take_length] at h
      exact ⟨ret_bool h.symm, rfl⟩

/-- The place of a box among what is put, or -1. -/
def placeOf (xs : List P2) (z : Int) : Int := if (xs.any fun p => p.1 == z) then ((xs.findIdx fun p => p.1 == z) : Nat) else -1

theorem placeOf_at {xs : List P2} {k : Nat} {z : Int} (h : k < xs.length) (e : ((xs.getD k (0, 0)).1 == z) = true) (h0 : ((xs.take k).any fun p => p.1 == z) = false) : placeOf xs z = k := by
  unfold placeOf
  rw [if_pos (any_at h e)]
  have : xs.findIdx (fun p => p.1 == z) = k := by
    rw [List.findIdx_eq h]
    refine ⟨by simpa [List.getD, h] using e, fun j hj => ?_⟩
    rw [List.any_eq_false] at h0
    have := h0 (xs[j]'(by omega)) (by rw [List.mem_take_iff_getElem]; exact ⟨j, by omega, rfl⟩)
    simpa using this
  rw [this]
theorem placeOf_none {xs : List P2} {z : Int} (h : (xs.any fun p => p.1 == z) = false) : placeOf xs z = -1 := by
  simp [placeOf, h]
theorem placeOf_neg (xs : List P2) (z : Int) : decide (placeOf xs z ≥ 0) = (xs.any fun p => p.1 == z) := by
  unfold placeOf
  cases h : (xs.any fun p => p.1 == z) with
  | true => simp
  | false => simp

set_option maxRecDepth 100000 in
set_option maxHeartbeats 1000000 in
theorem l3At (a : Option Addr) (c n : Nat) (xs : List P2) (z : Int) (w : World) (h : Sl w a xs) (hl : xs.length = n) (hn : n ≤ 2 ^ 40) :
    Calls Try.prog 147 #[.slice a n c, .int .i64 z] w fun e w' => e = .returned (.int .i64 (placeOf xs z)) ∧ w' = w := by
  subst hl
  have H1 : Hid (Sl w a xs) := h
  clear h
  go_enter Try.func147, Try.ntmps147
  go_wp2
  go_loop [5] (fun i => ∃ k : Nat, k ≤ xs.length ∧ i = .int .i64 k ∧ Hid (((xs.take k).any fun p => p.1 == z) = false)) (fun i => xs.length - (intOf i).toNat)
  case atStart => exact ⟨0, Nat.zero_le _, rfl, rfl⟩
  case round =>
    obtain ⟨k, hk, rfl, hA⟩ := hrel
    by_cases hlt : k < xs.length
    · rcases H1.out with h | ⟨b1, o1, rfl, h1⟩
      · subst h; simp at hlt
      obtain ⟨ca, cb⟩ := h1.2 k hlt
      have HT : Hid (((xs.take (k + 1)).any fun p => p.1 == z) = (((xs.take k).any fun p => p.1 == z) || (xs.getD k (0, 0)).1 == z)) := any_take_succP z hlt
      have HY : Hid (((xs.getD k (0, 0)).1 == z) = true → placeOf xs z = k) := fun e => placeOf_at hlt e hA.out
      obtain ⟨p, hp⟩ : ∃ p, p = (xs.getD k (0, 0)).1 := ⟨_, rfl⟩
      rw [← hp] at ca
      have HP : Hid (p = (xs.getD k (0, 0)).1) := hp
      clear hp h1 cb
      cases t : (p == z) with
      | true =>
        have Y : Hid (placeOf xs z = k) := HY.out (by rw [← HP.out]; exact t)
        clear HY HT
        go_wp2
        go_ret
        exact ⟨ret_int Y.out.symm, rfl⟩
      | false =>
        have N : Hid (((xs.take (k + 1)).any fun p => p.1 == z) = false) := by show _ = _; rw [HT.out, hA.out, ← HP.out, t]; rfl
        clear HY HT
        go_wp2
        go_round
        case rel => exact ⟨k + 1, by omega, by go_num, N⟩
        case measure => simp [intOf]; omega
    · go_wp2
      go_ret
      have : k = xs.length := by omega
      subst this
      have h := hA.out
      rw [List.take_length] at h
      exact ⟨ret_int (placeOf_none h).symm, rfl⟩
end Go.Proofs.Ytbbbfnfpmaogoaa.Own

namespace Go.Proofs.Ytbbbfnfpmaogoaa.Own
open Go.RowKit
set_option linter.unusedVariables false
set_option linter.unusedSimpArgs false

theorem BoxAt.pre {w : World} {b off : Nat} {xs : List P2} (h : BoxAt w b off xs) (n : Nat) (hn : n ≤ xs.length) : BoxAt w b off (xs.take n) := by
  refine ⟨h.1, fun i hi => ?_⟩
  rw [List.length_take] at hi
  have e : (xs.take n).getD i (0, 0) = xs.getD i (0, 0) := by simp [List.getD, show i < n by omega]
  rw [e]; exact h.2 i (by omega)

/-- The first test of spec.ExecOk. -/
theorem endOk_true {k v : Int} {nr np : Nat} (h : endOk k v nr np = true) : (k = 0 ∧ numOk v = true) ∨ ((k = 1 ∨ k = 2) ∧ v = 0 ∧ np = 0) ∨ (k = 3 ∧ v = 0 ∧ np = 0 ∧ nr = 0) := by
  unfold endOk at h
  split at h
  · exact .inl ⟨by assumption, h⟩
  split at h
  · simp at h; exact .inr (.inl ⟨by assumption, h.1, h.2⟩)
  split at h
  · simp at h; exact .inr (.inr ⟨by assumption, h.1.1, h.1.2, h.2⟩)
  · cases h
theorem endOk_falls {k v : Int} {nr np : Nat} (h : endOk k v nr np = false) : k < 0 ∨ 3 < k ∨ (0 ≤ k ∧ k ≤ 3 ∧ numOk v = false) ∨ (1 ≤ k ∧ k ≤ 3 ∧ numOk v = true ∧ v ≠ 0) ∨ (1 ≤ k ∧ k ≤ 3 ∧ v = 0 ∧ 0 < np) ∨ (k = 3 ∧ v = 0 ∧ np = 0 ∧ 0 < nr) := by
  by_cases h1 : k < 0
  · exact .inl h1
  by_cases h2 : 3 < k
  · exact .inr (.inl h2)
  cases hn : numOk v with
  | false => exact .inr (.inr (.inl ⟨by omega, by omega, rfl⟩))
  | true =>
    by_cases h0 : k = 0
    · subst h0; rw [endOk_0, hn] at h; cases h
    by_cases hv : v = 0
    · subst hv
      by_cases hp : 0 < np
      · exact .inr (.inr (.inr (.inr (.inl ⟨by omega, by omega, rfl, hp⟩))))
      by_cases h3 : k = 3
      · subst h3
        by_cases hr : 0 < nr
        · exact .inr (.inr (.inr (.inr (.inr ⟨rfl, rfl, by omega, hr⟩))))
        · rw [endOk_3] at h; simp at h; omega
      · have : k = 1 ∨ k = 2 := by omega
        rcases this with rfl | rfl
        · rw [endOk_1] at h; simp at h; omega
        · rw [endOk_2] at h; simp at h; omega
    · exact .inr (.inr (.inr (.inl ⟨by omega, by omega, rfl, hv⟩)))

set_option maxRecDepth 100000 in
set_option maxHeartbeats 2000000 in
theorem specExecOk_no (a1 a2 : Option Addr) (n1 c1 n2 c2 : Nat) (v k : Int) (w : World) (h : endOk k v n1 n2 = false) :
    Calls Try.prog 127 #[.agg #[.slice a1 n1 c1, .slice a2 n2 c2, .int .i64 v, .int .i64 k]] w fun e w' => e = .returned (.bool false) ∧ Below w.heap.size w w' := by
  have B0 : ∀ o, Hid (Below w.heap.size w (w.alloc o)) := fun o => (Below.refl _ _).alloc (Nat.le_refl _) _
  rcases endOk_falls h with h | h | ⟨h1, h2, h3⟩ | ⟨h1, h2, h3, h4⟩ | ⟨h1, h2, rfl, h4⟩ | ⟨rfl, rfl, rfl, h4⟩
  · go_enter Try.func127, Try.ntmps127
    go_wp2
    go_ret
    exact ⟨rfl, (B0 _).out⟩
  · have h' : ¬ k < 0 := by omega
    go_enter Try.func127, Try.ntmps127
    go_wp2
    go_ret
    exact ⟨rfl, (B0 _).out⟩
  · have H3 : Hid (numOk v = false) := h3
    clear h3
    go_enter Try.func127, Try.ntmps127
    go_wp2_with fail
    refine (l1Num v _).mono ?_
    rintro e w1 ⟨rfl, rfl⟩
    rw [H3.out]
    go_wp2
    go_ret
    exact ⟨rfl, (B0 _).out⟩
  · have H3 : Hid (numOk v = true) := h3
    have e0 : (k != 0) = true := by simp; omega
    have e1 : (v != 0) = true := by simpa using h4
    clear h3 h4
    go_enter Try.func127, Try.ntmps127
    go_wp2_with fail
    refine (l1Num v _).mono ?_
    rintro e w1 ⟨rfl, rfl⟩
    rw [H3.out]
    go_wp2
    go_ret
    exact ⟨rfl, (B0 _).out⟩
  · have e0 : (k != 0) = true := by simp; omega
    have e1 : decide ((0 : Int) < (n2 : Int)) = true := by simp; omega
    go_enter Try.func127, Try.ntmps127
    go_wp2_with fail
    refine (l1Num 0 _).mono ?_
    rintro e w1 ⟨rfl, rfl⟩
    rw [show numOk 0 = true from rfl]
    go_wp2
    go_ret
    exact ⟨rfl, (B0 _).out⟩
  · have e1 : decide ((0 : Int) < (n1 : Int)) = true := by simp; omega
    go_enter Try.func127, Try.ntmps127
    go_wp2_with fail
    refine (l1Num 0 _).mono ?_
    rintro e w1 ⟨rfl, rfl⟩
    rw [show numOk 0 = true from rfl]
    go_wp2
    go_ret
    exact ⟨rfl, (B0 _).out⟩
end Go.Proofs.Ytbbbfnfpmaogoaa.Own

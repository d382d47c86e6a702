/-
  Own text: what laws.szVote, szVoteS, toVote, toVoteS, eqVote and eqVoteS do.
-/
import Derived.Test.YtfifiobcmdmefaaVoteMem
import Derived.Test.YtfifiobcmdmefaaEntOps
import Derived.BigQuiet
import Derived.Lib.QuietBelow
namespace Go.Proofs.Ytfifiobcmdmefaa.Own
open Go.RowKit Go.Sort
set_option linter.unusedVariables false
set_option linter.unusedSimpArgs false

theorem infoVote : (Try.prog.info? 42).map (fun i => (i.zero, i.size, i.bytes)) = some (some (.agg #[.int .i64 0, .bool false, .int .i64 0, .int .i64 0, .slice none 0 0, .slice none 0 0, .int .i64 0, .int .i64 0]), 8, 96) := by kernel_rfl

set_option maxHeartbeats 400000 in
theorem szVote (m : Int) (n : Bool) (p q : Int) (a1 a2 : Option Addr) (n1 c1 n2 c2 : Nat) (v k left : Int) (w : World) (h1 : n1 ≤ maxLen) (h2 : n2 ≤ maxLen) (h0 : 0 ≤ left) (hm : left ≤ 2 ^ 60) :
    Calls Try.prog 166 #[.agg #[.int .i64 m, .bool n, .int .i64 p, .int .i64 q, .slice a1 n1 c1, .slice a2 n2 c2, .int .i64 v, .int .i64 k], .int .i64 left] w fun e w' => e = .returned (.int .i64 (if left - n1 - n2 < 0 then -1 else left - n1 - n2)) ∧ Below w.heap.size w w' := by
  obtain ⟨W, hW⟩ : ∃ W, W = w.alloc (.cells #[.int .i64 m, .bool n, .int .i64 p, .int .i64 q, .slice a1 n1 c1, .slice a2 n2 c2, .int .i64 v, .int .i64 k] 225) := ⟨_, rfl⟩
  have BW : Hid (Below w.heap.size w W) := by show Below _ _ _; rw [hW]; exact (Below.refl _ _).alloc (Nat.le_refl _) _
  have HW : Hid (W = _) := hW
  clear hW
  by_cases hl : left - n1 - n2 < 0
  · go_enter Try.func166, Try.ntmps166
    go_wp2_with fail
    rw [← HW.out]
    refine (szEntry n p q a1 a2 n1 c1 n2 c2 v k left W h1 h2 h0 hm).mono ?_
    rintro e w1 ⟨rfl, b1⟩
    rw [if_pos (by omega)]
    have B1 : Hid (Below w.heap.size w w1) := BW.out.trans (b1.mono BW.out.size)
    clear b1
    go_wp2_with fail
    go_ret
    exact ⟨rfl, B1.out⟩
  · go_enter Try.func166, Try.ntmps166
    go_wp2_with fail
    rw [← HW.out]
    refine (szEntry n p q a1 a2 n1 c1 n2 c2 v k left W h1 h2 h0 hm).mono ?_
    rintro e w1 ⟨rfl, b1⟩
    rw [if_neg (by omega)]
    have B1 : Hid (Below w.heap.size w w1) := BW.out.trans (b1.mono BW.out.size)
    clear b1
    go_wp2_with fail
    go_ret
    exact ⟨rfl, B1.out⟩

set_option maxHeartbeats 1000000 in
theorem szVoteS (a : Option Addr) (c : Nat) (vs : List VM) (left : Int) (w : World) (h : SlV w a vs) (hl : vs.length ≤ maxLen) (hm : ∀ i, i < vs.length → (vs.getD i v0).b.xs.length ≤ maxLen ∧ (vs.getD i v0).b.ys.length ≤ maxLen) (h0 : 0 ≤ left) (h1 : left ≤ 2 ^ 60) :
    Calls Try.prog 145 #[.slice a vs.length c, .int .i64 left] w fun e w' => e = .returned (.int .i64 (if left < (vs.length + sumV vs vs.length : Nat) then -1 else left - (vs.length + sumV vs vs.length : Nat))) ∧ Below w.heap.size w w' := by
  have HS : Hid (SlV w a vs) := h
  have HM : Hid (∀ i, i < vs.length → (vs.getD i v0).b.xs.length ≤ maxLen ∧ (vs.getD i v0).b.ys.length ≤ maxLen) := hm
  clear h hm
  unfold maxLen at hl
  obtain ⟨T, hT⟩ : ∃ T, T = vs.length + sumV vs vs.length := ⟨_, rfl⟩
  rw [← hT]
  have HT : Hid (T = vs.length + sumV vs vs.length) := hT
  obtain ⟨r, hr⟩ : ∃ r : Int, r = if left < (T : Nat) then -1 else left - (T : Nat) := ⟨_, rfl⟩
  rw [← hr]
  have HR1 : Hid (left < (T : Nat) → r = -1) := fun h => by rw [hr, if_pos h]
  have HR2 : Hid (¬ left < (T : Nat) → r = left - (T : Nat)) := fun h => by rw [hr, if_neg h]
  clear hT hr
  by_cases hb : left - (vs.length : Int) < 0
  · have hlt : Hid (left < (T : Nat)) := by have := HT.out; show _ < _; omega
    go_enter Try.func145, Try.ntmps145
    go_wp2_with fail
    go_ret
    exact ⟨ret_int (HR1.out hlt.out).symm, Below.refl _ _⟩
  · go_enter Try.func145, Try.ntmps145
    go_wp2_with fail
    go_loopw [1, 5] (fun q i wr => ∃ k : Nat, k ≤ vs.length ∧ i = .int .i64 k ∧ ((vs.length + sumV vs k : Nat) : Int) ≤ left ∧ q = .int .i64 (left - vs.length - (sumV vs k : Nat)) ∧ Hid (Below w.heap.size w wr)) (fun _ i _ => vs.length - (intOf i).toNat)
    case atStart => exact ⟨0, Nat.zero_le _, rfl, by simp [sumV]; omega, by simp [sumV], Below.refl _ _⟩
    case round =>
      obtain ⟨k, hk, rfl, hle, rfl, KB⟩ := hrel
      by_cases hlt : k < vs.length
      · have hki : (k : Int) < (vs.length : Int) := by omega
        rcases HS.out.below KB.out with hh | ⟨b, off, rfl, _, hh⟩
        · rw [hh] at hlt; simp at hlt
        obtain ⟨⟨d0, d1, d2, d3, d4, d5, d6, d7⟩, _⟩ := hh k hlt
        obtain ⟨mx1, mx2⟩ := HM.out k hlt
        have NX : Hid (sumV vs (k + 1) = sumV vs k + ((vs.getD k v0).b.xs.length + (vs.getD k v0).b.ys.length)) := rfl
        have TM : Hid (vs.length + sumV vs (k + 1) ≤ T) := by have := sumV_mono vs (show k + 1 ≤ vs.length by omega); have := HT.out; show _ ≤ _; omega
        clear hh
        generalize vs.getD k v0 = x at d0 d1 d2 d3 d4 d5 d6 d7 mx1 mx2 NX
        obtain ⟨xbal, ⟨xn, xp, xq, xxs, xys, xv, xk⟩, xa1, xc1, xa2, xc2⟩ := x
        simp only at d0 d1 d2 d3 d4 d5 d6 d7 mx1 mx2 NX
        obtain ⟨z, hz, z0⟩ : ∃ z : Int, z = left - vs.length - (sumV vs k : Nat) ∧ 0 ≤ z := ⟨_, rfl, by omega⟩
        rw [← hz]
        have HZ : Hid (z = left - vs.length - (sumV vs k : Nat)) := hz
        have z1 : z ≤ 2 ^ 60 := by omega
        clear hz
        go_wp2_with fail
        refine (szVote xbal xn xp xq xa1 xa2 xxs.length xc1 xys.length xc2 xv xk z _ mx1 mx2 z0 z1).mono ?_
        rintro e w1 ⟨rfl, hw⟩
        have B1 : Hid (Below w.heap.size w w1) := KB.out.trans (hw.mono KB.out.size)
        clear hw
        by_cases hc : z - (xxs.length : Int) - (xys.length : Int) < 0
        · rw [if_pos hc]
          have LT : Hid (left < (T : Nat)) := by have := TM.out; have := NX.out; have := HZ.out; show _ < _; omega
          go_wp2_with fail
          go_ret
          exact ⟨ret_int (HR1.out LT.out).symm, B1.out⟩
        · rw [if_neg hc]
          go_wp2_with fail
          go_roundw
          case rel => exact ⟨k + 1, by omega, by go_num, by have := NX.out; have := HZ.out; omega, by have := NX.out; have := HZ.out; congr 1; omega, B1.out⟩
          case measure => simp [intOf]; omega
      · have hki : ¬ (k : Int) < (vs.length : Int) := by omega
        obtain rfl : k = vs.length := by omega
        go_wp2_with fail
        go_ret
        have ht := HT.out
        have h2 := HR2.out (by omega)
        exact ⟨ret_int (by omega), KB.out⟩

set_option maxRecDepth 100000 in
set_option maxHeartbeats 1000000 in
theorem toVote (m : Int) (n : Bool) (p q : Int) (a1 a2 : Option Addr) (c1 c2 : Nat) (xs ys : List P2) (v k : Int) (w : World) (h1 : Sl w a1 xs) (h2 : Sl w a2 ys) (hn1 : xs.length ≤ 2 ^ 40) (hn2 : ys.length ≤ 2 ^ 40) :
    Calls Try.prog 168 #[.agg #[.int .i64 m, .bool n, .int .i64 p, .int .i64 q, .slice a1 xs.length c1, .slice a2 ys.length c2, .int .i64 v, .int .i64 k]] w fun e w' => ∃ g1 g2, e = .returned (.agg #[.int .i64 m, .bool n, .int .i64 p, .int .i64 q, .slice (some ⟨g1, 0, none⟩) xs.length xs.length, .slice (some ⟨g2, 0, none⟩) ys.length ys.length, .int .i64 v, .int .i64 k]) ∧ RunOwn w' w.heap.size g1 g2 xs ys ∧ Below w.heap.size w w' := by
  have H1 : Hid (Sl w a1 xs) := h1
  have H2 : Hid (Sl w a2 ys) := h2
  clear h1 h2
  obtain ⟨W, hW⟩ : ∃ W, W = ((w.alloc (.cells #[.int .i64 m, .bool n, .int .i64 p, .int .i64 q, .slice a1 xs.length c1, .slice a2 ys.length c2, .int .i64 v, .int .i64 k] 225)).alloc (.cells #[.int .i64 0, .bool false, .int .i64 0, .int .i64 0, .slice none 0 0, .slice none 0 0, .int .i64 0, .int .i64 0] 42)).alloc (.cells #[.int .i64 m, .bool false, .int .i64 0, .int .i64 0, .slice none 0 0, .slice none 0 0, .int .i64 0, .int .i64 0] 42) := ⟨_, rfl⟩
  have BW : Hid (Below w.heap.size w W) := by
    show Below _ _ _
    rw [hW]; exact ((((Below.refl _ _).alloc (Nat.le_refl _) _).alloc (by simp) _).alloc (by simp; omega) _)
  have SW : Hid (W.heap.size = w.heap.size + 3) := by show _ = _; rw [hW]; simp
  have G1 : Hid (Blk W (w.heap.size + 1) #[.int .i64 0, .bool false, .int .i64 0, .int .i64 0, .slice none 0 0, .slice none 0 0, .int .i64 0, .int .i64 0] 42) := by
    show Blk _ _ _ _; rw [hW]; exact (Blk.new2 _ _ _ _).alloc _
  have G2 : Hid (Blk W (w.heap.size + 1 + 1) #[.int .i64 m, .bool false, .int .i64 0, .int .i64 0, .slice none 0 0, .slice none 0 0, .int .i64 0, .int .i64 0] 42) := by
    show Blk _ _ _ _; rw [hW]; exact Blk.new3 _ _ _ _ _
  have HW : Hid (W = _) := hW
  clear hW
  go_enter Try.func168, Try.ntmps168
  go_wp2_with fail
  rw [← HW.out]
  refine (toEntry n p q a1 a2 c1 c2 xs ys v k W (H1.out.below BW.out) (H2.out.below BW.out) hn1 hn2).mono ?_
  rintro e w3 ⟨g1, g2, rfl, own, b3⟩
  have F1 : Hid (Blk w3 (w.heap.size + 1) _ _) := G1.out.keep b3
  have F2 : Hid (Blk w3 (w.heap.size + 1 + 1) _ _) := G2.out.keep b3
  have B3 : Hid (Below w.heap.size w w3) := BW.out.trans (b3.mono BW.out.size)
  have O3 : Hid (RunOwn w3 w.heap.size g1 g2 xs ys) := ⟨Nat.le_trans BW.out.size own.1, Nat.le_trans BW.out.size own.2.1, own.2.2⟩
  have N3 : Hid (w.heap.size + 3 ≤ g1 ∧ w.heap.size + 3 ≤ g2) := ⟨by have := SW.out; have := own.1; omega, by have := SW.out; have := own.2.1; omega⟩
  clear b3 own
  obtain ⟨i0, i1, i2, i3, i4, i5, i6, i7⟩ := F1.out.cells8
  obtain ⟨o0, o1, o2, o3, o4, o5, o6, o7⟩ := F2.out.cells8
  have fo := F2.out.frozen
  have fi := F1.out.frozen
  go_wp2
  refine bodyPost_ret (v := .agg #[.int .i64 m, .bool n, .int .i64 p, .int .i64 q, .slice (some ⟨g1, 0, none⟩) xs.length xs.length, .slice (some ⟨g2, 0, none⟩) ys.length ys.length, .int .i64 v, .int .i64 k]) (by simp [results, Try.results168, go_sem, i0, i1, i2, i3, i4, i5, i6, i7]) rfl ⟨g1, g2, rfl, ?_, ?_⟩
  · have S2 : ∀ {u : World} (o : Nat) (x : Value), KeepFrom (w.heap.size + 3) w3 u → KeepFrom (w.heap.size + 3) w3 (u.setCell ⟨w.heap.size + 1 + 1, o, none⟩ x) := fun o x h => h.setCell (by show w.heap.size + 1 + 1 < _; omega) x
    have S1 : ∀ {u : World} (o : Nat) (x : Value), KeepFrom (w.heap.size + 3) w3 u → KeepFrom (w.heap.size + 3) w3 (u.setCell ⟨w.heap.size + 1, o, none⟩ x) := fun o x h => h.setCell (by show w.heap.size + 1 < _; omega) x
    exact O3.out.keep (S1 _ _ (S1 _ _ (S1 _ _ (S1 _ _ (S1 _ _ (S1 _ _ (S1 _ _ (S1 _ _ (S2 _ _ (S2 _ _ (S2 _ _ (S2 _ _ (S2 _ _ (S2 _ _ (S2 _ _ (KeepFrom.refl _ _)))))))))))))))) N3.out.1 N3.out.2
  · have s2 : w.heap.size ≤ w.heap.size + 1 + 1 := by omega
    have s1 : w.heap.size ≤ w.heap.size + 1 := by omega
    exact ((((((((((((((B3.out.setCell s2 _).setCell s2 _).setCell s2 _).setCell s2 _).setCell s2 _).setCell s2 _).setCell s2 _).setCell s1 _).setCell s1 _).setCell s1 _).setCell s1 _).setCell s1 _).setCell s1 _).setCell s1 _).setCell s1 _

theorem RowV.made (w : World) (n : Nat) : RowV (w.alloc (.cells (madeCells (Value.agg #[.int .i64 0, .bool false, .int .i64 0, .int .i64 0, .slice none 0 0, .slice none 0 0, .int .i64 0, .int .i64 0]).cells (n * 8)) 42)) w.heap.size n := by
  refine ⟨_, _, heap_new _ _, size_madeCells _ _, ?_⟩
  intro v hv
  obtain ⟨k, hk, rfl⟩ := Array.getElem_of_mem hv
  rw [size_madeCells] at hk
  obtain ⟨v, h1, h2⟩ := made_cell (z := (Value.agg #[.int .i64 0, .bool false, .int .i64 0, .int .i64 0, .slice none 0 0, .slice none 0 0, .int .i64 0, .int .i64 0]).cells) (n := n * 8) (k := k) (by decide) hk (by simp [Value.cells, Value.oneCell'])
  rw [Array.getElem?_eq_getElem (by simpa [size_madeCells] using hk)] at h1
  injection h1 with h1
  rw [h1]; exact h2

set_option maxRecDepth 100000 in
set_option maxHeartbeats 2000000 in
theorem toVoteS (a : Option Addr) (c : Nat) (vs : List VM) (w : World) (h : SlV w a vs) (hn : vs.length ≤ 2 ^ 40) (hl : ∀ i, i < vs.length → (vs.getD i v0).b.xs.length ≤ 2 ^ 40 ∧ (vs.getD i v0).b.ys.length ≤ 2 ^ 40) :
    Calls Try.prog 151 #[.slice a vs.length c] w fun e w' => e = .returned (.slice (some ⟨w.heap.size, 0, none⟩) vs.length vs.length) ∧ (∃ gs, CopyV w' w.heap.size gs (bodies vs)) ∧ RowV w' w.heap.size vs.length ∧ Below w.heap.size w w' := by
  have HS : Hid (SlV w a vs) := h
  have HL : Hid (∀ i, i < vs.length → (vs.getD i v0).b.xs.length ≤ 2 ^ 40 ∧ (vs.getD i v0).b.ys.length ≤ 2 ^ 40) := hl
  clear h hl
  have hmk := make_row (P := Try.prog) Try.underlying23 infoVote vs.length (by omega) (by omega)
  go_enter Try.func151, Try.ntmps151
  go_wp2
  clear hmk
  go_loopw [4] (fun i wr => ∃ (k : Nat) (gs : List (Nat × Nat)), k ≤ vs.length ∧ i = .int .i64 k ∧ Hid (CopyV wr w.heap.size gs ((bodies vs).take k) ∧ RowV wr w.heap.size vs.length ∧ Below w.heap.size w wr)) (fun i _ => vs.length - (intOf i).toNat)
  case atStart => exact ⟨0, [], Nat.zero_le _, rfl, by rw [List.take_zero]; exact CopyV.nil (RowV.made w vs.length).lt, RowV.made w _, (Below.refl _ _).alloc (Nat.le_refl _) _⟩
  case round =>
    obtain ⟨k, gs, hk, rfl, IV⟩ := hrel
    have PL := bodies_len vs
    by_cases hlt : k < vs.length
    · have hki : (k : Int) < (vs.length : Int) := by omega
      rcases HS.out.below IV.out.2.2 with hh | ⟨b, off, rfl, _, hh⟩
      · rw [hh] at hlt; simp at hlt
      obtain ⟨⟨d0, d1, d2, d3, d4, d5, d6, d7⟩, s1, s2⟩ := hh k hlt
      obtain ⟨lx1, lx2⟩ := HL.out k hlt
      have NX : Hid ((bodies vs).take (k + 1) = (bodies vs).take k ++ [(vs.getD k v0).body]) := by
        show _ = _
        rw [List.take_succ_eq_append_getElem (by omega), ← bodies_getD]
        simp [List.getD, PL, hlt]
      have LK : Hid (((bodies vs).take k).length = k) := by show _ = _; simp [PL]; omega
      have SX : Hid (Sl wr (vs.getD k v0).a1 (vs.getD k v0).b.xs ∧ Sl wr (vs.getD k v0).a2 (vs.getD k v0).b.ys) := ⟨s1, s2⟩
      clear hh s1 s2 PL
      generalize vs.getD k v0 = x at d0 d1 d2 d3 d4 d5 d6 d7 lx1 lx2 NX SX
      obtain ⟨xbal, ⟨xn, xp, xq, xxs, xys, xv, xk⟩, xa1, xc1, xa2, xc2⟩ := x
      simp only [VM.body] at d0 d1 d2 d3 d4 d5 d6 d7 lx1 lx2 NX SX
      go_wp2_with fail
      refine (toVote xbal xn xp xq xa1 xa2 xc1 xc2 xxs xys xv xk wr SX.out.1 SX.out.2 lx1 lx2).mono ?_
      rintro e w1 ⟨g1, g2, rfl, ho, hb⟩
      have RP : Hid (RowV w1 w.heap.size vs.length) := IV.out.2.1.below hb IV.out.2.1.lt
      have CN : Hid (CopyV (set8 w1 w.heap.size (k * 8) (vmOf (g1, g2) (xbal, ⟨xn, xp, xq, xxs, xys, xv, xk⟩))) w.heap.size (gs ++ [(g1, g2)]) ((bodies vs).take (k + 1))) := by
        have h := IV.out.1.snoc (x := (xbal, ⟨xn, xp, xq, xxs, xys, xv, xk⟩)) hb ho RP.out (by rw [LK.out]; exact hlt)
        rw [LK.out, ← NX.out] at h
        exact h
      have B1 : Hid (Below w.heap.size w w1) := IV.out.2.2.trans (hb.mono IV.out.2.2.size)
      have FF := fun o => RP.out.frozen o
      obtain ⟨u0, t0, _⟩ := RP.out.cell (k * 8) (by omega)
      obtain ⟨u1, t1, _⟩ := RP.out.cell (k * 8 + 1) (by omega)
      obtain ⟨u2, t2, _⟩ := RP.out.cell (k * 8 + 2) (by omega)
      obtain ⟨u3, t3, _⟩ := RP.out.cell (k * 8 + 3) (by omega)
      obtain ⟨u4, t4, _⟩ := RP.out.cell (k * 8 + 4) (by omega)
      obtain ⟨u5, t5, _⟩ := RP.out.cell (k * 8 + 5) (by omega)
      obtain ⟨u6, t6, _⟩ := RP.out.cell (k * 8 + 6) (by omega)
      obtain ⟨u7, t7, _⟩ := RP.out.cell (k * 8 + 7) (by omega)
      clear ho hb d0 d1 d2 d3 d4 d5 d6 d7
      go_wp2
      go_roundw
      case rel => exact ⟨k + 1, gs ++ [(g1, g2)], by omega, by go_num, CN.out, set8_row RP.out _ (vmOf (g1, g2) (xbal, ⟨xn, xp, xq, xxs, xys, xv, xk⟩)), set8_below B1.out (Nat.le_refl _) _ (vmOf (g1, g2) (xbal, ⟨xn, xp, xq, xxs, xys, xv, xk⟩))⟩
      case measure => simp [intOf]; omega
    · have hki : ¬ (k : Int) < (vs.length : Int) := by omega
      obtain rfl : k = vs.length := by omega
      go_wp2_with fail
      go_ret
      have := IV.out
      rw [List.take_of_length_le (by omega)] at this
      exact ⟨rfl, ⟨gs, this.1⟩, this.2.1, this.2.2⟩
end Go.Proofs.Ytfifiobcmdmefaa.Own

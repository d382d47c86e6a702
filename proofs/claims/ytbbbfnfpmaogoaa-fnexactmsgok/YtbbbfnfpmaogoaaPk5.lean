/-
  Own texts, bundled: VoteOps, EqVote, VoteFit, MsgOps.
-/
import Derived.Test.YtbbbfnfpmaogoaaPk4
import Derived.BigQuiet
import Derived.Lib.QuietBelow
import Derived.Deep.Cut
namespace Go.Proofs.Ytbbbfnfpmaogoaa.Own
open Go.RowKit Go.Sort
set_option linter.unusedVariables false
set_option linter.unusedSimpArgs false

theorem infoVote : (Try.prog.info? 86).map (fun i => (i.zero, i.size, i.bytes)) = some (some (.agg #[.int .i64 0, .bool false, .int .i64 0, .int .i64 0, .slice none 0 0, .slice none 0 0, .int .i64 0, .int .i64 0]), 8, 96) := by kernel_rfl

set_option maxHeartbeats 400000 in
theorem szVote (m : Int) (n : Bool) (p q : Int) (a1 a2 : Option Addr) (n1 c1 n2 c2 : Nat) (v k left : Int) (w : World) (h1 : n1 ≤ maxLen) (h2 : n2 ≤ maxLen) (h0 : 0 ≤ left) (hm : left ≤ 2 ^ 60) :
    Calls Try.prog 86 #[.agg #[.int .i64 m, .bool n, .int .i64 p, .int .i64 q, .slice a1 n1 c1, .slice a2 n2 c2, .int .i64 v, .int .i64 k], .int .i64 left] w fun e w' => e = .returned (.int .i64 (if left - n1 - n2 < 0 then -1 else left - n1 - n2)) ∧ Below w.heap.size w w' := by
  obtain ⟨W, hW⟩ : ∃ W, W = w.alloc (.cells #[.int .i64 m, .bool n, .int .i64 p, .int .i64 q, .slice a1 n1 c1, .slice a2 n2 c2, .int .i64 v, .int .i64 k] 122) := ⟨_, rfl⟩
  have BW : Hid (Below w.heap.size w W) := by show Below _ _ _; rw [hW]; exact (Below.refl _ _).alloc (Nat.le_refl _) _
  have HW : Hid (W = _) := hW
  clear hW
  by_cases hl : left - n1 - n2 < 0
  · go_enter Try.func86, Try.ntmps86
    go_wp2_with fail
    rw [← HW.out]
    refine (szEntry n p q a1 a2 n1 c1 n2 c2 v k left W h1 h2 h0 hm).mono ?_
    rintro e w1 ⟨rfl, b1⟩
    rw [if_pos (by omega)]
    have B1 : Hid (Below w.heap.size w w1) := BW.out.trans (b1.mono BW.out.size)
    clear b1
    go_wp2_with fail
    go_ret
    exact ⟨rfl, B1.out⟩
  · go_enter Try.func86, Try.ntmps86
    go_wp2_with fail
    rw [← HW.out]
    refine (szEntry n p q a1 a2 n1 c1 n2 c2 v k left W h1 h2 h0 hm).mono ?_
    rintro e w1 ⟨rfl, b1⟩
    rw [if_neg (by omega)]
    have B1 : Hid (Below w.heap.size w w1) := BW.out.trans (b1.mono BW.out.size)
    clear b1
    go_wp2_with fail
    go_ret
    exact ⟨rfl, B1.out⟩

set_option maxHeartbeats 1000000 in
theorem szVoteS (a : Option Addr) (c : Nat) (vs : List VM) (left : Int) (w : World) (h : SlV w a vs) (hl : vs.length ≤ maxLen) (hm : ∀ i, i < vs.length → (vs.getD i v0).b.xs.length ≤ maxLen ∧ (vs.getD i v0).b.ys.length ≤ maxLen) (h0 : 0 ≤ left) (h1 : left ≤ 2 ^ 60) :
    Calls Try.prog 34 #[.slice a vs.length c, .int .i64 left] w fun e w' => e = .returned (.int .i64 (if left < (vs.length + sumV vs vs.length : Nat) then -1 else left - (vs.length + sumV vs vs.length : Nat))) ∧ Below w.heap.size w w' := by
  have HS : Hid (SlV w a vs) := h
  have HM : Hid (∀ i, i < vs.length → (vs.getD i v0).b.xs.length ≤ maxLen ∧ (vs.getD i v0).b.ys.length ≤ maxLen) := hm
  clear h hm
  unfold maxLen at hl
  obtain ⟨T, hT⟩ : ∃ T, T = vs.length + sumV vs vs.length := ⟨_, rfl⟩
  rw [← hT]
  have HT : Hid (T = vs.length + sumV vs vs.length) := hT
  obtain ⟨r, hr⟩ : ∃ r : Int, r = if left < (T : Nat) then -1 else left - (T : Nat) := ⟨_, rfl⟩
  rw [← hr]
  have HR1 : Hid (left < (T : Nat) → r = -1) := fun h => by rw [hr, if_pos h]
  have HR2 : Hid (¬ left < (T : Nat) → r = left - (T : Nat)) := fun h => by rw [hr, if_neg h]
  clear hT hr
  by_cases hb : left - (vs.length : Int) < 0
  · have hlt : Hid (left < (T : Nat)) := by have := HT.out; show _ < _; omega
    go_enter Try.func34, Try.ntmps34
    go_wp2_with fail
    go_ret
    exact ⟨ret_int (HR1.out hlt.out).symm, Below.refl _ _⟩
  · go_enter Try.func34, Try.ntmps34
    go_wp2_with fail
    go_loopw [1, 5] (fun q i wr => ∃ k : Nat, k ≤ vs.length ∧ i = .int .i64 k ∧ ((vs.length + sumV vs k : Nat) : Int) ≤ left ∧ q = .int .i64 (left - vs.length - (sumV vs k : Nat)) ∧ Hid (Below w.heap.size w wr)) (fun _ i _ => vs.length - (intOf i).toNat)
    case atStart => exact ⟨0, Nat.zero_le _, rfl, by simp [sumV]; omega, by simp [sumV], Below.refl _ _⟩
    case round =>
      obtain ⟨k, hk, rfl, hle, rfl, KB⟩ := hrel
      by_cases hlt : k < vs.length
      · have hki : (k : Int) < (vs.length : Int) := by omega
        rcases HS.out.below KB.out with hh | ⟨b, off, rfl, _, hh⟩
        · rw [hh] at hlt; simp at hlt
        obtain ⟨⟨d0, d1, d2, d3, d4, d5, d6, d7⟩, _⟩ := hh k hlt
        obtain ⟨mx1, mx2⟩ := HM.out k hlt
        have NX : Hid (sumV vs (k + 1) = sumV vs k + ((vs.getD k v0).b.xs.length + (vs.getD k v0).b.ys.length)) := rfl
        have TM : Hid (vs.length + sumV vs (k + 1) ≤ T) := by have := sumV_mono vs (show k + 1 ≤ vs.length by omega); have := HT.out; show _ ≤ _; omega
        clear hh
        generalize vs.getD k v0 = x at d0 d1 d2 d3 d4 d5 d6 d7 mx1 mx2 NX
        obtain ⟨xbal, ⟨xn, xp, xq, xxs, xys, xv, xk⟩, xa1, xc1, xa2, xc2⟩ := x
        simp only at d0 d1 d2 d3 d4 d5 d6 d7 mx1 mx2 NX
        obtain ⟨z, hz, z0⟩ : ∃ z : Int, z = left - vs.length - (sumV vs k : Nat) ∧ 0 ≤ z := ⟨_, rfl, by omega⟩
        rw [← hz]
        have HZ : Hid (z = left - vs.length - (sumV vs k : Nat)) := hz
        have z1 : z ≤ 2 ^ 60 := by omega
        clear hz
        go_wp2_with fail
        refine (szVote xbal xn xp xq xa1 xa2 xxs.length xc1 xys.length xc2 xv xk z _ mx1 mx2 z0 z1).mono ?_
        rintro e w1 ⟨rfl, hw⟩
        have B1 : Hid (Below w.heap.size w w1) := KB.out.trans (hw.mono KB.out.size)
        clear hw
        by_cases hc : z - (xxs.length : Int) - (xys.length : Int) < 0
        · rw [if_pos hc]
          have LT : Hid (left < (T : Nat)) := by have := TM.out; have := NX.out; have := HZ.out; show _ < _; omega
          go_wp2_with fail
          go_ret
          exact ⟨ret_int (HR1.out LT.out).symm, B1.out⟩
        · rw [if_neg hc]
          go_wp2_with fail
          go_roundw
          case rel => exact ⟨k + 1, by omega, by go_num, by have := NX.out; have := HZ.out; omega, by have := NX.out; have := HZ.out; congr 1; omega, B1.out⟩
          case measure => simp [intOf]; omega
      · have hki : ¬ (k : Int) < (vs.length : Int) := by omega
        obtain rfl : k = vs.length := by omega
        go_wp2_with fail
        go_ret
        have ht := HT.out
        have h2 := HR2.out (by omega)
        exact ⟨ret_int (by omega), KB.out⟩

set_option maxRecDepth 100000 in
set_option maxHeartbeats 1000000 in
theorem toVote (m : Int) (n : Bool) (p q : Int) (a1 a2 : Option Addr) (c1 c2 : Nat) (xs ys : List P2) (v k : Int) (w : World) (h1 : Sl w a1 xs) (h2 : Sl w a2 ys) (hn1 : xs.length ≤ 2 ^ 40) (hn2 : ys.length ≤ 2 ^ 40) :
    Calls Try.prog 88 #[.agg #[.int .i64 m, .bool n, .int .i64 p, .int .i64 q, .slice a1 xs.length c1, .slice a2 ys.length c2, .int .i64 v, .int .i64 k]] w fun e w' => ∃ g1 g2, e = .returned (.agg #[.int .i64 m, .bool n, .int .i64 p, .int .i64 q, .slice (some ⟨g1, 0, none⟩) xs.length xs.length, .slice (some ⟨g2, 0, none⟩) ys.length ys.length, .int .i64 v, .int .i64 k]) ∧ RunOwn w' w.heap.size g1 g2 xs ys ∧ Below w.heap.size w w' := by
  have H1 : Hid (Sl w a1 xs) := h1
  have H2 : Hid (Sl w a2 ys) := h2
  clear h1 h2
  obtain ⟨W, hW⟩ : ∃ W, W = ((w.alloc (.cells #[.int .i64 m, .bool n, .int .i64 p, .int .i64 q, .slice a1 xs.length c1, .slice a2 ys.length c2, .int .i64 v, .int .i64 k] 122)).alloc (.cells #[.int .i64 0, .bool false, .int .i64 0, .int .i64 0, .slice none 0 0, .slice none 0 0, .int .i64 0, .int .i64 0] 86)).alloc (.cells #[.int .i64 m, .bool false, .int .i64 0, .int .i64 0, .slice none 0 0, .slice none 0 0, .int .i64 0, .int .i64 0] 86) := ⟨_, rfl⟩
  have BW : Hid (Below w.heap.size w W) := by
    show Below _ _ _
    rw [hW]; exact ((((Below.refl _ _).alloc (Nat.le_refl _) _).alloc (by simp) _).alloc (by simp; omega) _)
  have SW : Hid (W.heap.size = w.heap.size + 3) := by show _ = _; rw [hW]; simp
  have G1 : Hid (Blk W (w.heap.size + 1) #[.int .i64 0, .bool false, .int .i64 0, .int .i64 0, .slice none 0 0, .slice none 0 0, .int .i64 0, .int .i64 0] 86) := by
    show Blk _ _ _ _; rw [hW]; exact (Blk.new2 _ _ _ _).alloc _
  have G2 : Hid (Blk W (w.heap.size + 1 + 1) #[.int .i64 m, .bool false, .int .i64 0, .int .i64 0, .slice none 0 0, .slice none 0 0, .int .i64 0, .int .i64 0] 86) := by
    show Blk _ _ _ _; rw [hW]; exact Blk.new3 _ _ _ _ _
  have HW : Hid (W = _) := hW
  clear hW
  go_enter Try.func88, Try.ntmps88
  go_wp2_with fail
  rw [← HW.out]
  refine (toEntry n p q a1 a2 c1 c2 xs ys v k W (H1.out.below BW.out) (H2.out.below BW.out) hn1 hn2).mono ?_
  rintro e w3 ⟨g1, g2, rfl, own, b3⟩
  have F1 : Hid (Blk w3 (w.heap.size + 1) _ _) := G1.out.keep b3
  have F2 : Hid (Blk w3 (w.heap.size + 1 + 1) _ _) := G2.out.keep b3
  have B3 : Hid (Below w.heap.size w w3) := BW.out.trans (b3.mono BW.out.size)
  have O3 : Hid (RunOwn w3 w.heap.size g1 g2 xs ys) := ⟨Nat.le_trans BW.out.size own.1, Nat.le_trans BW.out.size own.2.1, own.2.2⟩
  have N3 : Hid (w.heap.size + 3 ≤ g1 ∧ w.heap.size + 3 ≤ g2) := ⟨by have := SW.out; have := own.1; omega, by have := SW.out; have := own.2.1; omega⟩
  clear b3 own
  obtain ⟨i0, i1, i2, i3, i4, i5, i6, i7⟩ := F1.out.cells8
  obtain ⟨o0, o1, o2, o3, o4, o5, o6, o7⟩ := F2.out.cells8
  have fo := F2.out.frozen
  have fi := F1.out.frozen
  go_wp2
  refine bodyPost_ret (v := .agg #[.int .i64 m, .bool n, .int .i64 p, .int .i64 q, .slice (some ⟨g1, 0, none⟩) xs.length xs.length, .slice (some ⟨g2, 0, none⟩) ys.length ys.length, .int .i64 v, .int .i64 k]) (by simp [results, Try.results88, go_sem, i0, i1, i2, i3, i4, i5, i6, i7]) rfl ⟨g1, g2, rfl, ?_, ?_⟩
  · have S2 : ∀ {u : World} (o : Nat) (x : Value), KeepFrom (w.heap.size + 3) w3 u → KeepFrom (w.heap.size + 3) w3 (u.setCell ⟨w.heap.size + 1 + 1, o, none⟩ x) := fun o x h => h.setCell (by show w.heap.size + 1 + 1 < _; omega) x
    have S1 : ∀ {u : World} (o : Nat) (x : Value), KeepFrom (w.heap.size + 3) w3 u → KeepFrom (w.heap.size + 3) w3 (u.setCell ⟨w.heap.size + 1, o, none⟩ x) := fun o x h => h.setCell (by show w.heap.size + 1 < _; omega) x
    exact O3.out.keep (S1 _ _ (S1 _ _ (S1 _ _ (S1 _ _ (S1 _ _ (S1 _ _ (S1 _ _ (S1 _ _ (S2 _ _ (S2 _ _ (S2 _ _ (S2 _ _ (S2 _ _ (S2 _ _ (S2 _ _ (KeepFrom.refl _ _)))))))))))))))) N3.out.1 N3.out.2
  · have s2 : w.heap.size ≤ w.heap.size + 1 + 1 := by omega
    have s1 : w.heap.size ≤ w.heap.size + 1 := by omega
    exact ((((((((((((((B3.out.setCell s2 _).setCell s2 _).setCell s2 _).setCell s2 _).setCell s2 _).setCell s2 _).setCell s2 _).setCell s1 _).setCell s1 _).setCell s1 _).setCell s1 _).setCell s1 _).setCell s1 _).setCell s1 _).setCell s1 _

theorem RowV.made (w : World) (n : Nat) : RowV (w.alloc (.cells (madeCells (Value.agg #[.int .i64 0, .bool false, .int .i64 0, .int .i64 0, .slice none 0 0, .slice none 0 0, .int .i64 0, .int .i64 0]).cells (n * 8)) 86)) w.heap.size n := by
  refine ⟨_, _, heap_new _ _, size_madeCells _ _, ?_⟩
  intro v hv
  obtain ⟨k, hk, rfl⟩ := Array.getElem_of_mem hv
  rw [size_madeCells] at hk
  obtain ⟨v, h1, h2⟩ := made_cell (z := (Value.agg #[.int .i64 0, .bool false, .int .i64 0, .int .i64 0, .slice none 0 0, .slice none 0 0, .int .i64 0, .int .i64 0]).cells) (n := n * 8) (k := k) (by decide) hk (by simp [Value.cells, Value.oneCell'])
  rw [Array.getElem?_eq_getElem (by simpa [size_madeCells] using hk)] at h1
  injection h1 with h1
  rw [h1]; exact h2

set_option maxRecDepth 100000 in
set_option maxHeartbeats 2000000 in
theorem toVoteS (a : Option Addr) (c : Nat) (vs : List VM) (w : World) (h : SlV w a vs) (hn : vs.length ≤ 2 ^ 40) (hl : ∀ i, i < vs.length → (vs.getD i v0).b.xs.length ≤ 2 ^ 40 ∧ (vs.getD i v0).b.ys.length ≤ 2 ^ 40) :
    Calls Try.prog 36 #[.slice a vs.length c] w fun e w' => e = .returned (.slice (some ⟨w.heap.size, 0, none⟩) vs.length vs.length) ∧ (∃ gs, CopyV w' w.heap.size gs (bodies vs)) ∧ RowV w' w.heap.size vs.length ∧ Below w.heap.size w w' := by
  have HS : Hid (SlV w a vs) := h
  have HL : Hid (∀ i, i < vs.length → (vs.getD i v0).b.xs.length ≤ 2 ^ 40 ∧ (vs.getD i v0).b.ys.length ≤ 2 ^ 40) := hl
  clear h hl
  have hmk := make_row (P := Try.prog) Try.underlying22 infoVote vs.length (by omega) (by omega)
  go_enter Try.func36, Try.ntmps36
  go_wp2
  clear hmk
  go_loopw [4] (fun i wr => ∃ (k : Nat) (gs : List (Nat × Nat)), k ≤ vs.length ∧ i = .int .i64 k ∧ Hid (CopyV wr w.heap.size gs ((bodies vs).take k) ∧ RowV wr w.heap.size vs.length ∧ Below w.heap.size w wr)) (fun i _ => vs.length - (intOf i).toNat)
  case atStart => exact ⟨0, [], Nat.zero_le _, rfl, by rw [List.take_zero]; exact CopyV.nil (RowV.made w vs.length).lt, RowV.made w _, (Below.refl _ _).alloc (Nat.le_refl _) _⟩
  case round =>
    obtain ⟨k, gs, hk, rfl, IV⟩ := hrel
    have PL := bodies_len vs
    by_cases hlt : k < vs.length
    · have hki : (k : Int) < (vs.length : Int) := by omega
      rcases HS.out.below IV.out.2.2 with hh | ⟨b, off, rfl, _, hh⟩
      · rw [hh] at hlt; simp at hlt
      obtain ⟨⟨d0, d1, d2, d3, d4, d5, d6, d7⟩, s1, s2⟩ := hh k hlt
      obtain ⟨lx1, lx2⟩ := HL.out k hlt
      have NX : Hid ((bodies vs).take (k + 1) = (bodies vs).take k ++ [(vs.getD k v0).body]) := by
        show _ = _
        rw [List.take_succ_eq_append_getElem (by omega), ← bodies_getD]
        simp [List.getD, PL, hlt]
      have LK : Hid (((bodies vs).take k).length = k) := by show _ = _; simp [PL]; omega
      have SX : Hid (Sl wr (vs.getD k v0).a1 (vs.getD k v0).b.xs ∧ Sl wr (vs.getD k v0).a2 (vs.getD k v0).b.ys) := ⟨s1, s2⟩
      clear hh s1 s2 PL
      generalize vs.getD k v0 = x at d0 d1 d2 d3 d4 d5 d6 d7 lx1 lx2 NX SX
      obtain ⟨xbal, ⟨xn, xp, xq, xxs, xys, xv, xk⟩, xa1, xc1, xa2, xc2⟩ := x
      simp only [VM.body] at d0 d1 d2 d3 d4 d5 d6 d7 lx1 lx2 NX SX
      go_wp2_with fail
      refine (toVote xbal xn xp xq xa1 xa2 xc1 xc2 xxs xys xv xk wr SX.out.1 SX.out.2 lx1 lx2).mono ?_
      rintro e w1 ⟨g1, g2, rfl, ho, hb⟩
      have RP : Hid (RowV w1 w.heap.size vs.length) := IV.out.2.1.below hb IV.out.2.1.lt
      have CN : Hid (CopyV (set8 w1 w.heap.size (k * 8) (vmOf (g1, g2) (xbal, ⟨xn, xp, xq, xxs, xys, xv, xk⟩))) w.heap.size (gs ++ [(g1, g2)]) ((bodies vs).take (k + 1))) := by
        have h := IV.out.1.snoc (x := (xbal, ⟨xn, xp, xq, xxs, xys, xv, xk⟩)) hb ho RP.out (by rw [LK.out]; exact hlt)
        rw [LK.out, ← NX.out] at h
        exact h
      have B1 : Hid (Below w.heap.size w w1) := IV.out.2.2.trans (hb.mono IV.out.2.2.size)
      have FF := fun o => RP.out.frozen o
      obtain ⟨u0, t0, _⟩ := RP.out.cell (k * 8) (by omega)
      obtain ⟨u1, t1, _⟩ := RP.out.cell (k * 8 + 1) (by omega)
      obtain ⟨u2, t2, _⟩ := RP.out.cell (k * 8 + 2) (by omega)
      obtain ⟨u3, t3, _⟩ := RP.out.cell (k * 8 + 3) (by omega)
      obtain ⟨u4, t4, _⟩ := RP.out.cell (k * 8 + 4) (by omega)
      obtain ⟨u5, t5, _⟩ := RP.out.cell (k * 8 + 5) (by omega)
      obtain ⟨u6, t6, _⟩ := RP.out.cell (k * 8 + 6) (by omega)
      obtain ⟨u7, t7, _⟩ := RP.out.cell (k * 8 + 7) (by omega)
      clear ho hb d0 d1 d2 d3 d4 d5 d6 d7
      go_wp2
      go_roundw
      case rel => exact ⟨k + 1, gs ++ [(g1, g2)], by omega, by go_num, CN.out, set8_row RP.out _ (vmOf (g1, g2) (xbal, ⟨xn, xp, xq, xxs, xys, xv, xk⟩)), set8_below B1.out (Nat.le_refl _) _ (vmOf (g1, g2) (xbal, ⟨xn, xp, xq, xxs, xys, xv, xk⟩))⟩
      case measure => simp [intOf]; omega
    · have hki : ¬ (k : Int) < (vs.length : Int) := by omega
      obtain rfl : k = vs.length := by omega
      go_wp2_with fail
      go_ret
      have := IV.out
      rw [List.take_of_length_le (by omega)] at this
      exact ⟨rfl, ⟨gs, this.1⟩, this.2.1, this.2.2⟩
end Go.Proofs.Ytbbbfnfpmaogoaa.Own

namespace Go.Proofs.Ytbbbfnfpmaogoaa.Own
open Go.RowKit Go.Sort
set_option linter.unusedVariables false
set_option linter.unusedSimpArgs false

set_option maxRecDepth 100000 in
set_option maxHeartbeats 1000000 in
theorem eqVote (m : Int) (n : Bool) (p q : Int) (a1 a2 b1 b2 : Option Addr) (c1 c2 d1 d2 : Nat) (xs ys : List P2) (v k : Int) (w : World) (h1 : Sl w a1 xs) (h2 : Sl w a2 ys) (h3 : Sl w b1 xs) (h4 : Sl w b2 ys)
    (n1 : xs.length ≤ 2 ^ 40) (n2 : ys.length ≤ 2 ^ 40) :
    Calls Try.prog 90 #[.agg #[.int .i64 m, .bool n, .int .i64 p, .int .i64 q, .slice a1 xs.length c1, .slice a2 ys.length c2, .int .i64 v, .int .i64 k], .agg #[.int .i64 m, .bool n, .int .i64 p, .int .i64 q, .slice b1 xs.length d1, .slice b2 ys.length d2, .int .i64 v, .int .i64 k]] w fun e w' => e = .returned (.bool true) ∧ Below w.heap.size w w' := by
  have H1 : Hid (Sl w a1 xs) := h1
  have H2 : Hid (Sl w a2 ys) := h2
  have H3 : Hid (Sl w b1 xs) := h3
  have H4 : Hid (Sl w b2 ys) := h4
  clear h1 h2 h3 h4
  obtain ⟨W, hW⟩ : ∃ W, W = (w.alloc (.cells #[.int .i64 m, .bool n, .int .i64 p, .int .i64 q, .slice a1 xs.length c1, .slice a2 ys.length c2, .int .i64 v, .int .i64 k] 86)).alloc (.cells #[.int .i64 m, .bool n, .int .i64 p, .int .i64 q, .slice b1 xs.length d1, .slice b2 ys.length d2, .int .i64 v, .int .i64 k] 86) := ⟨_, rfl⟩
  have BW : Hid (Below w.heap.size w W) := by
    show Below _ _ _
    rw [hW]; exact ((Below.refl _ _).alloc (Nat.le_refl _) _).alloc (by simp) _
  have HW : Hid (W = _) := hW
  clear hW
  have en : (m != m) = false := by simp
  go_enter Try.func90, Try.ntmps90
  go_wp2_with fail
  rw [← HW.out]
  refine (eqEntry n p q a1 a2 b1 b2 c1 c2 d1 d2 xs ys v k W (H1.out.below BW.out) (H2.out.below BW.out) (H3.out.below BW.out) (H4.out.below BW.out) n1 n2).mono ?_
  rintro e w2 ⟨rfl, b2'⟩
  have B2 : Hid (Below w.heap.size w w2) := BW.out.trans (b2'.mono BW.out.size)
  clear b2'
  go_wp2_with fail
  go_ret
  exact ⟨rfl, B2.out⟩

set_option maxRecDepth 100000 in
set_option maxHeartbeats 4000000 in
theorem eqVoteS (a b : Option Addr) (c d : Nat) (vs us : List VM) (w : World) (h1 : SlV w a vs) (h2 : SlV w b us) (hb : bodies vs = bodies us) (hn : vs.length ≤ 2 ^ 40) (hl : ∀ i, i < vs.length → (vs.getD i v0).b.xs.length ≤ 2 ^ 40 ∧ (vs.getD i v0).b.ys.length ≤ 2 ^ 40) :
    Calls Try.prog 38 #[.slice a vs.length c, .slice b us.length d] w fun e w' => e = .returned (.bool true) ∧ Below w.heap.size w w' := by
  obtain ⟨hlen, hbod⟩ := bodies_eq hb
  have H1 : Hid (SlV w a vs) := h1
  have H2 : Hid (SlV w b us) := h2
  have HL : Hid (∀ i, i < vs.length → (vs.getD i v0).b.xs.length ≤ 2 ^ 40 ∧ (vs.getD i v0).b.ys.length ≤ 2 ^ 40) := hl
  have HB : Hid (∀ i, (vs.getD i v0).body = (us.getD i v0).body) := hbod
  rw [← hlen]
  have HE : Hid (vs.length = us.length) := hlen
  clear h1 h2 hl hb hbod hlen
  have hne : ((vs.length : Int) != (vs.length : Int)) = false := by simp
  go_enter Try.func38, Try.ntmps38
  go_wp2_with fail
  go_loopw [5] (fun i wr => ∃ k : Nat, k ≤ vs.length ∧ i = .int .i64 k ∧ Hid (Below w.heap.size w wr)) (fun i _ => vs.length - (intOf i).toNat)
  case atStart => exact ⟨0, Nat.zero_le _, rfl, Below.refl _ _⟩
  case round =>
    obtain ⟨k, hk, rfl, KR⟩ := hrel
    by_cases hlt : k < vs.length
    · have hki : (k : Int) < (vs.length : Int) := by omega
      have hlt2 : k < us.length := by rw [← HE.out]; exact hlt
      rcases H1.out.below KR.out with hh | ⟨b1, o1, rfl, _, hh⟩
      · rw [hh] at hlt; simp at hlt
      rcases H2.out.below KR.out with hg | ⟨b2, o2, rfl, _, hg⟩
      · rw [hg] at hlt2; simp at hlt2
      obtain ⟨⟨d0, d1, d2, d3, d4, d5, d6, d7⟩, s1, s2⟩ := hh k hlt
      obtain ⟨⟨f0, f1, f2, f3, f4, f5, f6, f7⟩, t1, t2⟩ := hg k hlt2
      have lx := HL.out k hlt
      have SX : Hid (Sl wr (vs.getD k v0).a1 (vs.getD k v0).b.xs ∧ Sl wr (vs.getD k v0).a2 (vs.getD k v0).b.ys) := ⟨s1, s2⟩
      have SY : Hid (Sl wr (us.getD k v0).a1 (us.getD k v0).b.xs ∧ Sl wr (us.getD k v0).a2 (us.getD k v0).b.ys) := ⟨t1, t2⟩
      obtain ⟨be, bb⟩ := body_eq (HB.out k)
      rw [← be] at f0
      rw [← bb] at f1 f2 f3 f4 f5 f6 f7 SY
      clear hh hg s1 s2 t1 t2 be bb
      generalize vs.getD k v0 = x at d0 d1 d2 d3 d4 d5 d6 d7 f0 f1 f2 f3 f4 f5 f6 f7 lx SX SY
      generalize us.getD k v0 = y at f0 f1 f2 f3 f4 f5 f6 f7 SY
      obtain ⟨xbal, ⟨xn, xp, xq, xxs, xys, xv, xk⟩, xa1, xc1, xa2, xc2⟩ := x
      obtain ⟨ybal, yb, ya1, yc1, ya2, yc2⟩ := y
      simp only at d0 d1 d2 d3 d4 d5 d6 d7 f0 f1 f2 f3 f4 f5 f6 f7 lx SX SY
      have EQ : Hid (∀ d os, Calls Try.prog 90 #[.agg #[.int .i64 xbal, .bool xn, .int .i64 xp, .int .i64 xq, .slice xa1 xxs.length xc1, .slice xa2 xys.length xc2, .int .i64 xv, .int .i64 xk], .agg #[.int .i64 xbal, .bool xn, .int .i64 xp, .int .i64 xq, .slice ya1 xxs.length yc1, .slice ya2 xys.length yc2, .int .i64 xv, .int .i64 xk]] (grow (redrawn wr d) os) fun e w'' => e = .returned (.bool true) ∧ ∃ p : Regrown, w'' = grow (redrawn wr p.d) p.os) := fun d os => by
        have hb := below_regrown wr d os
        have h := eqVote xbal xn xp xq xa1 xa2 ya1 ya2 xc1 xc2 yc1 yc2 xxs xys xv xk _ (SX.out.1.below hb) (SX.out.2.below hb) (SY.out.1.below hb) (SY.out.2.below hb) lx.1 lx.2
        exact Calls.regrown_of h
      have m0 := cell_regrown d0
      have m1 := cell_regrown d1
      have m2 := cell_regrown d2
      have m3 := cell_regrown d3
      have m4 := cell_regrown d4
      have m5 := cell_regrown d5
      have m6 := cell_regrown d6
      have m7 := cell_regrown d7
      have r0 := cell_regrown f0
      have r1 := cell_regrown f1
      have r2 := cell_regrown f2
      have r3 := cell_regrown f3
      have r4 := cell_regrown f4
      have r5 := cell_regrown f5
      have r6 := cell_regrown f6
      have r7 := cell_regrown f7
      clear d0 d1 d2 d3 d4 d5 d6 d7 f0 f1 f2 f3 f4 f5 f6 f7
      go_upto_region 6 with fail
      refine wp_region_quiet_below (by kernel_rfl) (by kernel_rfl) ?_
      repeat (go_big_quiet_step (first | (go_at_call 90; exact EQ.out _ _)))
      refine wpQuiet_nil ?_
      intro Y hw'
      obtain ⟨⟨dq, osq⟩, hw''⟩ := hw'
      have hx : Below wr.heap.size wr Y := by rw [hw'']; exact below_regrown wr dq osq
      have KY : Hid (Below w.heap.size w Y) := KR.out.trans (hx.mono KR.out.size)
      clear hx hw'' m0 m1 m2 m3 m4 m5 m6 m7 r0 r1 r2 r3 r4 r5 r6 r7
      go_wp2_with fail
      go_roundw
      case rel => exact ⟨k + 1, by omega, by go_num, KY.out⟩
      case measure => simp [intOf]; omega
    · have hki : ¬ (k : Int) < (vs.length : Int) := by omega
      go_wp2_with fail
      go_ret
      exact ⟨rfl, KR.out⟩
end Go.Proofs.Ytbbbfnfpmaogoaa.Own

namespace Go.Proofs.Ytbbbfnfpmaogoaa.Own
open Go.RowKit
set_option linter.unusedVariables false

/-- What came in is of a length that the walks take. -/
def VM0 (vs : List VM) : Prop := ∀ i, i < vs.length → (vs.getD i v0).b.xs.length ≤ maxLen ∧ (vs.getD i v0).b.ys.length ≤ maxLen
def VL0 (vs : List VM) : Prop := ∀ i, i < vs.length → (vs.getD i v0).b.xs.length ≤ 2 ^ 40 ∧ (vs.getD i v0).b.ys.length ≤ 2 ^ 40
theorem VL0.ofSum {vs : List VM} {n : Nat} (h : sumV vs vs.length ≤ n) (hn : n ≤ 2 ^ 40) : VL0 vs := fun i hi => by
  have := sumV_at vs hi
  exact ⟨by omega, by omega⟩
theorem VL0.vms {vs : List VM} (h : VL0 vs) (gs : List (Nat × Nat)) : VL0 (vmsOf gs (bodies vs)) := fun i hi => by
  rw [vmsOf_len] at hi
  rw [vmsOf_at gs _ hi, bodies_getD]
  rw [bodies_len] at hi
  exact h i hi

theorem CopyV.keep {w w' : World} {N b : Nat} {gs : List (Nat × Nat)} {bs : List V} (h : CopyV w b gs bs) (hk : KeepFrom N w w') (hN : N ≤ b) : CopyV w' b gs bs := by
  have hb : w'.heap[b]? = w.heap[b]? := hk.2 b hN
  have e := fun o => World.cell?_of_block (w := w) (w' := w') (a := ⟨b, o, none⟩) hb
  have O : ∀ i, i < bs.length → RunOwn w' (b + 1) (gs.getD i (0, 0)).1 (gs.getD i (0, 0)).2 (bs.getD i (0, e0)).2.xs (bs.getD i (0, e0)).2.ys := fun i hi => (h.own i hi).keep hk (by have := (h.own i hi).1; omega) (by have := (h.own i hi).2.1; omega)
  refine ⟨h.len, by rw [hk.1]; exact h.lt, fun i hi => ?_, O, h.asc⟩
  have c := (h.cell i hi).1
  refine ⟨?_, .inr ⟨_, _, rfl, (O i hi).2.2.2.1⟩, .inr ⟨_, _, rfl, (O i hi).2.2.2.2.1⟩⟩
  rw [e, e, e, e, e, e, e, e]; exact c

theorem vls_of {vs : List VM} (h : VL0 vs) (gs : List (Nat × Nat)) : VLs (vmsOf gs (bodies vs)) := CopyV.vls fun i hi => by rw [bodies_len] at hi; rw [bodies_getD]; exact h i hi
end Go.Proofs.Ytbbbfnfpmaogoaa.Own

namespace Go.Proofs.Ytbbbfnfpmaogoaa.Own
open Go.RowKit
set_option linter.unusedVariables false
set_option linter.unusedSimpArgs false

theorem Blk.cells13 {w : World} {b : Nat} {x0 x1 x2 x3 x4 x5 x6 x7 x8 x9 x10 x11 x12 : Value} {t : TypeId} (h : Blk w b #[x0, x1, x2, x3, x4, x5, x6, x7, x8, x9, x10, x11, x12] t) : w.cell? ⟨b, 0, none⟩ = some x0 ∧ w.cell? ⟨b, 1, none⟩ = some x1 ∧ w.cell? ⟨b, 2, none⟩ = some x2 ∧ w.cell? ⟨b, 3, none⟩ = some x3 ∧ w.cell? ⟨b, 4, none⟩ = some x4 ∧ w.cell? ⟨b, 5, none⟩ = some x5 ∧ w.cell? ⟨b, 6, none⟩ = some x6 ∧ w.cell? ⟨b, 7, none⟩ = some x7 ∧ w.cell? ⟨b, 8, none⟩ = some x8 ∧ w.cell? ⟨b, 9, none⟩ = some x9 ∧ w.cell? ⟨b, 10, none⟩ = some x10 ∧ w.cell? ⟨b, 11, none⟩ = some x11 ∧ w.cell? ⟨b, 12, none⟩ = some x12 :=
  ⟨by rw [h.cell]; rfl, by rw [h.cell]; rfl, by rw [h.cell]; rfl, by rw [h.cell]; rfl, by rw [h.cell]; rfl, by rw [h.cell]; rfl, by rw [h.cell]; rfl, by rw [h.cell]; rfl, by rw [h.cell]; rfl, by rw [h.cell]; rfl, by rw [h.cell]; rfl, by rw [h.cell]; rfl, by rw [h.cell]; rfl⟩

set_option maxRecDepth 100000 in
set_option maxHeartbeats 1000000 in
theorem szMsg (kd sr ds bl st : Int) (n : Bool) (p q : Int) (a1 a2 : Option Addr) (c1 c2 : Nat) (xs ys : List P2) (v k : Int) (a : Option Addr) (c : Nat) (vs : List VM) (left : Int) (w : World) (hx : xs.length ≤ maxLen) (hy : ys.length ≤ maxLen) (h : SlV w a vs) (hl : vs.length ≤ maxLen) (hm : VM0 vs) (h0 : 0 ≤ left) (h1 : left ≤ 2 ^ 60) :
    Calls Try.prog 41 #[.agg #[.int .i64 kd, .int .i64 sr, .int .i64 ds, .int .i64 bl, .int .i64 st, .bool n, .int .i64 p, .int .i64 q, .slice a1 xs.length c1, .slice a2 ys.length c2, .int .i64 v, .int .i64 k, .slice a vs.length c], .int .i64 left] w fun e w' => e = .returned (.int .i64 (if left < (xs.length + ys.length + (vs.length + sumV vs vs.length) : Nat) then -1 else left - (xs.length + ys.length + (vs.length + sumV vs vs.length) : Nat))) ∧ Below w.heap.size w w' := by
  obtain ⟨W, hW⟩ : ∃ W, W = w.alloc (.cells #[.int .i64 kd, .int .i64 sr, .int .i64 ds, .int .i64 bl, .int .i64 st, .bool n, .int .i64 p, .int .i64 q, .slice a1 xs.length c1, .slice a2 ys.length c2, .int .i64 v, .int .i64 k, .slice a vs.length c] 74) := ⟨_, rfl⟩
  have BW : Hid (Below w.heap.size w W) := by show Below _ _ _; rw [hW]; exact (Below.refl _ _).alloc (Nat.le_refl _) _
  have G0 : Hid (Blk W w.heap.size #[.int .i64 kd, .int .i64 sr, .int .i64 ds, .int .i64 bl, .int .i64 st, .bool n, .int .i64 p, .int .i64 q, .slice a1 xs.length c1, .slice a2 ys.length c2, .int .i64 v, .int .i64 k, .slice a vs.length c] 74) := by show Blk _ _ _ _; rw [hW]; exact Blk.new _ _ _
  have HW : Hid (W = _) := hW
  clear hW
  have HS : Hid (SlV W a vs) := h.below BW.out
  have HM : Hid (VM0 vs) := hm
  have C1 := szEntry n p q a1 a2 xs.length c1 ys.length c2 v k left W hx hy h0 h1
  have C2 : Hid (∀ w' z, Below W.heap.size W w' → 0 ≤ z → z ≤ 2 ^ 60 → Calls Try.prog 34 #[.slice a vs.length c, .int .i64 z] w' fun e w'' => e = .returned (.int .i64 (if z < (vs.length + sumV vs vs.length : Nat) then -1 else z - (vs.length + sumV vs vs.length : Nat))) ∧ Below w'.heap.size w' w'') := fun w' z hb hz hz2 => szVoteS a c vs z w' (HS.out.below hb) hl HM.out hz hz2
  clear h hm
  generalize (vs.length + sumV vs vs.length) = T at C2 ⊢
  by_cases hb : left - (xs.length : Int) - (ys.length : Int) < 0
  · rw [if_pos hb] at C1
    have HC : Hid (Calls _ _ _ _ _) := C1
    rw [if_pos (by omega)]
    clear C1 hb
    go_enter Try.func41, Try.ntmps41
    go_wp2_with fail
    rw [← HW.out]
    refine Calls.mono HC.out ?_
    rintro e w1 ⟨rfl, b1⟩
    have B1 : Hid (Below w.heap.size w w1) := BW.out.trans (b1.mono BW.out.size)
    clear b1
    go_wp2_with fail
    go_ret
    exact ⟨rfl, B1.out⟩
  · rw [if_neg hb] at C1
    have hz0 : 0 ≤ left - (xs.length : Int) - (ys.length : Int) := by omega
    have hz1 : left - (xs.length : Int) - (ys.length : Int) ≤ 2 ^ 60 := by omega
    have C3 : Hid (∀ w', Below W.heap.size W w' → Calls Try.prog 34 #[.slice a vs.length c, .int .i64 (left - (xs.length : Int) - (ys.length : Int))] w' fun e w'' => e = .returned (.int .i64 (if left < (xs.length + ys.length + T : Nat) then -1 else left - (xs.length + ys.length + T : Nat))) ∧ Below w'.heap.size w' w'') := fun w' hb => by
      have h := C2.out w' _ hb hz0 hz1
      have e : (if left - (xs.length : Int) - (ys.length : Int) < (T : Nat) then (-1 : Int) else left - (xs.length : Int) - (ys.length : Int) - (T : Nat)) = (if left < (xs.length + ys.length + T : Nat) then -1 else left - (xs.length + ys.length + T : Nat)) := by
        by_cases h1 : left < (xs.length + ys.length + T : Nat)
        · rw [if_pos h1, if_pos (by omega)]
        · rw [if_neg h1, if_neg (by omega)]; omega
      rw [e] at h
      exact h
    clear C2
    generalize left - (xs.length : Int) - (ys.length : Int) = z at C1 C3 hb hz0 hz1
    have HC : Hid (Calls _ _ _ _ _) := C1
    by_cases hlt : left < (xs.length + ys.length + T : Nat)
    · rw [if_pos hlt] at C3 ⊢
      clear C1 hlt
      go_enter Try.func41, Try.ntmps41
      go_wp2_with fail
      rw [← HW.out]
      refine Calls.mono HC.out ?_
      rintro e w1 ⟨rfl, b1⟩
      have B1 : Hid (Below W.heap.size W w1) := b1
      obtain ⟨q0, q1, q2, q3, q4, q5, q6, q7, q8, q9, q10, q11, q12⟩ := (G0.out.keep b1).cells13
      clear b1
      go_wp2_with fail
      refine (C3.out _ B1.out).mono ?_
      rintro e w2 ⟨rfl, b2⟩
      have B2 : Hid (Below w.heap.size w w2) := BW.out.trans ((B1.out.trans (b2.mono B1.out.size)).mono BW.out.size)
      clear b2
      go_wp2_with fail
      go_ret
      exact ⟨rfl, B2.out⟩
    · rw [if_neg hlt] at C3 ⊢
      have hp : ¬ left - ((xs.length + ys.length + T : Nat) : Int) < 0 := by omega
      generalize left - ((xs.length + ys.length + T : Nat) : Int) = u at C3 hp ⊢
      clear C1 hlt
      go_enter Try.func41, Try.ntmps41
      go_wp2_with fail
      rw [← HW.out]
      refine Calls.mono HC.out ?_
      rintro e w1 ⟨rfl, b1⟩
      have B1 : Hid (Below W.heap.size W w1) := b1
      obtain ⟨q0, q1, q2, q3, q4, q5, q6, q7, q8, q9, q10, q11, q12⟩ := (G0.out.keep b1).cells13
      clear b1
      go_wp2_with fail
      refine (C3.out _ B1.out).mono ?_
      rintro e w2 ⟨rfl, b2⟩
      have B2 : Hid (Below w.heap.size w w2) := BW.out.trans ((B1.out.trans (b2.mono B1.out.size)).mono BW.out.size)
      clear b2
      go_wp2_with fail
      go_ret
      exact ⟨rfl, B2.out⟩

set_option maxRecDepth 100000 in
set_option maxHeartbeats 2000000 in
theorem toMsg (kd sr ds bl st : Int) (n : Bool) (p q : Int) (a1 a2 : Option Addr) (c1 c2 : Nat) (xs ys : List P2) (v k : Int) (a : Option Addr) (c : Nat) (vs : List VM) (w : World) (h1 : Sl w a1 xs) (h2 : Sl w a2 ys) (hx : xs.length ≤ 2 ^ 40) (hy : ys.length ≤ 2 ^ 40) (h : SlV w a vs) (hn : vs.length ≤ 2 ^ 40) (hl : VL0 vs) :
    Calls Try.prog 43 #[.agg #[.int .i64 kd, .int .i64 sr, .int .i64 ds, .int .i64 bl, .int .i64 st, .bool n, .int .i64 p, .int .i64 q, .slice a1 xs.length c1, .slice a2 ys.length c2, .int .i64 v, .int .i64 k, .slice a vs.length c]] w fun e w' => ∃ g1 g2 g gs, e = .returned (.agg #[.int .i64 kd, .int .i64 sr, .int .i64 ds, .int .i64 bl, .int .i64 st, .bool n, .int .i64 p, .int .i64 q, .slice (some ⟨g1, 0, none⟩) xs.length xs.length, .slice (some ⟨g2, 0, none⟩) ys.length ys.length, .int .i64 v, .int .i64 k, .slice (some ⟨g, 0, none⟩) vs.length vs.length]) ∧ RunOwn w' w.heap.size g1 g2 xs ys ∧ g1 < g ∧ g2 < g ∧ CopyV w' g gs (bodies vs) ∧ RowV w' g vs.length ∧ Below w.heap.size w w' := by
  have H1 : Hid (Sl w a1 xs) := h1
  have H2 : Hid (Sl w a2 ys) := h2
  have H3 : Hid (SlV w a vs) := h
  have HL : Hid (VL0 vs) := hl
  clear h1 h2 h hl
  obtain ⟨W, hW⟩ : ∃ W, W = ((w.alloc (.cells #[.int .i64 kd, .int .i64 sr, .int .i64 ds, .int .i64 bl, .int .i64 st, .bool n, .int .i64 p, .int .i64 q, .slice a1 xs.length c1, .slice a2 ys.length c2, .int .i64 v, .int .i64 k, .slice a vs.length c] 74)).alloc (.cells #[.int .i64 0, .int .i64 0, .int .i64 0, .int .i64 0, .int .i64 0, .bool false, .int .i64 0, .int .i64 0, .slice none 0 0, .slice none 0 0, .int .i64 0, .int .i64 0, .slice none 0 0] 78)).alloc (.cells #[.int .i64 kd, .int .i64 sr, .int .i64 ds, .int .i64 bl, .int .i64 st, .bool false, .int .i64 0, .int .i64 0, .slice none 0 0, .slice none 0 0, .int .i64 0, .int .i64 0, .slice none 0 0] 78) := ⟨_, rfl⟩
  have BW : Hid (Below w.heap.size w W) := by
    show Below _ _ _
    rw [hW]; exact ((((Below.refl _ _).alloc (Nat.le_refl _) _).alloc (by simp) _).alloc (by simp; omega) _)
  have SW : Hid (W.heap.size = w.heap.size + 3) := by show _ = _; rw [hW]; simp
  have G0 : Hid (Blk W w.heap.size #[.int .i64 kd, .int .i64 sr, .int .i64 ds, .int .i64 bl, .int .i64 st, .bool n, .int .i64 p, .int .i64 q, .slice a1 xs.length c1, .slice a2 ys.length c2, .int .i64 v, .int .i64 k, .slice a vs.length c] 74) := by
    show Blk _ _ _ _; rw [hW]; exact ((Blk.new _ _ _).alloc _).alloc _
  have G1 : Hid (Blk W (w.heap.size + 1) #[.int .i64 0, .int .i64 0, .int .i64 0, .int .i64 0, .int .i64 0, .bool false, .int .i64 0, .int .i64 0, .slice none 0 0, .slice none 0 0, .int .i64 0, .int .i64 0, .slice none 0 0] 78) := by
    show Blk _ _ _ _; rw [hW]; exact (Blk.new2 _ _ _ _).alloc _
  have G2 : Hid (Blk W (w.heap.size + 1 + 1) #[.int .i64 kd, .int .i64 sr, .int .i64 ds, .int .i64 bl, .int .i64 st, .bool false, .int .i64 0, .int .i64 0, .slice none 0 0, .slice none 0 0, .int .i64 0, .int .i64 0, .slice none 0 0] 78) := by
    show Blk _ _ _ _; rw [hW]; exact Blk.new3 _ _ _ _ _
  have HW : Hid (W = _) := hW
  clear hW
  go_enter Try.func43, Try.ntmps43
  go_wp2_with fail
  rw [← HW.out]
  refine (toEntry n p q a1 a2 c1 c2 xs ys v k W (H1.out.below BW.out) (H2.out.below BW.out) hx hy).mono ?_
  rintro e w1 ⟨g1, g2, rfl, own, b1⟩
  have D0 : Hid (Blk w1 w.heap.size _ _) := G0.out.keep b1
  have D1 : Hid (Blk w1 (w.heap.size + 1) _ _) := G1.out.keep b1
  have D2 : Hid (Blk w1 (w.heap.size + 1 + 1) _ _) := G2.out.keep b1
  have B1 : Hid (Below w.heap.size w w1) := BW.out.trans (b1.mono BW.out.size)
  have S1 : Hid (w.heap.size + 3 ≤ w1.heap.size) := by have := SW.out; have := b1.size; show _ ≤ _; omega
  have O1 : Hid (RunOwn w1 (w.heap.size + 3) g1 g2 xs ys) := by have h := own; rw [SW.out] at h; exact h
  clear b1 own
  obtain ⟨q0, q1, q2, q3, q4, q5, q6, q7, q8, q9, q10, q11, q12⟩ := D0.out.cells13
  obtain ⟨r0, r1, r2, r3, r4, r5, r6, r7, r8, r9, r10, r11, r12⟩ := D2.out.cells13
  have ff := D2.out.frozen
  go_wp2_with fail
  obtain ⟨W2, hW2⟩ : ∃ W2, W2 = (((((((w1.setCell ⟨w.heap.size + 1 + 1, 5, none⟩ (.bool n)).setCell ⟨w.heap.size + 1 + 1, 6, none⟩ (.int .i64 p)).setCell ⟨w.heap.size + 1 + 1, 7, none⟩ (.int .i64 q)).setCell ⟨w.heap.size + 1 + 1, 8, none⟩ (.slice (some ⟨g1, 0, none⟩) xs.length xs.length)).setCell ⟨w.heap.size + 1 + 1, 9, none⟩ (.slice (some ⟨g2, 0, none⟩) ys.length ys.length)).setCell ⟨w.heap.size + 1 + 1, 10, none⟩ (.int .i64 v)).setCell ⟨w.heap.size + 1 + 1, 11, none⟩ (.int .i64 k)) := ⟨_, rfl⟩
  have E0 : Hid (Blk W2 w.heap.size #[.int .i64 kd, .int .i64 sr, .int .i64 ds, .int .i64 bl, .int .i64 st, .bool n, .int .i64 p, .int .i64 q, .slice a1 xs.length c1, .slice a2 ys.length c2, .int .i64 v, .int .i64 k, .slice a vs.length c] 74) := by show Blk _ _ _ _; rw [hW2]; exact (((((((D0.out.other (by omega) _ _).other (by omega) _ _).other (by omega) _ _).other (by omega) _ _).other (by omega) _ _).other (by omega) _ _).other (by omega) _ _)
  have E1 : Hid (Blk W2 (w.heap.size + 1) #[.int .i64 0, .int .i64 0, .int .i64 0, .int .i64 0, .int .i64 0, .bool false, .int .i64 0, .int .i64 0, .slice none 0 0, .slice none 0 0, .int .i64 0, .int .i64 0, .slice none 0 0] 78) := by show Blk _ _ _ _; rw [hW2]; exact (((((((D1.out.other (by omega) _ _).other (by omega) _ _).other (by omega) _ _).other (by omega) _ _).other (by omega) _ _).other (by omega) _ _).other (by omega) _ _)
  have E2 : Hid (Blk W2 (w.heap.size + 1 + 1) #[.int .i64 kd, .int .i64 sr, .int .i64 ds, .int .i64 bl, .int .i64 st, .bool n, .int .i64 p, .int .i64 q, .slice (some ⟨g1, 0, none⟩) xs.length xs.length, .slice (some ⟨g2, 0, none⟩) ys.length ys.length, .int .i64 v, .int .i64 k, .slice none 0 0] 78) := by show Blk _ _ _ _; rw [hW2]; exact (((((((D2.out.set _ _).set _ _).set _ _).set _ _).set _ _).set _ _).set _ _)
  have K2 : Hid (KeepFrom (w.heap.size + 3) w1 W2) := by
    show KeepFrom _ _ _
    rw [hW2]
    have S2 : ∀ {u : World} (o : Nat) (x : Value), KeepFrom (w.heap.size + 3) w1 u → KeepFrom (w.heap.size + 3) w1 (u.setCell ⟨w.heap.size + 1 + 1, o, none⟩ x) := fun o x h => h.setCell (by show w.heap.size + 1 + 1 < _; omega) x
    exact S2 _ _ (S2 _ _ (S2 _ _ (S2 _ _ (S2 _ _ (S2 _ _ (S2 _ _ (KeepFrom.refl _ _)))))))
  have B2 : Hid (Below w.heap.size w W2) := by
    show Below _ _ _
    rw [hW2]
    have s2 : w.heap.size ≤ w.heap.size + 1 + 1 := by omega
    exact ((((((B1.out.setCell s2 _).setCell s2 _).setCell s2 _).setCell s2 _).setCell s2 _).setCell s2 _).setCell s2 _
  have S2 : Hid (W2.heap.size = w1.heap.size) := K2.out.1
  have O2 : Hid (RunOwn W2 (w.heap.size + 3) g1 g2 xs ys) := O1.out.keep K2.out O1.out.1 O1.out.2.1
  have HW2 : Hid (W2 = _) := hW2
  rw [← HW2.out]
  clear hW2 q0 q1 q2 q3 q4 q5 q6 q7 q8 q9 q10 q11 q12 r0 r1 r2 r3 r4 r5 r6 r7 r8 r9 r10 r11 r12 ff
  obtain ⟨q0, q1, q2, q3, q4, q5, q6, q7, q8, q9, q10, q11, q12⟩ := E0.out.cells13
  go_wp2_with fail
  refine (toVoteS a c vs W2 (H3.out.below B2.out) hn HL.out).mono ?_
  rintro e w3 ⟨rfl, ⟨gs, own⟩, row, b3⟩
  have F1 : Hid (Blk w3 (w.heap.size + 1) _ _) := E1.out.keep b3
  have F2 : Hid (Blk w3 (w.heap.size + 1 + 1) _ _) := E2.out.keep b3
  have B3 : Hid (Below w.heap.size w w3) := B2.out.trans (b3.mono B2.out.size)
  have O3 : Hid (RunOwn w3 (w.heap.size + 3) g1 g2 xs ys) := O2.out.below b3
  have V3 : Hid (CopyV w3 W2.heap.size gs (bodies vs) ∧ RowV w3 W2.heap.size vs.length) := ⟨own, row⟩
  have N3 : Hid (w.heap.size + 3 ≤ W2.heap.size ∧ g1 < W2.heap.size ∧ g2 < W2.heap.size) := ⟨by have := S2.out; have := S1.out; omega, O2.out.2.2.2.1.1, O2.out.2.2.2.2.1.1⟩
  clear b3 own row q0 q1 q2 q3 q4 q5 q6 q7 q8 q9 q10 q11 q12
  obtain ⟨i0, i1, i2, i3, i4, i5, i6, i7, i8, i9, i10, i11, i12⟩ := F1.out.cells13
  obtain ⟨o0, o1, o2, o3, o4, o5, o6, o7, o8, o9, o10, o11, o12⟩ := F2.out.cells13
  have fo := F2.out.frozen
  have fi := F1.out.frozen
  go_wp2
  have KK : ∀ {u : World} (b o : Nat) (x : Value), b < w.heap.size + 3 → KeepFrom (w.heap.size + 3) w3 u → KeepFrom (w.heap.size + 3) w3 (u.setCell ⟨b, o, none⟩ x) := fun b o x hb h => h.setCell (by exact hb) x
  have t2 : w.heap.size + 1 + 1 < w.heap.size + 3 := by omega
  have t1 : w.heap.size + 1 < w.heap.size + 3 := by omega
  have KF : KeepFrom (w.heap.size + 3) w3 ((((((((((((((w3.setCell ⟨w.heap.size + 1 + 1, 12, none⟩ (.slice (some ⟨W2.heap.size, 0, none⟩) vs.length vs.length)).setCell ⟨w.heap.size + 1, 0, none⟩ (.int .i64 kd)).setCell ⟨w.heap.size + 1, 1, none⟩ (.int .i64 sr)).setCell ⟨w.heap.size + 1, 2, none⟩ (.int .i64 ds)).setCell ⟨w.heap.size + 1, 3, none⟩ (.int .i64 bl)).setCell ⟨w.heap.size + 1, 4, none⟩ (.int .i64 st)).setCell ⟨w.heap.size + 1, 5, none⟩ (.bool n)).setCell ⟨w.heap.size + 1, 6, none⟩ (.int .i64 p)).setCell ⟨w.heap.size + 1, 7, none⟩ (.int .i64 q)).setCell ⟨w.heap.size + 1, 8, none⟩ (.slice (some ⟨g1, 0, none⟩) xs.length xs.length)).setCell ⟨w.heap.size + 1, 9, none⟩ (.slice (some ⟨g2, 0, none⟩) ys.length ys.length)).setCell ⟨w.heap.size + 1, 10, none⟩ (.int .i64 v)).setCell ⟨w.heap.size + 1, 11, none⟩ (.int .i64 k)).setCell ⟨w.heap.size + 1, 12, none⟩ (.slice (some ⟨W2.heap.size, 0, none⟩) vs.length vs.length)) := (KK _ 12 _ t1 (KK _ 11 _ t1 (KK _ 10 _ t1 (KK _ 9 _ t1 (KK _ 8 _ t1 (KK _ 7 _ t1 (KK _ 6 _ t1 (KK _ 5 _ t1 (KK _ 4 _ t1 (KK _ 3 _ t1 (KK _ 2 _ t1 (KK _ 1 _ t1 (KK _ 0 _ t1 (KK _ 12 _ t2 (KeepFrom.refl _ _)))))))))))))))
  refine bodyPost_ret (v := .agg #[.int .i64 kd, .int .i64 sr, .int .i64 ds, .int .i64 bl, .int .i64 st, .bool n, .int .i64 p, .int .i64 q, .slice (some ⟨g1, 0, none⟩) xs.length xs.length, .slice (some ⟨g2, 0, none⟩) ys.length ys.length, .int .i64 v, .int .i64 k, .slice (some ⟨W2.heap.size, 0, none⟩) vs.length vs.length]) (by simp [results, Try.results43, go_sem, i0, i1, i2, i3, i4, i5, i6, i7, i8, i9, i10, i11, i12]) rfl ⟨g1, g2, W2.heap.size, gs, rfl, ?_, N3.out.2.1, N3.out.2.2, ?_, ?_, ?_⟩
  · have h := O3.out.keep KF O3.out.1 O3.out.2.1
    exact ⟨by have := h.1; omega, by have := h.2.1; omega, h.2.2⟩
  · exact V3.out.1.keep KF N3.out.1
  · exact V3.out.2.block (KF.2 _ N3.out.1)
  · have s2 : w.heap.size ≤ w.heap.size + 1 + 1 := by omega
    have s1 : w.heap.size ≤ w.heap.size + 1 := by omega
    exact ((((((((((((((B3.out.setCell s2 _).setCell s1 _).setCell s1 _).setCell s1 _).setCell s1 _).setCell s1 _).setCell s1 _).setCell s1 _).setCell s1 _).setCell s1 _).setCell s1 _).setCell s1 _).setCell s1 _).setCell s1 _)

set_option maxRecDepth 100000 in
set_option maxHeartbeats 1000000 in
theorem eqMsg (kd sr ds bl st : Int) (n : Bool) (p q : Int) (a1 a2 b1 b2 : Option Addr) (c1 c2 d1 d2 : Nat) (xs ys : List P2) (v k : Int) (a b : Option Addr) (c d : Nat) (vs us : List VM) (w : World) (h1 : Sl w a1 xs) (h2 : Sl w a2 ys) (h3 : Sl w b1 xs) (h4 : Sl w b2 ys) (hx : xs.length ≤ 2 ^ 40) (hy : ys.length ≤ 2 ^ 40) (h5 : SlV w a vs) (h6 : SlV w b us) (hb : bodies vs = bodies us) (hn : vs.length ≤ 2 ^ 40) (hl : VL0 vs) :
    Calls Try.prog 45 #[.agg #[.int .i64 kd, .int .i64 sr, .int .i64 ds, .int .i64 bl, .int .i64 st, .bool n, .int .i64 p, .int .i64 q, .slice a1 xs.length c1, .slice a2 ys.length c2, .int .i64 v, .int .i64 k, .slice a vs.length c], .agg #[.int .i64 kd, .int .i64 sr, .int .i64 ds, .int .i64 bl, .int .i64 st, .bool n, .int .i64 p, .int .i64 q, .slice b1 xs.length d1, .slice b2 ys.length d2, .int .i64 v, .int .i64 k, .slice b us.length d]] w fun e w' => e = .returned (.bool true) ∧ Below w.heap.size w w' := by
  have H1 : Hid (Sl w a1 xs) := h1
  have H2 : Hid (Sl w a2 ys) := h2
  have H3 : Hid (Sl w b1 xs) := h3
  have H4 : Hid (Sl w b2 ys) := h4
  have EV : Hid (∀ w', Below w.heap.size w w' → Calls Try.prog 38 #[.slice a vs.length c, .slice b us.length d] w' fun e w'' => e = .returned (.bool true) ∧ Below w'.heap.size w' w'') := fun w' hw => eqVoteS a b c d vs us w' (h5.below hw) (h6.below hw) hb hn hl
  clear h1 h2 h3 h4 h5 h6 hb hl
  obtain ⟨W, hW⟩ : ∃ W, W = (w.alloc (.cells #[.int .i64 kd, .int .i64 sr, .int .i64 ds, .int .i64 bl, .int .i64 st, .bool n, .int .i64 p, .int .i64 q, .slice a1 xs.length c1, .slice a2 ys.length c2, .int .i64 v, .int .i64 k, .slice a vs.length c] 78)).alloc (.cells #[.int .i64 kd, .int .i64 sr, .int .i64 ds, .int .i64 bl, .int .i64 st, .bool n, .int .i64 p, .int .i64 q, .slice b1 xs.length d1, .slice b2 ys.length d2, .int .i64 v, .int .i64 k, .slice b us.length d] 78) := ⟨_, rfl⟩
  have BW : Hid (Below w.heap.size w W) := by
    show Below _ _ _
    rw [hW]; exact ((Below.refl _ _).alloc (Nat.le_refl _) _).alloc (by simp) _
  have G0 : Hid (Blk W w.heap.size #[.int .i64 kd, .int .i64 sr, .int .i64 ds, .int .i64 bl, .int .i64 st, .bool n, .int .i64 p, .int .i64 q, .slice a1 xs.length c1, .slice a2 ys.length c2, .int .i64 v, .int .i64 k, .slice a vs.length c] 78) := by show Blk _ _ _ _; rw [hW]; exact (Blk.new _ _ _).alloc _
  have G1 : Hid (Blk W (w.heap.size + 1) #[.int .i64 kd, .int .i64 sr, .int .i64 ds, .int .i64 bl, .int .i64 st, .bool n, .int .i64 p, .int .i64 q, .slice b1 xs.length d1, .slice b2 ys.length d2, .int .i64 v, .int .i64 k, .slice b us.length d] 78) := by show Blk _ _ _ _; rw [hW]; exact Blk.new2 _ _ _ _
  have HW : Hid (W = _) := hW
  clear hW
  have e1 : (kd != kd) = false := by simp
  have e2 : (sr != sr) = false := by simp
  have e3 : (ds != ds) = false := by simp
  have e4 : (bl != bl) = false := by simp
  have e5 : (st != st) = false := by simp
  go_enter Try.func45, Try.ntmps45
  go_wp2_with fail
  rw [← HW.out]
  refine (eqEntry n p q a1 a2 b1 b2 c1 c2 d1 d2 xs ys v k W (H1.out.below BW.out) (H2.out.below BW.out) (H3.out.below BW.out) (H4.out.below BW.out) hx hy).mono ?_
  rintro e w1 ⟨rfl, b1'⟩
  have B1 : Hid (Below w.heap.size w w1) := BW.out.trans (b1'.mono BW.out.size)
  obtain ⟨q0, q1, q2, q3, q4, q5, q6, q7, q8, q9, q10, q11, q12⟩ := (G0.out.keep b1').cells13
  obtain ⟨r0, r1, r2, r3, r4, r5, r6, r7, r8, r9, r10, r11, r12⟩ := (G1.out.keep b1').cells13
  clear b1'
  go_wp2_with fail
  refine (EV.out w1 B1.out).mono ?_
  rintro e w2 ⟨rfl, b2'⟩
  have B2 : Hid (Below w.heap.size w w2) := B1.out.trans (b2'.mono B1.out.size)
  clear b2' q0 q1 q2 q3 q4 q5 q6 q7 q8 q9 q10 q11 q12 r0 r1 r2 r3 r4 r5 r6 r7 r8 r9 r10 r11 r12
  go_wp2_with fail
  go_ret
  exact ⟨rfl, B2.out⟩
end Go.Proofs.Ytbbbfnfpmaogoaa.Own

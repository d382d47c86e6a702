/-
  Own text: what (impl.voteList).copied does.
-/
import Derived.Test.YtbbbfnfpmaogoaaOwnL
import Derived.Deep.AppendLies
namespace Go.Proofs.Ytbbbfnfpmaogoaa.Own
open Go.RowKit
set_option linter.unusedVariables false
set_option linter.unusedSimpArgs false

theorem infoVoteC : (Try.prog.info? 86).map (fun i => (i.zero, i.size, i.bytes)) = some (some (.agg #[.int .i64 0, .bool false, .int .i64 0, .int .i64 0, .slice none 0 0, .slice none 0 0, .int .i64 0, .int .i64 0]), 8, 96) := by kernel_rfl
theorem bodies_snoc (us : List VM) (y : VM) : bodies (us ++ [y]) = bodies us ++ [y.body] := by simp [bodies]
theorem bodies_take (vs : List VM) (j : Nat) (hj : j < vs.length) : (bodies vs).take (j + 1) = (bodies vs).take j ++ [(vs.getD j v0).body] := by
  rw [List.take_succ_eq_append_getElem (by rw [bodies_len]; exact hj), ← bodies_getD]
  simp [List.getD, bodies_len, hj]

theorem eight_new (w : World) (y : VM) : ∀ j u, y.cells.toList[j]? = some u → (w.alloc (.cells y.cells 86)).cell? ((⟨w.heap.size, 0, none⟩ : Addr).add j) = some u := by
  intro j u hu
  have e : (⟨w.heap.size, 0, none⟩ : Addr).add j = ⟨w.heap.size, j, none⟩ := by unfold Addr.add; split <;> simp_all
  rw [e, (Blk.new w y.cells _).cell]
  simpa using hu
theorem cells_one (y : VM) : ∀ u ∈ y.cells.toList, u.oneCell' = true := by
  intro u hu
  simp [VM.cells] at hu
  rcases hu with rfl | rfl | rfl | rfl | rfl | rfl | rfl | rfl <;> rfl

set_option maxRecDepth 100000 in
set_option maxHeartbeats 2000000 in
theorem listCopied (a : Option Addr) (c : Nat) (vs : List VM) (w : World) (h : SlV w a vs) (hl : VLs vs) (hn : vs.length ≤ 2 ^ 30) :
    Calls Try.prog 89 #[.slice a vs.length c] w fun e w' => ∃ v us, e = .returned v ∧ OwnL w' w.heap.size v us ∧ bodies us = bodies vs ∧ Below w.heap.size w w' := by
  have H : Hid (SlV w a vs) := h
  have VLS : Hid (VLs vs) := hl
  clear h hl
  obtain ⟨i0, hi, hz0, hz1, hz2⟩ := info_parts infoVoteC
  have I0 : Hid (Try.prog.info? 86 = some i0 ∧ i0.zero = some (.agg #[.int .i64 0, .bool false, .int .i64 0, .int .i64 0, .slice none 0 0, .slice none 0 0, .int .i64 0, .int .i64 0]) ∧ i0.size = 8 ∧ i0.bytes = 96) := ⟨hi, hz0, hz1, hz2⟩
  clear hi hz0 hz1 hz2
  go_enter Try.func89, Try.ntmps89
  go_wp2_with fail
  go_loopw [3, 8] (fun o i wr => ∃ (j : Nat) (us : List VM), j ≤ vs.length ∧ i = .int .i64 j ∧ Hid (OwnL wr w.heap.size o us) ∧ Hid (bodies us = (bodies vs).take j) ∧ Hid (Below w.heap.size w wr)) (fun _ i _ => vs.length - (intOf i).toNat)
  case atStart => exact ⟨0, [], Nat.zero_le _, rfl, OwnL.nil _ _, by show _ = _; simp [bodies], Below.refl _ _⟩
  case round =>
    obtain ⟨j, us, hj, rfl, OL, BU, BW⟩ := hrel
    by_cases hlt : j < vs.length
    · have hji : (j : Int) < (vs.length : Int) := by omega
      obtain ⟨x, hx⟩ : ∃ x, x = vs.getD j v0 := ⟨_, rfl⟩
      rcases H.out with h0 | ⟨b, off, rfl, hat⟩
      · rw [h0] at hlt; simp at hlt
      obtain ⟨c8, s1, s2⟩ := (hat.below BW.out).2 j hlt
      have VX := VLS.out j hlt
      rw [← hx] at c8 s1 s2 VX
      obtain ⟨q0, q1, q2, q3, q4, q5, q6, q7⟩ := c8
      have S1 : Hid (Sl wr x.a1 x.b.xs) := s1
      have S2 : Hid (Sl wr x.a2 x.b.ys) := s2
      have HXB : Hid (x = vs.getD j v0) := hx
      clear hat s1 s2 hx
      go_upto_region 5 with fail
      obtain ⟨X, hX⟩ : ∃ X, X = wr.alloc (.cells #[.int .i64 x.bal, .bool x.b.n, .int .i64 x.b.p, .int .i64 x.b.q, .slice x.a1 x.b.xs.length x.c1, .slice x.a2 x.b.ys.length x.c2, .int .i64 x.b.v, .int .i64 x.b.k] 86) := ⟨_, rfl⟩
      rw [← hX]
      have GX : Hid (Blk X wr.heap.size x.cells 86) := by show Blk _ _ _ _; rw [hX]; exact Blk.new _ _ _
      have BX : Hid (Below wr.heap.size wr X) := by show Below _ _ _; rw [hX]; exact (Below.refl _ _).alloc (Nat.le_refl _) _
      clear hX q0 q1 q2 q3 q4 q5 q6 q7
      obtain ⟨q0, q1, q2, q3, q4, q5, q6, q7⟩ := Blk.cells8 GX.out
      go_wp2_with fail
      refine (voteCopied x X (S1.out.below BX.out) (S2.out.below BX.out) VX.1 VX.2.1).mono ?_
      rintro e w1 ⟨y, rfl, hyb, hy, hb1⟩
      have Y1 : Hid (OneOwn w1 X.heap.size y) := hy
      have YB : Hid (y.body = x.body) := hyb
      have B1 : Hid (Below X.heap.size X w1) := hb1
      have hul : us.length = j := by
        have := congrArg List.length BU.out
        rw [bodies_len, List.length_take, bodies_len] at this
        omega
      have OX := OL.out.keep BX.out
      have BWX : Hid (Below w.heap.size w X) := BW.out.trans (BX.out.mono BW.out.size)
      have BA : Hid (Below X.heap.size X (w1.alloc (.cells y.cells 86))) := B1.out.alloc B1.out.size _
      have YA : Hid (OneOwn (w1.alloc (.cells y.cells 86)) X.heap.size y) := Y1.out.blk (by rw [size_new]; omega) fun b hb => heap_old _ _ _ (by
        rcases hb with hb | hb
        · exact (Y1.out.b1 b hb).2
        · exact (Y1.out.b2 b hb).2)
      have OXH : Hid (OwnL X w.heap.size u3 us) := OX
      have s1 := BWX.out.size
      have s2 := B1.out.size
      clear hy hyb hb1 OX q0 q1 q2 q3 q4 q5 q6 q7
      simp only [VM.cells] at BA YA ⊢
      go_wp2_with (at_builtin; go_loud (refine wpList_append_lies _ rfl (.tmp 12) (.tmp 15) 114 rfl w.heap.size 86 i0 _ 8 96 Try.underlying114 I0.out.1 I0.out.2.1 I0.out.2.2.1 I0.out.2.2.2 rfl (by decide) u3 us.length (flat8 us) rfl (OXH.out.keep BA.out).row ⟨w1.heap.size, 0, none⟩ 1 1 y.cells.toList rfl rfl (eight_new w1 y) (cells_one y) (by decide) (by unfold maxLen; omega) (by omega) (by rw [size_new]; omega) (w1.heap.size + 1) (size_new _ _) ?_))
      intro g4 cap4 w4 hown4 hgr hloc hg4
      have OW4 : Hid (OwnL w4 w.heap.size (.slice (some ⟨g4, 0, none⟩) (j + 1) cap4) (us ++ [y])) := OXH.out.snoc BA.out YA.out s1 (by rw [hul]; exact hown4) hgr (fun g hg => by
        simp only [Value.ownBlock] at hg
        injection hg with hg
        rcases hloc with hloc | hloc
        · left; rw [hloc, hg]
        · right; rw [size_new]; omega)
      have B4 : Hid (Below w.heap.size w w4) := (BWX.out.trans (BA.out.mono s1)).grown hgr (by rw [size_new]; omega) (fun k hk => (by
        have := OXH.out.row
        obtain ⟨_, hr⟩ := this
        rcases hr with ⟨e, _⟩ | ⟨g, cap, cur, e, hg, _⟩
        · rw [e] at hk; cases hk
        · rw [e] at hk
          simp only [Value.ownBlock] at hk
          injection hk with hk
          omega))
      clear hown4 hgr hloc hg4
      go_wp2_with fail
      refine ⟨⟨j + 1, us ++ [y], by omega, by go_num, OW4.out, ?_, B4.out⟩, ?_⟩
      · show _ = _
        rw [bodies_snoc, bodies_take _ _ hlt, BU.out, YB.out, HXB.out]
      · simp only [intOf]; omega
    · have hji : ¬ (j : Int) < (vs.length : Int) := by omega
      obtain rfl : j = vs.length := by omega
      go_wp2_with fail
      go_ret
      exact ⟨_, rfl, us, OL.out, by rw [BU.out, List.take_of_length_le (by rw [bodies_len]; exact Nat.le_refl _)], BW.out⟩
end Go.Proofs.Ytbbbfnfpmaogoaa.Own

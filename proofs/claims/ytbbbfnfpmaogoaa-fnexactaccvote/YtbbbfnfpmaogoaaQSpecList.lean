/-
  Own text, by program (gen_speclist.py): what spec.l6List, spec.l6Copy, spec.l6Promise and spec.AccPromise do.
-/
import Derived.Test.YtbbbfnfpmaogoaaPk10
namespace Go.Proofs.Ytbbbfnfpmaogoaa.Own
open Go.RowKit
set_option linter.unusedVariables false
set_option linter.unusedSimpArgs false

theorem OwnL.high {w w' : World} {B : Nat} {v : Value} {vs : List VM} (h : OwnL w B v vs) (hs : w.heap.size ≤ w'.heap.size) (hb : ∀ b, B ≤ b → w'.heap[b]? = w.heap[b]?) : OwnL w' B v vs := by
  refine ⟨⟨h.row.1, ?_⟩, fun i hi => (h.one i hi).blk hs fun b e => hb b ?_, h.out, h.all⟩
  · rcases h.row.2 with h2 | ⟨g, cap, cur, hv, hg, hh, r⟩
    · exact .inl h2
    · exact .inr ⟨g, cap, cur, hv, hg, by rw [hb g hg]; exact hh, r⟩
  · rcases e with e | e
    · exact ((h.one i hi).b1 b e).1
    · exact ((h.one i hi).b2 b e).1

set_option maxRecDepth 100000 in
set_option maxHeartbeats 800000 in
theorem l6List (a : Option Addr) (c : Nat) (vs : List VM) (w : World) (h1 : SlV w a vs) (l1 : VLs vs) (n1 : vs.length ≤ 2 ^ 30) :
    Calls Try.prog 115 #[.slice a vs.length c] w fun e w' => ∃ v us, e = .returned v ∧ OwnL w' w.heap.size v us ∧ bodies us = bodies vs ∧ Below w.heap.size w w' := by
  have H1 : Hid (SlV w a vs) := h1
  have L1 : Hid (VLs vs) := l1
  obtain ⟨i0, hi, hz0, hz1, hz2⟩ := info_parts infoVoteC
  have I0 : Hid (Try.prog.info? 86 = some i0 ∧ i0.zero = some (.agg #[.int .i64 0, .bool false, .int .i64 0, .int .i64 0, .slice none 0 0, .slice none 0 0, .int .i64 0, .int .i64 0]) ∧ i0.size = 8 ∧ i0.bytes = 96) := ⟨hi, hz0, hz1, hz2⟩
  clear h1 l1 hi hz0 hz1 hz2
  go_enter Try.func115, Try.ntmps115
  go_wp2_with fail
  go_loopw [3, 4] (fun o i wr => ∃ (j : Nat) (us : List VM), j ≤ vs.length ∧ i = .int .i64 j ∧ Hid (OwnL wr w.heap.size o us) ∧ Hid (bodies us = (bodies vs).take j) ∧ Hid (Below w.heap.size w wr)) (fun _ i _ => vs.length - (intOf i).toNat)
  case atStart =>
    refine ⟨0, [], Nat.zero_le _, rfl, ?_, by show _ = _; simp [bodies], (Below.refl _ _).alloc (Nat.le_refl _) _⟩
    exact ⟨⟨rfl, .inr ⟨w.heap.size, 0, #[], rfl, Nat.le_refl _, heap_new _ _, Nat.le_refl _, by decide, rfl, rfl⟩⟩, fun i h => by simp at h, fun i h => by simp at h, fun i j h => by simp at h⟩
  case round =>
    obtain ⟨j, us, hj, rfl, OL0, BU, BW⟩ := hrel
    by_cases hlt : j < vs.length
    · have hji : (j : Int) < (vs.length : Int) := by omega
      have UL : us.length = j := by
        have := congrArg List.length BU.out
        rw [bodies_len, List.length_take, bodies_len] at this
        omega
      obtain ⟨x2, hx⟩ : ∃ x, x = vs.getD j v0 := ⟨_, rfl⟩
      rcases H1.out with h0 | ⟨b0, off, rfl, hat⟩
      · rw [h0] at hlt; simp at hlt
      have hat' := hat.below BW.out
      have CLT : Hid (b0 < wr.heap.size) := hat'.1
      have NC : Hid (u3.ownBlock = some b0 → False) := fun e => by
        have h1 := OL0.out.from b0 e
        have h2 := hat.1
        omega
      obtain ⟨c8, s1, s2⟩ := hat'.2 j hlt
      have VX := L1.out j hlt
      rw [← hx] at c8 s1 s2 VX
      have SX : Hid ((Sl wr x2.a1 x2.b.xs ∧ Sl wr x2.a2 x2.b.ys) ∧ x2.b.xs.length ≤ 2 ^ 40 ∧ x2.b.ys.length ≤ 2 ^ 40) := ⟨⟨s1, s2⟩, VX.1, VX.2.1⟩
      have XB : Hid ((vs.getD j v0).body = x2.body) := by show _ = _; rw [hx]
      clear hx s1 s2 VX hat hat'
      obtain ⟨z, ⟨n, p, q, xs, ys, v, k⟩, a1, c1, a2, c2⟩ := x2
      have C8 : Hid (wr.cell? ⟨b0, off + j * 8, none⟩ = some (.int .i64 z) ∧ wr.cell? ⟨b0, off + j * 8 + 1, none⟩ = some (.bool n) ∧ wr.cell? ⟨b0, off + j * 8 + 2, none⟩ = some (.int .i64 p) ∧ wr.cell? ⟨b0, off + j * 8 + 3, none⟩ = some (.int .i64 q) ∧ wr.cell? ⟨b0, off + j * 8 + 4, none⟩ = some (.slice a1 xs.length c1) ∧ wr.cell? ⟨b0, off + j * 8 + 5, none⟩ = some (.slice a2 ys.length c2) ∧ wr.cell? ⟨b0, off + j * 8 + 6, none⟩ = some (.int .i64 v) ∧ wr.cell? ⟨b0, off + j * 8 + 7, none⟩ = some (.int .i64 k)) := c8
      clear c8
      have AF : Hid (∀ V, Below wr.heap.size wr V → V.cell? ⟨b0, off + j * 8, none⟩ = some (.int .i64 z) ∧ V.cell? ⟨b0, off + j * 8 + 1, none⟩ = some (.bool n) ∧ V.cell? ⟨b0, off + j * 8 + 2, none⟩ = some (.int .i64 p) ∧ V.cell? ⟨b0, off + j * 8 + 3, none⟩ = some (.int .i64 q) ∧ V.cell? ⟨b0, off + j * 8 + 4, none⟩ = some (.slice a1 xs.length c1) ∧ V.cell? ⟨b0, off + j * 8 + 5, none⟩ = some (.slice a2 ys.length c2) ∧ V.cell? ⟨b0, off + j * 8 + 6, none⟩ = some (.int .i64 v) ∧ V.cell? ⟨b0, off + j * 8 + 7, none⟩ = some (.int .i64 k)) := fun V hV => by
        have e : ∀ l, V.cell? ⟨b0, l, none⟩ = wr.cell? ⟨b0, l, none⟩ := fun l => hV.cell (p := ⟨b0, l, none⟩) CLT.out
        rw [e, e, e, e, e, e, e, e]
        exact C8.out
      have EC : Hid (∀ V, Below wr.heap.size wr V → Calls Try.prog 118 #[.agg #[.bool n, .int .i64 p, .int .i64 q, .slice a1 xs.length c1, .slice a2 ys.length c2, .int .i64 v, .int .i64 k]] V fun e w' => ∃ g1 e1 g2 e2, e = .returned (.agg #[.bool n, .int .i64 p, .int .i64 q, .slice (some ⟨g1, 0, none⟩) xs.length e1, .slice (some ⟨g2, 0, none⟩) ys.length e2, .int .i64 v, .int .i64 k]) ∧ RunE w' V.heap.size g1 e1 g2 e2 xs ys ∧ Below V.heap.size V w') := fun V hV => l5EntryX n p q a1 a2 c1 c2 xs ys v k V (SX.out.1.1.below hV) (SX.out.1.2.below hV) SX.out.2.1 SX.out.2.2
      obtain ⟨V, hV⟩ : ∃ V, V = wr.drew := ⟨_, rfl⟩
      have HV : Hid (V = wr.drew) := hV
      have BV : Hid (Below wr.heap.size wr V) := by show Below _ _ _; rw [hV]; exact (Below.refl _ _).drew
      have OL : Hid (OwnL V w.heap.size u3 us) := OL0.out.keep BV.out
      have LW : Hid (Below w.heap.size w V) := BW.out.trans (BV.out.mono BW.out.size)
      have UN : Hid (us.length ≤ 2 ^ 30) := by show _ ≤ _; omega
      obtain ⟨q0, q1, q2, q3, q4, q5, q6, q7⟩ := AF.out wr (Below.refl _ _)
      have pv := AF.out V BV.out
      clear hV SX
      go_upto_region 5 with fail
      refine wp_region_held_drew (S := (fun w' : World => w'.cell? ⟨b0, off + j * 8, none⟩ = some (.int .i64 z) ∧ w'.cell? ⟨b0, off + j * 8 + 1, none⟩ = some (.bool n) ∧ w'.cell? ⟨b0, off + j * 8 + 2, none⟩ = some (.int .i64 p) ∧ w'.cell? ⟨b0, off + j * 8 + 3, none⟩ = some (.int .i64 q) ∧ w'.cell? ⟨b0, off + j * 8 + 4, none⟩ = some (.slice a1 xs.length c1) ∧ w'.cell? ⟨b0, off + j * 8 + 5, none⟩ = some (.slice a2 ys.length c2) ∧ w'.cell? ⟨b0, off + j * 8 + 6, none⟩ = some (.int .i64 v) ∧ w'.cell? ⟨b0, off + j * 8 + 7, none⟩ = some (.int .i64 k))) (by kernel_rfl) ⟨q0, q1, q2, q3, q4, q5, q6, q7⟩ (fun hHeld => ?_)
      rw [← HV.out]
      refine wpAnyH_take (i := 0) (v := ?v0) rfl (by kernel_rfl) (by kernel_rfl) (by kernel_rfl) (fun _ _ _ h => h) (Or.inl ⟨by rfl, ?y0⟩) (by assumption) ?r0
      case y0 =>
        intro w' hSw
        try dsimp only at hSw
        go_simp
        try with_reducible rfl
      simp only [Act.put, List.getElem_toArray, List.getElem_cons_succ, List.getElem_cons_zero, List.setIfInBounds_toArray, List.set_cons_zero, List.set_cons_succ]
      refine wpAnyH_take (i := 1) (v := ?v1) rfl (by kernel_rfl) (by kernel_rfl) (by kernel_rfl) (fun _ _ _ h => h) (Or.inl ⟨by rfl, ?y1⟩) (by assumption) ?r1
      case y1 =>
        intro w' hSw
        try dsimp only at hSw
        go_simp
        try with_reducible rfl
      simp only [Act.put, List.getElem_toArray, List.getElem_cons_succ, List.getElem_cons_zero, List.setIfInBounds_toArray, List.set_cons_zero, List.set_cons_succ]
      refine wpAnyH_take (i := 2) (v := ?v2) rfl (by kernel_rfl) (by kernel_rfl) (by kernel_rfl) (fun _ _ _ h => h) (Or.inl ⟨by rfl, ?y2⟩) (by assumption) ?r2
      case y2 =>
        intro w' hSw
        try dsimp only at hSw
        go_simp
        try with_reducible rfl
      simp only [Act.put, List.getElem_toArray, List.getElem_cons_succ, List.getElem_cons_zero, List.setIfInBounds_toArray, List.set_cons_zero, List.set_cons_succ]
      refine wpAnyH_take (i := 3) (v := ?v3) rfl (by kernel_rfl) (by kernel_rfl) (by kernel_rfl) (fun _ _ _ h => h) (Or.inl ⟨by rfl, ?y3⟩) (by assumption) ?r3
      case y3 =>
        intro w' hSw
        try dsimp only at hSw
        go_simp
        try with_reducible rfl
      simp only [Act.put, List.getElem_toArray, List.getElem_cons_succ, List.getElem_cons_zero, List.setIfInBounds_toArray, List.set_cons_zero, List.set_cons_succ]
      refine wpAnyH_take (i := 4) (v := ?v4) rfl (by kernel_rfl) (by kernel_rfl) (by kernel_rfl) (fun _ _ _ h => h) (Or.inl ⟨by rfl, ?y4⟩) (by assumption) ?r4
      case y4 =>
        intro w' hSw
        try dsimp only at hSw
        go_simp
        try with_reducible rfl
      simp only [Act.put, List.getElem_toArray, List.getElem_cons_succ, List.getElem_cons_zero, List.setIfInBounds_toArray, List.set_cons_zero, List.set_cons_succ]
      refine wpAnyH_take (i := 5) (v := ?v5) rfl (by kernel_rfl) (by kernel_rfl) (by kernel_rfl) (fun _ _ _ h => h) (Or.inl ⟨by rfl, ?y5⟩) (by assumption) ?r5
      case y5 =>
        intro w' hSw
        try dsimp only at hSw
        go_simp
        try with_reducible rfl
      simp only [Act.put, List.getElem_toArray, List.getElem_cons_succ, List.getElem_cons_zero, List.setIfInBounds_toArray, List.set_cons_zero, List.set_cons_succ]
      refine wpAnyH_take (i := 6) (v := ?v6) rfl (by kernel_rfl) (by kernel_rfl) (by kernel_rfl) (fun _ _ _ h => h) (Or.inl ⟨by rfl, ?y6⟩) (by assumption) ?r6
      case y6 =>
        intro w' hSw
        try dsimp only at hSw
        go_simp
        try with_reducible rfl
      simp only [Act.put, List.getElem_toArray, List.getElem_cons_succ, List.getElem_cons_zero, List.setIfInBounds_toArray, List.set_cons_zero, List.set_cons_succ]
      refine wpAnyH_take (i := 7) (v := ?v7) rfl (by kernel_rfl) (by kernel_rfl) (by kernel_rfl) (fun _ _ _ h => h) (Or.inl ⟨by rfl, ?y7⟩) (by assumption) ?r7
      case y7 =>
        intro w' hSw
        try dsimp only at hSw
        go_simp
        try with_reducible rfl
      simp only [Act.put, List.getElem_toArray, List.getElem_cons_succ, List.getElem_cons_zero, List.setIfInBounds_toArray, List.set_cons_zero, List.set_cons_succ]
      refine wpAnyH_take (i := 8) (v := ?v8) rfl (by kernel_rfl) (by kernel_rfl) (by kernel_rfl) (fun _ _ _ h => h) (Or.inl ⟨by rfl, ?y8⟩) (by assumption) ?r8
      case y8 =>
        intro w' hSw
        try dsimp only at hSw
        go_simp
        try with_reducible rfl
      simp only [Act.put, List.getElem_toArray, List.getElem_cons_succ, List.getElem_cons_zero, List.setIfInBounds_toArray, List.set_cons_zero, List.set_cons_succ]
      refine wpAnyH_take (i := 9) (v := ?v9) rfl (by kernel_rfl) (by kernel_rfl) (by kernel_rfl) (fun _ _ _ h => h) (Or.inl ⟨by rfl, ?y9⟩) (by assumption) ?r9
      case y9 =>
        intro w' hSw
        try dsimp only at hSw
        go_simp
        try with_reducible rfl
      simp only [Act.put, List.getElem_toArray, List.getElem_cons_succ, List.getElem_cons_zero, List.setIfInBounds_toArray, List.set_cons_zero, List.set_cons_succ]
      refine wpAnyH_take (i := 10) (v := ?v10) rfl (by kernel_rfl) (by kernel_rfl) (by kernel_rfl) (fun _ _ _ h => h) (Or.inl ⟨by rfl, ?y10⟩) (by assumption) ?r10
      case y10 =>
        intro w' hSw
        try dsimp only at hSw
        go_simp
        try with_reducible rfl
      simp only [Act.put, List.getElem_toArray, List.getElem_cons_succ, List.getElem_cons_zero, List.setIfInBounds_toArray, List.set_cons_zero, List.set_cons_succ]
      refine wpAnyH_ready (rs := [11]) (by kernel_rfl) (by simp) ?_
      refine AllReadyH.cons rfl (fun K hK => ?_) AllReadyH.nil
      go_simp
      refine Calls.mono (EC.out _ BV.out) ?_
      rintro e w3 ⟨g1, e1, g2, e2, rfl, r3, b3⟩
      obtain ⟨y, hy⟩ : ∃ y : VM, y = ⟨z, ⟨n, p, q, xs, ys, v, k⟩, some ⟨g1, 0, none⟩, e1, some ⟨g2, 0, none⟩, e2⟩ := ⟨_, rfl⟩
      have YB : Hid (y.body = (z, ⟨n, p, q, xs, ys, v, k⟩)) := by show _ = _; rw [hy]; rfl
      have Y3 : Hid (OneOwn w3 V.heap.size y) := by show OneOwn _ _ _; rw [hy]; exact RunE.one (b := ⟨n, p, q, xs, ys, v, k⟩) r3 z
      have YC : Hid (y.cells = #[.int .i64 z, .bool n, .int .i64 p, .int .i64 q, .slice (some ⟨g1, 0, none⟩) xs.length e1, .slice (some ⟨g2, 0, none⟩) ys.length e2, .int .i64 v, .int .i64 k]) := by show _ = _; rw [hy]; rfl
      have B3 : Hid (Below V.heap.size V w3) := b3
      have B23 : Hid (Below wr.heap.size wr w3) := BV.out.trans (b3.mono BV.out.size)
      refine hK.out _ _ (AF.out w3 B23.out) (fun hH3 => ?_)
      clear hK K r3 b3 hy
      refine wpAnyH_take (i := 12) (v := ?v12) rfl (by kernel_rfl) (by kernel_rfl) (by kernel_rfl) (fun _ _ _ h => h) (Or.inl ⟨by rfl, ?y12⟩) (by assumption) ?r12
      case y12 =>
        intro w' hSw
        try dsimp only at hSw
        go_simp
        try with_reducible rfl
      simp only [Act.put, List.getElem_toArray, List.getElem_cons_succ, List.getElem_cons_zero, List.setIfInBounds_toArray, List.set_cons_zero, List.set_cons_succ]
      refine wpAnyH_ready (rs := [13]) (by kernel_rfl) (by simp) ?_
      refine AllReadyH.cons rfl (fun K hK => ?_) AllReadyH.nil
      go_simp
      rw [← YC.out]
      have B4 : Hid (Below V.heap.size V (w3.alloc (.cells y.cells 86))) := B3.out.alloc B3.out.size _
      have B24 : Hid (Below wr.heap.size wr (w3.alloc (.cells y.cells 86))) := B23.out.alloc B23.out.size _
      have Y4 : Hid (OneOwn (w3.alloc (.cells y.cells 86)) V.heap.size y) := Y3.out.blk (by rw [size_new]; omega) fun b hb => heap_old _ _ _ (by
        rcases hb with hb | hb
        · exact (Y3.out.b1 b hb).2
        · exact (Y3.out.b2 b hb).2)
      refine hK.out _ _ (AF.out _ B24.out) (fun hH4 => ?_)
      clear hK K
      refine wpAnyH_ready (rs := [14]) (by kernel_rfl) (by simp) ?_
      refine AllReadyH.cons rfl (fun K hK => ?_) AllReadyH.nil
      have sv := B3.out.size
      have s0 := LW.out.size
      refine step_append_lies (w3.alloc (.cells y.cells 86)) (by rfl) _ _ _ (by rfl) w.heap.size 86 i0 _ 8 96 Try.underlying22 I0.out.1 I0.out.2.1 I0.out.2.2.1 I0.out.2.2.2 rfl (by decide) u3 us.length (flat8 us) (by rfl) (OL.out.keep B4.out).row ⟨w3.heap.size, 0, none⟩ 1 1 y.cells.toList (by rfl) rfl (eight_new w3 y) (cells_one y) (by decide) (by have := UN.out; unfold maxLen; omega) (by have := UN.out; omega) (by rw [size_new]; omega) (w3.heap.size + 1) (size_new _ _) ?_
      intro g5 cap5 w5 own5 hgr hloc hg5
      have O5 : Hid (OwnL w5 w.heap.size (.slice (some ⟨g5, 0, none⟩) (us.length + 1) cap5) (us ++ [y])) := OL.out.snoc B4.out Y4.out (by omega) own5 hgr (fun g hg => by
        simp only [Value.ownBlock] at hg
        injection hg with hg
        rcases hloc with hloc | hloc
        · left; rw [hloc, hg]
        · right; rw [size_new]; omega)
      have K5 : Hid (Below w.heap.size w w5) := (LW.out.trans (B4.out.mono (by omega))).grown hgr (by rw [size_new]; omega) (fun x hx => OL.out.from x hx)
      have C5 : Hid (w5.cell? ⟨b0, off + j * 8, none⟩ = some (.int .i64 z) ∧ w5.cell? ⟨b0, off + j * 8 + 1, none⟩ = some (.bool n) ∧ w5.cell? ⟨b0, off + j * 8 + 2, none⟩ = some (.int .i64 p) ∧ w5.cell? ⟨b0, off + j * 8 + 3, none⟩ = some (.int .i64 q) ∧ w5.cell? ⟨b0, off + j * 8 + 4, none⟩ = some (.slice a1 xs.length c1) ∧ w5.cell? ⟨b0, off + j * 8 + 5, none⟩ = some (.slice a2 ys.length c2) ∧ w5.cell? ⟨b0, off + j * 8 + 6, none⟩ = some (.int .i64 v) ∧ w5.cell? ⟨b0, off + j * 8 + 7, none⟩ = some (.int .i64 k)) := by
        show _ ∧ _
        have hb : w5.heap[b0]? = wr.heap[b0]? := (hgr.block b0 (Nat.lt_of_lt_of_le CLT.out B24.out.size) (fun e => NC.out e.symm)).trans (B24.out.block b0 CLT.out)
        have e : ∀ l, w5.cell? ⟨b0, l, none⟩ = wr.cell? ⟨b0, l, none⟩ := fun l => World.cell?_of_block (w := wr) (a := ⟨b0, l, none⟩) hb
        rw [e, e, e, e, e, e, e, e]
        exact AF.out wr (Below.refl _ _)
      refine hK.out _ _ C5.out (fun hH5 => ?_)
      clear hK K own5 hgr hloc hg5
      refine wpAnyH_ready (rs := [15]) (by kernel_rfl) (by simp) ?_
      refine AllReadyH.cons rfl (fun K hK => ?_) AllReadyH.nil
      go_simp
      refine hK.out _ _ C5.out (fun hHx => ?_)
      refine wpAnyH_done (by kernel_rfl) ?_ _
      have NB : Hid (bodies (us ++ [y]) = (bodies vs).take (j + 1)) := by
        show _ = _
        rw [bodies_snoc, bodies_take _ _ hlt, BU.out, YB.out, XB.out]
        rfl
      clear q0 q1 q2 q3 q4 q5 q6 q7
      go_wp2_with fail
      refine ⟨⟨j + 1, us ++ [y], by omega, by go_num, (by have h := O5.out; rw [UL] at h; exact h), NB.out, K5.out⟩, by simp only [intOf]; omega⟩
    · have hji : ¬ (j : Int) < (vs.length : Int) := by omega
      obtain rfl : j = vs.length := by omega
      go_wp2_with fail
      go_ret
      exact ⟨_, rfl, us, OL0.out, by rw [BU.out, List.take_of_length_le (by rw [bodies_len]; exact Nat.le_refl _)], BW.out⟩

set_option maxRecDepth 100000 in
set_option maxHeartbeats 800000 in
theorem l6Copy (m : Int) (a : Option Addr) (c : Nat) (vs : List VM) (w : World) (h1 : SlV w a vs) (l1 : VLs vs) (n1 : vs.length ≤ 2 ^ 30) :
    Calls Try.prog 71 #[.agg #[.int .i64 m, .slice a vs.length c]] w fun e w' => ∃ lv us, e = .returned (.agg #[.int .i64 m, lv]) ∧ OwnL w' w.heap.size lv us ∧ bodies us = bodies vs ∧ Below w.heap.size w w' := by
  obtain ⟨W, hW⟩ : ∃ W, W = (w.alloc (.cells #[.int .i64 m, .slice a vs.length c] 24)).alloc (.cells #[.int .i64 0, .slice none 0 0] 24) := ⟨_, rfl⟩
  have bW : Below w.heap.size w W := by rw [hW]; exact ((Below.refl _ _).alloc (Nat.le_refl _) _).alloc (by simp) _
  have BW : Hid (Below w.heap.size w W) := bW
  have PW : Hid (Blk W w.heap.size #[.int .i64 m, .slice a vs.length c] 24) := by show Blk _ _ _ _; rw [hW]; exact (Blk.new _ _ _).alloc _
  have ZW : Hid (Blk W (w.heap.size + 1) #[.int .i64 0, .slice none 0 0] 24) := by show Blk _ _ _ _; rw [hW]; exact Blk.new2 _ _ _ _
  have SZ : Hid (W.heap.size = w.heap.size + 2) := by show _ = _; rw [hW]; simp
  have S1 : Hid (SlV W a vs) := h1.below bW
  have HW : Hid (W = _) := hW
  have CL : Hid (∀ V, Below W.heap.size W V → Calls Try.prog 115 #[.slice a vs.length c] V fun e w' => ∃ v us, e = .returned v ∧ OwnL w' V.heap.size v us ∧ bodies us = bodies vs ∧ Below V.heap.size V w') := fun V hV => l6List a c vs V (S1.out.below hV) l1 n1
  have AF : Hid (∀ V, Below W.heap.size W V → (V.cell? ⟨w.heap.size, 0, none⟩ = some (.int .i64 m) ∧ V.cell? ⟨w.heap.size, 1, none⟩ = some (.slice a vs.length c)) ∧ (V.cell? ⟨w.heap.size + 1, 0, none⟩ = some (.int .i64 0) ∧ V.cell? ⟨w.heap.size + 1, 1, none⟩ = some (.slice none 0 0)) ∧ (∀ o, V.frozen? ⟨w.heap.size + 1, o, none⟩ = false)) := fun V hV => ⟨(PW.out.keep hV).cells2, (ZW.out.keep hV).cells2, (ZW.out.keep hV).frozen⟩
  obtain ⟨V, hV⟩ : ∃ V, V = W.drew := ⟨_, rfl⟩
  have HV : Hid (V = W.drew) := hV
  have BV : Hid (Below W.heap.size W V) := by show Below _ _ _; rw [hV]; exact (Below.refl _ _).drew
  obtain ⟨⟨p0, p1⟩, ⟨z0, z1⟩, fz⟩ := AF.out W (Below.refl _ _)
  have pv := (AF.out V BV.out).1
  clear h1 l1 hW bW hV
  go_enter Try.func71, Try.ntmps71
  go_upto_region 1 with fail
  rw [← HW.out]
  refine wp_region_held_drew (S := (fun w' : World => w'.cell? ⟨w.heap.size, 0, none⟩ = some (.int .i64 m) ∧ w'.cell? ⟨w.heap.size, 1, none⟩ = some (.slice a vs.length c))) (by kernel_rfl) ⟨p0, p1⟩ (fun hHeld => ?_)
  rw [← HV.out]
  refine wpAnyH_take (i := 0) (v := ?vc0) rfl (by kernel_rfl) (by kernel_rfl) (by kernel_rfl) (fun _ _ _ h => h) (Or.inl ⟨by rfl, ?yc0⟩) (by assumption) ?rc0
  case yc0 =>
    intro w' hSw
    try dsimp only at hSw
    go_simp
    try with_reducible rfl
  simp only [Act.put, List.getElem_toArray, List.getElem_cons_succ, List.getElem_cons_zero, List.setIfInBounds_toArray, List.set_cons_zero, List.set_cons_succ]
  refine wpAnyH_take (i := 1) (v := ?vc1) rfl (by kernel_rfl) (by kernel_rfl) (by kernel_rfl) (fun _ _ _ h => h) (Or.inl ⟨by rfl, ?yc1⟩) (by assumption) ?rc1
  case yc1 =>
    intro w' hSw
    try dsimp only at hSw
    go_simp
    try with_reducible rfl
  simp only [Act.put, List.getElem_toArray, List.getElem_cons_succ, List.getElem_cons_zero, List.setIfInBounds_toArray, List.set_cons_zero, List.set_cons_succ]
  refine wpAnyH_take (i := 2) (v := ?vc2) rfl (by kernel_rfl) (by kernel_rfl) (by kernel_rfl) (fun _ _ _ h => h) (Or.inl ⟨by rfl, ?yc2⟩) (by assumption) ?rc2
  case yc2 =>
    intro w' hSw
    try dsimp only at hSw
    go_simp
    try with_reducible rfl
  simp only [Act.put, List.getElem_toArray, List.getElem_cons_succ, List.getElem_cons_zero, List.setIfInBounds_toArray, List.set_cons_zero, List.set_cons_succ]
  refine wpAnyH_take (i := 3) (v := ?vc3) rfl (by kernel_rfl) (by kernel_rfl) (by kernel_rfl) (fun _ _ _ h => h) (Or.inl ⟨by rfl, ?yc3⟩) (by assumption) ?rc3
  case yc3 =>
    intro w' hSw
    try dsimp only at hSw
    go_simp
    try with_reducible rfl
  simp only [Act.put, List.getElem_toArray, List.getElem_cons_succ, List.getElem_cons_zero, List.setIfInBounds_toArray, List.set_cons_zero, List.set_cons_succ]
  refine wpAnyH_ready (rs := [4]) (by kernel_rfl) (by simp) ?_
  refine AllReadyH.cons rfl (fun K hK => ?_) AllReadyH.nil
  go_simp
  refine Calls.mono (CL.out _ BV.out) ?_
  rintro e w1 ⟨lv, us, rfl, o1, e1, b1⟩
  obtain ⟨la, lc, rfl⟩ := o1.form
  have B1 : Hid (Below W.heap.size W w1) := BV.out.trans (b1.mono BV.out.size)
  have O1 : Hid (OwnL w1 W.heap.size (.slice la us.length lc) us) := o1.low BV.out.size
  have E1 : Hid (bodies us = bodies vs) := e1
  refine hK.out _ _ (AF.out w1 B1.out).1 (fun hH1 => ?_)
  clear hK K o1 b1 e1
  refine wpAnyH_take (i := 5) (v := ?vc5) rfl (by kernel_rfl) (by kernel_rfl) (by kernel_rfl) (fun _ _ _ h => h) (Or.inl ⟨by rfl, ?yc5⟩) (by assumption) ?rc5
  case yc5 =>
    intro w' hSw
    try dsimp only at hSw
    go_simp
    try with_reducible rfl
  simp only [Act.put, List.getElem_toArray, List.getElem_cons_succ, List.getElem_cons_zero, List.setIfInBounds_toArray, List.set_cons_zero, List.set_cons_succ]
  refine wpAnyH_ready (rs := [6]) (by kernel_rfl) (by simp) ?_
  refine AllReadyH.cons rfl (fun K hK => ?_) AllReadyH.nil
  obtain ⟨hp, ⟨y0, y1⟩, fy⟩ := AF.out w1 B1.out
  go_simp
  refine hK.out _ _ ?_ (fun hHx => ?_)
  · have on : Only (w.heap.size + 1) w1 ((w1.setCell ⟨w.heap.size + 1, 0, none⟩ (.int .i64 m)).setCell ⟨w.heap.size + 1, 1, none⟩ (.slice la us.length lc)) := ((Only.refl _ _).setCell _).setCell _
    refine ⟨?_, ?_⟩
    · rw [on.cell (by simp)]; exact hp.1
    · rw [on.cell (by simp)]; exact hp.2
  · refine wpAnyH_done (by kernel_rfl) ?_ _
    have S1 := SZ.out
    have F : Hid (OwnL ((w1.setCell ⟨w.heap.size + 1, 0, none⟩ (.int .i64 m)).setCell ⟨w.heap.size + 1, 1, none⟩ (.slice la us.length lc)) W.heap.size (.slice la us.length lc) us ∧ Below w.heap.size w ((w1.setCell ⟨w.heap.size + 1, 0, none⟩ (.int .i64 m)).setCell ⟨w.heap.size + 1, 1, none⟩ (.slice la us.length lc))) := by
      have on : Only (w.heap.size + 1) w1 ((w1.setCell ⟨w.heap.size + 1, 0, none⟩ (.int .i64 m)).setCell ⟨w.heap.size + 1, 1, none⟩ (.slice la us.length lc)) := ((Only.refl _ _).setCell _).setCell _
      exact ⟨O1.out.high (Nat.le_of_eq on.size.symm) (fun b hb => on.block b (by omega)), BW.out.trans ((B1.out.mono BW.out.size).trans (on.below (by omega)))⟩
    have z0 : ((w1.setCell ⟨w.heap.size + 1, 0, none⟩ (.int .i64 m)).setCell ⟨w.heap.size + 1, 1, none⟩ (.slice la us.length lc)).cell? ⟨w.heap.size + 1, 0, none⟩ = some (.int .i64 m) ∧ ((w1.setCell ⟨w.heap.size + 1, 0, none⟩ (.int .i64 m)).setCell ⟨w.heap.size + 1, 1, none⟩ (.slice la us.length lc)).cell? ⟨w.heap.size + 1, 1, none⟩ = some (.slice la us.length lc) := by
      have zb := ((ZW.out.keep B1.out).set 0 (.int .i64 m)).set 1 (.slice la us.length lc)
      exact (zb.eq (C' := #[.int .i64 m, .slice la us.length lc]) (by simp)).cells2
    obtain ⟨W9, hW9⟩ : ∃ W9, W9 = ((w1.setCell ⟨w.heap.size + 1, 0, none⟩ (.int .i64 m)).setCell ⟨w.heap.size + 1, 1, none⟩ (.slice la us.length lc)) := ⟨_, rfl⟩
    rw [← hW9] at z0 F ⊢
    obtain ⟨z0, z1⟩ := z0
    clear hW9 y0 y1 fy
    go_wp2_with fail
    refine bodyPost_ret (v := .agg #[.int .i64 m, .slice la us.length lc]) (by simp [results, Try.results71, go_sem, z0, z1]) rfl ?_
    exact ⟨_, us, rfl, F.out.1.low BW.out.size, E1.out, F.out.2⟩

/-- What a promise of a ballot makes of a bound. -/
def promTo (m bal : Int) : Int := if isBal bal && decide (m ≤ bal) then bal else m
def promOk (m bal : Int) : Bool := isBal bal && decide (m ≤ bal)

set_option maxRecDepth 100000 in
set_option maxHeartbeats 800000 in
theorem l6Promise (m : Int) (a : Option Addr) (n c : Nat) (bal : Int) (w : World) :
    Calls Try.prog 70 #[.agg #[.int .i64 m, .slice a n c], .int .i64 bal] w fun e w' => e = .returned (.tuple #[.agg #[.int .i64 (promTo m bal), .slice a n c], .bool (promOk m bal)]) ∧ Below w.heap.size w w' := by
  obtain ⟨W, hW⟩ : ∃ W, W = (w.alloc (.cells #[.int .i64 m, .slice a n c] 24)).alloc (.cells #[.int .i64 0, .slice none 0 0] 24) := ⟨_, rfl⟩
  have BW : Hid (Below w.heap.size w W) := by show Below _ _ _; rw [hW]; exact ((Below.refl _ _).alloc (Nat.le_refl _) _).alloc (by simp) _
  have PW : Hid (Blk W w.heap.size #[.int .i64 m, .slice a n c] 24) := by show Blk _ _ _ _; rw [hW]; exact (Blk.new _ _ _).alloc _
  have ZW : Hid (Blk W (w.heap.size + 1) #[.int .i64 0, .slice none 0 0] 24) := by show Blk _ _ _ _; rw [hW]; exact Blk.new2 _ _ _ _
  have HW : Hid (W = _) := hW
  clear hW
  have E1 : Hid (promTo m bal = if isBal bal && decide (m ≤ bal) then bal else m) := rfl
  have E2 : Hid (promOk m bal = (isBal bal && decide (m ≤ bal))) := rfl
  generalize promTo m bal = M at E1 ⊢
  generalize promOk m bal = T at E2 ⊢
  obtain ⟨p0, p1⟩ := PW.out.cells2
  obtain ⟨z0, z1⟩ := ZW.out.cells2
  have fp := PW.out.frozen
  have fz := ZW.out.frozen
  go_enter Try.func70, Try.ntmps70
  go_wp2_with fail
  rw [← HW.out]
  refine (specBal bal W).mono ?_
  rintro e w1 ⟨rfl, rfl⟩
  cases hb : isBal bal with
  | false =>
    have F1 : Hid (M = m) := by show _ = _; rw [E1.out, hb]; rfl
    have F2 : Hid (T = false) := by show _ = _; rw [E2.out, hb]; rfl
    clear E1 E2 hb
    go_wp2_with fail
    have zb := (((ZW.out.set 0 (.int .i64 m)).set 1 (.slice a n c)).eq (C' := #[.int .i64 m, .slice a n c]) (by simp)).cells2
    obtain ⟨y0, y1⟩ := zb
    refine bodyPost_ret (v := .tuple #[.agg #[.int .i64 m, .slice a n c], .bool false]) (by simp [results, Try.results70, go_sem, y0, y1]) rfl ?_
    exact ⟨by rw [F1.out, F2.out], (BW.out.setCell (by show w.heap.size ≤ w.heap.size + 1; omega) _).setCell (by show w.heap.size ≤ w.heap.size + 1; omega) _⟩
  | true =>
    by_cases hm : m ≤ bal
    · have F1 : Hid (M = bal) := by show _ = _; rw [E1.out, hb]; simp [hm]
      have F2 : Hid (T = true) := by show _ = _; rw [E2.out, hb]; simp [hm]
      have d1 : decide (bal < m) = false := decide_eq_false (by omega)
      have hm' : ¬ bal < m := by omega
      clear E1 E2 hb
      go_wp2_with fail
      have zo : Blk (w1.setCell ⟨w.heap.size, 0, none⟩ (.int .i64 bal)) (w.heap.size + 1) #[.int .i64 0, .slice none 0 0] 24 := ZW.out.other (by omega) _ _
      have zb := (((zo.set 0 (.int .i64 bal)).set 1 (.slice a n c)).eq (C' := #[.int .i64 bal, .slice a n c]) (by simp)).cells2
      obtain ⟨y0, y1⟩ := zb
      refine bodyPost_ret (v := .tuple #[.agg #[.int .i64 bal, .slice a n c], .bool true]) (by simp [results, Try.results70, go_sem, y0, y1]) rfl ?_
      exact ⟨by rw [F1.out, F2.out], ((BW.out.setCell (Nat.le_refl _) _).setCell (by show w.heap.size ≤ w.heap.size + 1; omega) _).setCell (by show w.heap.size ≤ w.heap.size + 1; omega) _⟩
    · have F1 : Hid (M = m) := by show _ = _; rw [E1.out, hb]; simp [hm]
      have F2 : Hid (T = false) := by show _ = _; rw [E2.out, hb]; simp [hm]
      have d1 : decide (bal < m) = true := decide_eq_true (by omega)
      have hm' : bal < m := by omega
      clear E1 E2 hb
      go_wp2_with fail
      have zb := (((ZW.out.set 0 (.int .i64 m)).set 1 (.slice a n c)).eq (C' := #[.int .i64 m, .slice a n c]) (by simp)).cells2
      obtain ⟨y0, y1⟩ := zb
      refine bodyPost_ret (v := .tuple #[.agg #[.int .i64 m, .slice a n c], .bool false]) (by simp [results, Try.results70, go_sem, y0, y1]) rfl ?_
      exact ⟨by rw [F1.out, F2.out], (BW.out.setCell (by show w.heap.size ≤ w.heap.size + 1; omega) _).setCell (by show w.heap.size ≤ w.heap.size + 1; omega) _⟩
end Go.Proofs.Ytbbbfnfpmaogoaa.Own

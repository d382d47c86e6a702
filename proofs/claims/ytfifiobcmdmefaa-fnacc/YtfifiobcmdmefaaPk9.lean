/-
  Own texts, bundled: SpecBest, AccOkS, SpecList, OwnLPut, CastMath, SpecCast.
-/
import Derived.Test.YtfifiobcmdmefaaPk6
import Derived.Deep.Cut
import Derived.Deep.CutRange
import Derived.Test.YtfifiobcmdmefaaPk8
import Derived.BigQuiet
import Derived.Lib.QuietBelow
namespace Go.Proofs.Ytfifiobcmdmefaa.Own
open Go.RowKit
set_option linter.unusedVariables false
set_option linter.unusedSimpArgs false

/-- The better votes, place by place. -/
def bestL (A B : List V) : List V := (List.range (max A.length B.length)).map (bestAt A B)
theorem bestL_len (A B : List V) : (bestL A B).length = max A.length B.length := by simp [bestL]
theorem bestL_take (A B : List V) {j : Nat} (hj : j < max A.length B.length) : (bestL A B).take (j + 1) = (bestL A B).take j ++ [bestAt A B j] := by
  rw [List.take_succ_eq_append_getElem (by rw [bestL_len]; exact hj)]
  simp [bestL]
theorem bestAt_right {A B : List V} {j : Nat} (h : j < B.length) (h2 : (A.getD j (0, e0)).1 < (B.getD j (0, e0)).1) : bestAt A B j = B.getD j (0, e0) := by unfold bestAt; rw [if_pos ⟨h, h2⟩]
theorem bestAt_left {A B : List V} {j : Nat} (h : ¬ (j < B.length ∧ (A.getD j (0, e0)).1 < (B.getD j (0, e0)).1)) : bestAt A B j = A.getD j (0, e0) := by unfold bestAt; rw [if_neg h]
theorem getD_past {vs : List VM} {j : Nat} (h : vs.length ≤ j) : vs.getD j v0 = v0 := by simp [List.getD, List.getElem?_eq_none h]
theorem SlV.one {w : World} {a : Option Addr} {vs : List VM} (h : SlV w a vs) (j : Nat) : Sl w (vs.getD j v0).a1 (vs.getD j v0).b.xs ∧ Sl w (vs.getD j v0).a2 (vs.getD j v0).b.ys := by
  by_cases hj : j < vs.length
  · rcases h with h | ⟨b, off, rfl, h⟩
    · rw [h] at hj; simp at hj
    · exact (h.2 j hj).2
  · rw [getD_past (Nat.le_of_not_lt hj)]
    exact ⟨.inl rfl, .inl rfl⟩
theorem VLs.one {vs : List VM} (h : VLs vs) (j : Nat) : (vs.getD j v0).b.xs.length ≤ 2 ^ 40 ∧ (vs.getD j v0).b.ys.length ≤ 2 ^ 40 := by
  by_cases hj : j < vs.length
  · exact ⟨(h j hj).1, (h j hj).2.1⟩
  · rw [getD_past (Nat.le_of_not_lt hj)]
    exact ⟨by decide, by decide⟩
theorem OwnL.low {w : World} {B B' : Nat} {v : Value} {vs : List VM} (h : OwnL w B v vs) (hB : B' ≤ B) : OwnL w B' v vs :=
  ⟨⟨h.row.1, by
    rcases h.row.2 with h | ⟨g, cap, cur, hv, hg, r⟩
    · exact .inl h
    · exact .inr ⟨g, cap, cur, hv, Nat.le_trans hB hg, r⟩⟩, fun i hi => (h.one i hi).weaken hB, h.out, h.all⟩
theorem bodies_at (vs : List VM) (j : Nat) : (vs.getD j v0).bal = ((bodies vs).getD j (0, e0)).1 := by rw [bodies_getD]; rfl

set_option maxRecDepth 100000 in
set_option maxHeartbeats 400000 in
theorem l6Best (a b : Option Addr) (c d : Nat) (vs us0 : List VM) (w : World) (h1 : SlV w a vs) (h2 : SlV w b us0) (l1 : VLs vs) (l2 : VLs us0) (n1 : vs.length ≤ 2 ^ 30) (n2 : us0.length ≤ 2 ^ 30) :
    Calls Try.prog 64 #[.slice a vs.length c, .slice b us0.length d] w fun e w' => ∃ v us, e = .returned v ∧ OwnL w' w.heap.size v us ∧ bodies us = bestL (bodies vs) (bodies us0) ∧ Below w.heap.size w w' := by
  have H1 : Hid (SlV w a vs) := h1
  have H2 : Hid (SlV w b us0) := h2
  have L1 : Hid (VLs vs) := l1
  have L2 : Hid (VLs us0) := l2
  obtain ⟨N, hN⟩ : ∃ N, N = max vs.length us0.length := ⟨_, rfl⟩
  have NE : Hid (N = max (bodies vs).length (bodies us0).length) := by show _ = _; rw [bodies_len, bodies_len]; exact hN
  have NV : vs.length ≤ N := by omega
  have NU : us0.length ≤ N := by omega
  have NN : N ≤ 2 ^ 30 := by omega
  have NM : N = vs.length ∨ N = us0.length := by omega
  obtain ⟨i0, hi, hz0, hz1, hz2⟩ := info_parts infoVoteC
  have I0 : Hid (Try.prog.info? 42 = some i0 ∧ i0.zero = some (.agg #[.int .i64 0, .bool false, .int .i64 0, .int .i64 0, .slice none 0 0, .slice none 0 0, .int .i64 0, .int .i64 0]) ∧ i0.size = 8 ∧ i0.bytes = 96) := ⟨hi, hz0, hz1, hz2⟩
  clear h1 h2 l1 l2 hi hz0 hz1 hz2 hN
  go_enter Try.func64, Try.ntmps64
  go_wp2_with fail
  go_loopw [5, 6, 7] (fun o i _ wr => ∃ (j : Nat) (us : List VM), j ≤ N ∧ i = .int .i64 j ∧ Hid (OwnL wr w.heap.size o us) ∧ Hid (bodies us = (bestL (bodies vs) (bodies us0)).take j) ∧ Hid (Below w.heap.size w wr)) (fun _ i _ _ => N - (intOf i).toNat)
  case atStart =>
    refine ⟨0, [], Nat.zero_le _, rfl, ?_, by show _ = _; simp [bodies], (Below.refl _ _).alloc (Nat.le_refl _) _⟩
    exact ⟨⟨rfl, .inr ⟨w.heap.size, 0, #[], rfl, Nat.le_refl _, heap_new _ _, Nat.le_refl _, by decide, rfl, rfl⟩⟩, fun i h => by simp at h, fun i h => by simp at h, fun i j h => by simp at h⟩
  case round =>

    obtain ⟨j, us, hj, rfl, OL0, BU, BW⟩ := hrel
    by_cases hlt : j < N
    · have UL : us.length = j := by
        have := congrArg List.length BU.out
        rw [bodies_len, List.length_take, bestL_len, ← NE.out] at this
        omega
      -- the vote that a has there, or none
      obtain ⟨x1, hx1⟩ : ∃ x, x = vs.getD j v0 := ⟨_, rfl⟩
      have X1 : Hid (x1 = vs.getD j v0) := hx1
      clear hx1
      go_upto_region 3 with fail
      go_cut [18] from 9 to 18 (fun q wx => q = .bool true ∧ wx = wr)
      case first =>
        by_cases ha : j < vs.length
        · have e1 : (j : Int) < (vs.length : Int) := by omega
          have e2 : decide ((j : Int) < (vs.length : Int)) = true := decide_eq_true e1
          go_wp2_with fail
          go_meet
          exact ⟨rfl, rfl⟩
        · have e1 : ¬ (j : Int) < (vs.length : Int) := by omega
          have e2 : decide ((j : Int) < (vs.length : Int)) = false := decide_eq_false e1
          have e3 : (j : Int) < (us0.length : Int) := by omega
          have e4 : decide ((j : Int) < (us0.length : Int)) = true := decide_eq_true e3
          go_wp2_with fail
          go_meet
          exact ⟨rfl, rfl⟩
      case rest =>
        obtain ⟨rfl, hwc⟩ := hcut
        rw [hwc]
        clear hwc
        go_upto_region 6 with fail
        obtain ⟨X, hX⟩ : ∃ X, X = wr.alloc (.cells #[.int .i64 0, .bool false, .int .i64 0, .int .i64 0, .slice none 0 0, .slice none 0 0, .int .i64 0, .int .i64 0] 42) := ⟨_, rfl⟩
        rw [← hX]
        have ZX : Hid (Blk X wr.heap.size #[.int .i64 0, .bool false, .int .i64 0, .int .i64 0, .slice none 0 0, .slice none 0 0, .int .i64 0, .int .i64 0] 42) := by show Blk _ _ _ _; rw [hX]; exact Blk.new _ _ _
        have BX : Hid (Below wr.heap.size wr X) := by show Below _ _ _; rw [hX]; exact (Below.refl _ _).alloc (Nat.le_refl _) _
        clear hX
        go_upto_if 25 with fail
        obtain ⟨ta, hta⟩ : ∃ t, t = decide (j < vs.length) := ⟨_, rfl⟩
        have TA : Hid (ta = decide (j < vs.length)) := hta
        rw [← hta]
        clear hta
        go_cut [] from 26 to 29 (fun wx => Blk wx wr.heap.size x1.cells 42 ∧ Below wr.heap.size wr wx)
        case first =>
          cases ta with
          | true =>
            have ha : j < vs.length := of_decide_eq_true TA.out.symm
            have e1 : (j : Int) < (vs.length : Int) := by omega
            rcases H1.out with h0 | ⟨b0, off, rfl, hat⟩
            · rw [h0] at ha; simp at ha
            obtain ⟨c8, _, _⟩ := ((hat.below BW.out).below BX.out).2 j ha
            rw [← X1.out] at c8
            obtain ⟨q0, q1, q2, q3, q4, q5, q6, q7⟩ := c8
            obtain ⟨z0, z1, z2, z3, z4, z5, z6, z7⟩ := ZX.out.cells8
            have fr := ZX.out.frozen
            clear hat
            go_wp2_with fail
            go_meet
            exact ⟨ZX.out.over8 x1, below_over8 BX.out (Nat.le_refl _) x1⟩
          | false =>
            have ha : ¬ j < vs.length := of_decide_eq_false TA.out.symm
            have xv : x1 = v0 := by rw [X1.out]; exact getD_past (by omega)
            go_wp2_with fail
            go_meet
            rw [xv]
            exact ⟨ZX.out, BX.out⟩
        case rest =>
          obtain ⟨W1, hW1⟩ : ∃ W1, W1 = wc := ⟨_, rfl⟩
          subst hW1
          have ZW : Hid (Blk W1 wr.heap.size x1.cells 42) := hcut.1
          have BW1 : Hid (Below wr.heap.size wr W1) := hcut.2
          clear hcut ZX BX X
          obtain ⟨y0, hy0⟩ : ∃ y, y = us0.getD j v0 := ⟨_, rfl⟩
          have Y0 : Hid (y0 = us0.getD j v0) := hy0
          clear hy0
          obtain ⟨x2, hx2⟩ : ∃ x, x = if j < us0.length ∧ x1.bal < y0.bal then y0 else x1 := ⟨_, rfl⟩
          have X2 : Hid (x2 = if j < us0.length ∧ x1.bal < y0.bal then y0 else x1) := hx2
          clear hx2
          obtain ⟨t, ht⟩ : ∃ t, t = decide (j < us0.length ∧ x1.bal < y0.bal) := ⟨_, rfl⟩
          have T2 : Hid (t = decide (j < us0.length ∧ x1.bal < y0.bal)) := ht
          clear ht
          go_upto_region 8 with fail
          go_cut [43] from 30 to 43 (fun q wx => q = .bool t ∧ Blk wx wr.heap.size x1.cells 42 ∧ Below wr.heap.size wr wx)
          case first =>
            obtain ⟨z0, z1, z2, z3, z4, z5, z6, z7⟩ := Blk.cells8 ZW.out
            by_cases hb : j < us0.length
            · have e1 : (j : Int) < (us0.length : Int) := by omega
              have d1 : decide ((j : Int) < (us0.length : Int)) = true := decide_eq_true e1
              rcases H2.out with h0 | ⟨b0, off, rfl, hat⟩
              · rw [h0] at hb; simp at hb
              obtain ⟨c8, _, _⟩ := ((hat.below BW.out).below BW1.out).2 j hb
              rw [← Y0.out] at c8
              have q0 := c8.1
              have te : t = decide (x1.bal < y0.bal) := by rw [T2.out]; simp [hb]
              clear hat c8
              go_wp2_with fail
              go_quiet (fail)
              go_wp2_with fail
              go_meet
              exact ⟨by rw [te], ZW.out, below_drewN BW1.out _⟩
            · have e1 : ¬ (j : Int) < (us0.length : Int) := by omega
              have d1 : decide ((j : Int) < (us0.length : Int)) = false := decide_eq_false e1
              have te : t = false := by rw [T2.out]; simp [hb]
              go_wp2_with fail
              go_quiet (fail)
              go_wp2_with fail
              go_meet
              exact ⟨by rw [te], ZW.out, below_drewN BW1.out _⟩
          case rest =>
          obtain ⟨W3, hW3⟩ : ∃ W3, W3 = wc := ⟨_, rfl⟩
          subst hW3
          obtain ⟨rfl, hc1, hc2⟩ := hcut
          have ZV : Hid (Blk W3 wr.heap.size x1.cells 42) := hc1
          have BV1 : Hid (Below wr.heap.size wr W3) := hc2
          clear hc1 hc2 ZW BW1
          go_upto_if 43 with fail
          go_cut [] from 44 to 47 (fun wx => Blk wx wr.heap.size x2.cells 42 ∧ Below wr.heap.size wr wx)
          case first =>
            cases t with
            | true =>
              have hbg := of_decide_eq_true T2.out.symm
              have xe : x2 = y0 := by rw [X2.out, if_pos hbg]
              have e1 : (j : Int) < (us0.length : Int) := by omega
              rcases H2.out with h0 | ⟨b0, off, rfl, hat⟩
              · have := hbg.1; rw [h0] at this; simp at this
              obtain ⟨c8, _, _⟩ := ((hat.below BW.out).below BV1.out).2 j hbg.1
              rw [← Y0.out] at c8
              obtain ⟨q0, q1, q2, q3, q4, q5, q6, q7⟩ := c8
              obtain ⟨z0, z1, z2, z3, z4, z5, z6, z7⟩ := Blk.cells8 ZV.out
              have fr := ZV.out.frozen
              clear hat
              go_wp2_with fail
              go_meet
              rw [xe]
              exact ⟨ZV.out.over8' y0, below_over8 BV1.out (Nat.le_refl _) y0⟩
            | false =>
              have hbg := of_decide_eq_false T2.out.symm
              have xe : x2 = x1 := by rw [X2.out, if_neg hbg]
              go_wp2_with fail
              go_meet
              rw [xe]
              exact ⟨ZV.out, BV1.out⟩
          case rest =>
            obtain ⟨W2, hW2⟩ : ∃ W2, W2 = wc := ⟨_, rfl⟩
            subst hW2
            have ZW2 : Hid (Blk W2 wr.heap.size x2.cells 42) := hcut.1
            have BW2 : Hid (Below wr.heap.size wr W2) := hcut.2
            clear hcut
            have XB : Hid (x2.body = bestAt (bodies vs) (bodies us0) j) := by
              show _ = _
              rw [X2.out]
              have e1 : x1.bal = ((bodies vs).getD j (0, e0)).1 := by rw [X1.out]; exact bodies_at vs j
              have e2 : y0.bal = ((bodies us0).getD j (0, e0)).1 := by rw [Y0.out]; exact bodies_at us0 j
              by_cases hc : j < us0.length ∧ x1.bal < y0.bal
              · rw [if_pos hc, bestAt_right (by rw [bodies_len]; exact hc.1) (by rw [← e1, ← e2]; exact hc.2), bodies_getD, Y0.out]
              · rw [if_neg hc, bestAt_left (fun h => hc ⟨by rw [bodies_len] at h; exact h.1, by rw [e1, e2]; exact h.2⟩), bodies_getD, X1.out]
            have SX : Hid ((Sl wr x2.a1 x2.b.xs ∧ Sl wr x2.a2 x2.b.ys) ∧ x2.b.xs.length ≤ 2 ^ 40 ∧ x2.b.ys.length ≤ 2 ^ 40) := by
              show _ ∧ _
              rw [X2.out]
              split
              · rw [Y0.out]; exact ⟨(H2.out.below BW.out).one j, L2.out.one j⟩
              · rw [X1.out]; exact ⟨(H1.out.below BW.out).one j, L1.out.one j⟩
            clear X1 X2 T2 Y0 TA
            obtain ⟨z, ⟨n, p, q, xs, ys, v, k⟩, a1, c1, a2, c2⟩ := x2
            obtain ⟨C, hC⟩ : ∃ C, C = wr.heap.size := ⟨_, rfl⟩
            rw [← hC] at ZW2 ⊢
            have sw := BW2.out.size
            have CLT : Hid (C < W2.heap.size) := ZW2.out.lt
            have NC : Hid (u5.ownBlock = some C → False) := fun e => by
              have := ownsRow_lt8 OL0.out.row C e
              omega
            have EC : Hid (∀ V, Below W2.heap.size W2 V → Calls Try.prog 100 #[.agg #[.bool n, .int .i64 p, .int .i64 q, .slice a1 xs.length c1, .slice a2 ys.length c2, .int .i64 v, .int .i64 k]] V fun e w' => ∃ g1 e1 g2 e2, e = .returned (.agg #[.bool n, .int .i64 p, .int .i64 q, .slice (some ⟨g1, 0, none⟩) xs.length e1, .slice (some ⟨g2, 0, none⟩) ys.length e2, .int .i64 v, .int .i64 k]) ∧ RunE w' V.heap.size g1 e1 g2 e2 xs ys ∧ Below V.heap.size V w') := fun V hV => l5EntryX n p q a1 a2 c1 c2 xs ys v k V ((SX.out.1.1.below BW2.out).below hV) ((SX.out.1.2.below BW2.out).below hV) SX.out.2.1 SX.out.2.2
            have AF : Hid (∀ V, Below W2.heap.size W2 V → V.cell? ⟨C, 0, none⟩ = some (.int .i64 z) ∧ V.cell? ⟨C, 1, none⟩ = some (.bool n) ∧ V.cell? ⟨C, 2, none⟩ = some (.int .i64 p) ∧ V.cell? ⟨C, 3, none⟩ = some (.int .i64 q) ∧ V.cell? ⟨C, 4, none⟩ = some (.slice a1 xs.length c1) ∧ V.cell? ⟨C, 5, none⟩ = some (.slice a2 ys.length c2) ∧ V.cell? ⟨C, 6, none⟩ = some (.int .i64 v) ∧ V.cell? ⟨C, 7, none⟩ = some (.int .i64 k)) := fun V hV => Blk.cells8 (ZW2.out.keep hV)
            obtain ⟨V, hV⟩ : ∃ V, V = W2.drew := ⟨_, rfl⟩
            have HV : Hid (V = W2.drew) := hV
            have BV : Hid (Below W2.heap.size W2 V) := by show Below _ _ _; rw [hV]; exact (Below.refl _ _).drew
            have WV : Below wr.heap.size wr V := BW2.out.trans (BV.out.mono sw)
            have OL : Hid (OwnL V w.heap.size u5 us) := OL0.out.keep WV
            have LW : Hid (Below w.heap.size w V) := BW.out.trans (WV.mono BW.out.size)
            have UN : Hid (us.length ≤ 2 ^ 30) := by show _ ≤ _; omega
            obtain ⟨q0, q1, q2, q3, q4, q5, q6, q7⟩ := AF.out W2 (Below.refl _ _)
            have pv := AF.out V BV.out
            clear hV hC sw WV SX
            go_upto_region 10 with fail
            refine wp_region_held_drew (S := (fun w' : World => w'.cell? ⟨C, 0, none⟩ = some (.int .i64 z) ∧ w'.cell? ⟨C, 1, none⟩ = some (.bool n) ∧ w'.cell? ⟨C, 2, none⟩ = some (.int .i64 p) ∧ w'.cell? ⟨C, 3, none⟩ = some (.int .i64 q) ∧ w'.cell? ⟨C, 4, none⟩ = some (.slice a1 xs.length c1) ∧ w'.cell? ⟨C, 5, none⟩ = some (.slice a2 ys.length c2) ∧ w'.cell? ⟨C, 6, none⟩ = some (.int .i64 v) ∧ w'.cell? ⟨C, 7, none⟩ = some (.int .i64 k))) (by kernel_rfl) ⟨q0, q1, q2, q3, q4, q5, q6, q7⟩ (fun hHeld => ?_)
            rw [← HV.out]
            refine wpAnyH_take (i := 0) (v := ?v0) rfl (by kernel_rfl) (by kernel_rfl) (by kernel_rfl) (fun _ _ _ h => h) (Or.inl ⟨by rfl, ?y0⟩) (by assumption) ?r0
            case y0 =>
              intro w' hSw
              try dsimp only at hSw
              go_simp
              try with_reducible rfl
            simp only [Act.put, List.getElem_toArray, List.getElem_cons_succ, List.getElem_cons_zero, List.setIfInBounds_toArray, List.set_cons_zero, List.set_cons_succ]
            refine wpAnyH_take (i := 1) (v := ?v1) rfl (by kernel_rfl) (by kernel_rfl) (by kernel_rfl) (fun _ _ _ h => h) (Or.inl ⟨by rfl, ?y1⟩) (by assumption) ?r1
            case y1 =>
              intro w' hSw
              try dsimp only at hSw
              go_simp
              try with_reducible rfl
            simp only [Act.put, List.getElem_toArray, List.getElem_cons_succ, List.getElem_cons_zero, List.setIfInBounds_toArray, List.set_cons_zero, List.set_cons_succ]
            refine wpAnyH_take (i := 2) (v := ?v2) rfl (by kernel_rfl) (by kernel_rfl) (by kernel_rfl) (fun _ _ _ h => h) (Or.inl ⟨by rfl, ?y2⟩) (by assumption) ?r2
            case y2 =>
              intro w' hSw
              try dsimp only at hSw
              go_simp
              try with_reducible rfl
            simp only [Act.put, List.getElem_toArray, List.getElem_cons_succ, List.getElem_cons_zero, List.setIfInBounds_toArray, List.set_cons_zero, List.set_cons_succ]
            refine wpAnyH_take (i := 3) (v := ?v3) rfl (by kernel_rfl) (by kernel_rfl) (by kernel_rfl) (fun _ _ _ h => h) (Or.inl ⟨by rfl, ?y3⟩) (by assumption) ?r3
            case y3 =>
              intro w' hSw
              try dsimp only at hSw
              go_simp
              try with_reducible rfl
            simp only [Act.put, List.getElem_toArray, List.getElem_cons_succ, List.getElem_cons_zero, List.setIfInBounds_toArray, List.set_cons_zero, List.set_cons_succ]
            refine wpAnyH_take (i := 4) (v := ?v4) rfl (by kernel_rfl) (by kernel_rfl) (by kernel_rfl) (fun _ _ _ h => h) (Or.inl ⟨by rfl, ?y4⟩) (by assumption) ?r4
            case y4 =>
              intro w' hSw
              try dsimp only at hSw
              go_simp
              try with_reducible rfl
            simp only [Act.put, List.getElem_toArray, List.getElem_cons_succ, List.getElem_cons_zero, List.setIfInBounds_toArray, List.set_cons_zero, List.set_cons_succ]
            refine wpAnyH_ready (rs := [5]) (by kernel_rfl) (by simp) ?_
            refine AllReadyH.cons rfl (fun K hK => ?_) AllReadyH.nil
            go_simp
            refine Calls.mono (EC.out _ BV.out) ?_
            rintro e w3 ⟨g1, e1, g2, e2, rfl, r3, b3⟩
            obtain ⟨y, hy⟩ : ∃ y : VM, y = ⟨z, ⟨n, p, q, xs, ys, v, k⟩, some ⟨g1, 0, none⟩, e1, some ⟨g2, 0, none⟩, e2⟩ := ⟨_, rfl⟩
            have YB : Hid (y.body = (z, ⟨n, p, q, xs, ys, v, k⟩)) := by show _ = _; rw [hy]; rfl
            have Y3 : Hid (OneOwn w3 V.heap.size y) := by show OneOwn _ _ _; rw [hy]; exact RunE.one (b := ⟨n, p, q, xs, ys, v, k⟩) r3 z
            have YC : Hid (y.cells = #[.int .i64 z, .bool n, .int .i64 p, .int .i64 q, .slice (some ⟨g1, 0, none⟩) xs.length e1, .slice (some ⟨g2, 0, none⟩) ys.length e2, .int .i64 v, .int .i64 k]) := by show _ = _; rw [hy]; rfl
            have B3 : Hid (Below V.heap.size V w3) := b3
            have B23 : Hid (Below W2.heap.size W2 w3) := BV.out.trans (b3.mono BV.out.size)
            refine hK.out _ _ (AF.out w3 B23.out) (fun hH3 => ?_)
            clear hK K r3 b3 hy
            refine wpAnyH_take (i := 6) (v := ?v6) rfl (by kernel_rfl) (by kernel_rfl) (by kernel_rfl) (fun _ _ _ h => h) (Or.inl ⟨by rfl, ?y6⟩) (by assumption) ?r6
            case y6 =>
              intro w' hSw
              try dsimp only at hSw
              go_simp
              try with_reducible rfl
            simp only [Act.put, List.getElem_toArray, List.getElem_cons_succ, List.getElem_cons_zero, List.setIfInBounds_toArray, List.set_cons_zero, List.set_cons_succ]
            refine wpAnyH_ready (rs := [7]) (by kernel_rfl) (by simp) ?_
            refine AllReadyH.cons rfl (fun K hK => ?_) AllReadyH.nil
            go_simp
            rw [← YC.out]
            have B4 : Hid (Below V.heap.size V (w3.alloc (.cells y.cells 42))) := B3.out.alloc B3.out.size _
            have B24 : Hid (Below W2.heap.size W2 (w3.alloc (.cells y.cells 42))) := B23.out.alloc B23.out.size _
            have Y4 : Hid (OneOwn (w3.alloc (.cells y.cells 42)) V.heap.size y) := Y3.out.blk (by rw [size_new]; omega) fun b hb => heap_old _ _ _ (by
              rcases hb with hb | hb
              · exact (Y3.out.b1 b hb).2
              · exact (Y3.out.b2 b hb).2)
            refine hK.out _ _ (AF.out _ B24.out) (fun hH4 => ?_)
            clear hK K
            refine wpAnyH_ready (rs := [8]) (by kernel_rfl) (by simp) ?_
            refine AllReadyH.cons rfl (fun K hK => ?_) AllReadyH.nil
            have sv := B3.out.size
            have s0 := LW.out.size
            refine step_append_lies (w3.alloc (.cells y.cells 42)) (by rfl) _ _ _ (by rfl) w.heap.size 42 i0 _ 8 96 Try.underlying23 I0.out.1 I0.out.2.1 I0.out.2.2.1 I0.out.2.2.2 rfl (by decide) u5 us.length (flat8 us) (by rfl) (OL.out.keep B4.out).row ⟨w3.heap.size, 0, none⟩ 1 1 y.cells.toList (by rfl) rfl (eight_new w3 y) (cells_one y) (by decide) (by have := UN.out; unfold maxLen; omega) (by have := UN.out; omega) (by rw [size_new]; omega) (w3.heap.size + 1) (size_new _ _) ?_
            intro g5 cap5 w5 own5 hgr hloc hg5
            have O5 : Hid (OwnL w5 w.heap.size (.slice (some ⟨g5, 0, none⟩) (us.length + 1) cap5) (us ++ [y])) := OL.out.snoc B4.out Y4.out (by omega) own5 hgr (fun g hg => by
              simp only [Value.ownBlock] at hg
              injection hg with hg
              rcases hloc with hloc | hloc
              · left; rw [hloc, hg]
              · right; rw [size_new]; omega)
            have K5 : Hid (Below w.heap.size w w5) := (LW.out.trans (B4.out.mono (by omega))).grown hgr (by rw [size_new]; omega) (fun x hx => OL.out.from x hx)
            have C5 : Hid (w5.cell? ⟨C, 0, none⟩ = some (.int .i64 z) ∧ w5.cell? ⟨C, 1, none⟩ = some (.bool n) ∧ w5.cell? ⟨C, 2, none⟩ = some (.int .i64 p) ∧ w5.cell? ⟨C, 3, none⟩ = some (.int .i64 q) ∧ w5.cell? ⟨C, 4, none⟩ = some (.slice a1 xs.length c1) ∧ w5.cell? ⟨C, 5, none⟩ = some (.slice a2 ys.length c2) ∧ w5.cell? ⟨C, 6, none⟩ = some (.int .i64 v) ∧ w5.cell? ⟨C, 7, none⟩ = some (.int .i64 k)) := by
              show _ ∧ _
              have hne : u5.ownBlock ≠ some C := fun e => NC.out e
              have hb : w5.heap[C]? = W2.heap[C]? := (hgr.block C (Nat.lt_of_lt_of_le CLT.out B24.out.size) (fun e => hne e.symm)).trans (B24.out.block C CLT.out)
              have e : ∀ l, w5.cell? ⟨C, l, none⟩ = W2.cell? ⟨C, l, none⟩ := fun l => World.cell?_of_block (w := W2) (a := ⟨C, l, none⟩) hb
              rw [e, e, e, e, e, e, e, e]
              exact AF.out W2 (Below.refl _ _)
            refine hK.out _ _ C5.out (fun hH5 => ?_)
            clear hK K own5 hgr hloc hg5
            refine wpAnyH_ready (rs := [9]) (by kernel_rfl) (by simp) ?_
            refine AllReadyH.cons rfl (fun K hK => ?_) AllReadyH.nil
            go_simp
            refine hK.out _ _ C5.out (fun hHx => ?_)
            refine wpAnyH_done (by kernel_rfl) ?_ _
            have NB : Hid (bodies (us ++ [y]) = (bestL (bodies vs) (bodies us0)).take (j + 1)) := by
              show _ = _
              rw [bodies_snoc, BU.out, bestL_take _ _ (by rw [← NE.out]; exact hlt), YB.out, ← XB.out]
              rfl
            clear q0 q1 q2 q3 q4 q5 q6 q7
            go_wp2_with fail
            refine ⟨⟨j + 1, us ++ [y], by omega, by go_num, (by have h := O5.out; rw [UL] at h; exact h), NB.out, K5.out⟩, by simp only [intOf]; omega⟩
    · have hja : decide ((j : Int) < (vs.length : Int)) = false := decide_eq_false (by omega)
      have hjb : decide ((j : Int) < (us0.length : Int)) = false := decide_eq_false (by omega)
      obtain rfl : j = N := by omega
      go_wp2_with fail
      go_ret
      exact ⟨_, us, rfl, OL0.out, by rw [BU.out, List.take_of_length_le (by rw [bestL_len, ← NE.out]; exact Nat.le_refl _)], BW.out⟩
set_option maxRecDepth 100000 in
set_option maxHeartbeats 800000 in
theorem specBest (a b : Option Addr) (c d : Nat) (vs us0 : List VM) (w : World) (h1 : SlV w a vs) (h2 : SlV w b us0) (l1 : VLs vs) (l2 : VLs us0) (n1 : vs.length ≤ 2 ^ 30) (n2 : us0.length ≤ 2 ^ 30) :
    Calls Try.prog 25 #[.slice a vs.length c, .slice b us0.length d] w fun e w' => ∃ v us, e = .returned v ∧ OwnL w' w.heap.size v us ∧ bodies us = bestOf (bodies vs) (bodies us0) ∧ Below w.heap.size w w' := by
  have H1 : Hid (SlV w a vs) := h1
  have H2 : Hid (SlV w b us0) := h2
  have L1 : Hid (VLs vs) := l1
  have L2 : Hid (VLs us0) := l2
  clear h1 h2 l1 l2
  have NIL : Hid (∀ V, Below w.heap.size w V → OwnL (V.alloc (.cells #[] 42)) w.heap.size (.slice (some ⟨V.heap.size, 0, none⟩) 0 0) []) := fun V hV => ⟨⟨rfl, .inr ⟨V.heap.size, 0, #[], rfl, hV.size, heap_new _ _, Nat.le_refl _, by decide, rfl, rfl⟩⟩, fun i h => by simp at h, fun i h => by simp at h, fun i j h => by simp at h⟩
  have K1 : Hid (votesUpto 3000 (bodies vs) = Own.votesOk (bodies vs)) := votesUpto_top _
  have K2 : Hid (votesUpto 3000 (bodies us0) = Own.votesOk (bodies us0)) := votesUpto_top _
  have C1 : Hid _ := specVotes a c vs w H1.out (by omega) L1.out
  have C2 : Hid (∀ V, Below w.heap.size w V → Calls Try.prog 60 #[.slice b us0.length d] V fun e w' => e = .returned (.bool (Own.votesOk (bodies us0))) ∧ Below V.heap.size V w') := fun V hV => specVotes b d us0 V (H2.out.below hV) (by omega) L2.out
  have OK : Hid (Own.votesOk (bodies vs) = true → Own.votesOk (bodies us0) = true → bestOf (bodies vs) (bodies us0) = bestL (bodies vs) (bodies us0)) := fun e1 e2 => bestOf_at (by rw [K1.out, K2.out, e1, e2]; rfl)
  have BAD1 : Hid (Own.votesOk (bodies vs) = false → bestOf (bodies vs) (bodies us0) = []) := fun e1 => by unfold bestOf; rw [K1.out, e1]; rfl
  have BAD2 : Hid (Own.votesOk (bodies us0) = false → bestOf (bodies vs) (bodies us0) = []) := fun e1 => by unfold bestOf; rw [K2.out, e1, Bool.and_false]; rfl
  clear K1 K2
  obtain ⟨k1, hk1⟩ : ∃ k, k = Own.votesOk (bodies vs) := ⟨_, rfl⟩
  obtain ⟨k2, hk2⟩ : ∃ k, k = Own.votesOk (bodies us0) := ⟨_, rfl⟩
  rw [← hk1] at C1 OK BAD1
  rw [← hk2] at C2 OK BAD2
  clear hk1 hk2
  go_enter Try.func25, Try.ntmps25
  go_wp2_with fail
  refine Calls.mono C1.out ?_
  rintro e w1 ⟨rfl, b1⟩
  have B1 : Hid (Below w.heap.size w w1) := b1
  clear b1
  cases k1 with
  | false =>
    go_wp2_with fail
    go_ret
    exact ⟨_, [], rfl, NIL.out w1 B1.out, (BAD1.out (by first | rfl | trivial)).symm, B1.out.alloc B1.out.size _⟩
  | true =>
    go_wp2_with fail
    refine Calls.mono (C2.out w1 B1.out) ?_
    rintro e w2 ⟨rfl, b2⟩
    have B2 : Hid (Below w.heap.size w w2) := B1.out.trans (b2.mono B1.out.size)
    clear b2
    cases k2 with
    | false =>
      go_wp2_with fail
      go_ret
      exact ⟨_, [], rfl, NIL.out w2 B2.out, (BAD2.out (by first | rfl | trivial)).symm, B2.out.alloc B2.out.size _⟩
    | true =>
      go_wp2_with fail
      refine (l6Best a b c d vs us0 w2 (H1.out.below B2.out) (H2.out.below B2.out) L1.out L2.out n1 n2).mono ?_
      rintro e w3 ⟨v, us, rfl, o3, e3, b3⟩
      have O3 : Hid (OwnL w3 w.heap.size v us) := o3.low B2.out.size
      have B3 : Hid (Below w.heap.size w w3) := B2.out.trans (b3.mono B2.out.size)
      have E3 : Hid (bodies us = bestOf (bodies vs) (bodies us0)) := e3.trans (OK.out (by first | rfl | trivial) (by first | rfl | trivial)).symm
      clear o3 e3 b3
      go_wp2_with fail
      go_ret
      exact ⟨_, us, rfl, O3.out, E3.out, B3.out⟩

theorem bestS (B T B' T' : Nat) (v u : Value) (L M : List VM) (w : World) (h1 : OwnR w B T v L) (h2 : OwnR w B' T' u M) (l1 : VLs L) (l2 : VLs M) (n1 : L.length ≤ 2 ^ 30) (n2 : M.length ≤ 2 ^ 30) :
    Calls Try.prog 25 #[v, u] w fun e w' => ∃ x N, e = .returned x ∧ OwnR w' w.heap.size w'.heap.size x N ∧ bodies N = bestOf (bodies L) (bodies M) ∧ Below w.heap.size w w' := by
  obtain ⟨a, c, rfl, s1⟩ := h1.form
  obtain ⟨b, d, rfl, s2⟩ := h2.form
  exact (specBest a b c d L M w s1 s2 l1 l2 n1 n2).mono fun e w' ⟨v, us, he, ho, hb, hw⟩ => ⟨v, us, he, OwnR.ofL ho, hb, hw⟩
end Go.Proofs.Ytfifiobcmdmefaa.Own

namespace Go.Proofs.Ytfifiobcmdmefaa.Own
open Go.RowKit Go.Sort
set_option linter.unusedVariables false
set_option linter.unusedSimpArgs false

set_option maxRecDepth 100000 in
set_option maxHeartbeats 2000000 in
theorem specAccOk (m : Int) (a : Option Addr) (c : Nat) (vs : List VM) (w : World) (h : SlV w a vs) (hn : vs.length ≤ 2 ^ 40) (hl : VLs vs) :
    Calls Try.prog 17 #[.agg #[.int .i64 m, .slice a vs.length c]] w fun e w' => e = .returned (.bool (accOk m (bodies vs))) ∧ Below w.heap.size w w' := by
  have E : Hid (accOk m (bodies vs) = (decide (0 ≤ m) && decide (m ≤ 3000) && votesOk (bodies vs) && (bodies vs).all fun x => decide (x.1 ≤ m))) := rfl
  have E2 : Hid (∀ i, i < vs.length → m < (vs.getD i v0).bal → (bodies vs).all (fun x => decide (x.1 ≤ m)) = false) := fun i hi h => allV_not (0, e0) (i := i) (by rw [bodies_len]; exact hi) (by rw [bodies_getD]; exact decide_eq_false (by show ¬ (vs.getD i v0).bal ≤ m; omega))
  have E3 : Hid ((∀ i, i < vs.length → (vs.getD i v0).bal ≤ m) → (bodies vs).all (fun x => decide (x.1 ≤ m)) = true) := fun h2 => allV_at (0, e0) (fun i hi => by rw [bodies_getD]; exact decide_eq_true (h2 i (by rw [bodies_len] at hi; exact hi)))
  generalize accOk m (bodies vs) = T at E ⊢
  generalize (bodies vs).all (fun x => decide (x.1 ≤ m)) = U at E E2 E3
  obtain ⟨W, hW⟩ : ∃ W, W = w.alloc (.cells #[.int .i64 m, .slice a vs.length c] 25) := ⟨_, rfl⟩
  have BW : Hid (Below w.heap.size w W) := by show Below _ _ _; rw [hW]; exact (Below.refl _ _).alloc (Nat.le_refl _) _
  have G0 : Hid (Blk W w.heap.size #[.int .i64 m, .slice a vs.length c] 25) := by show Blk _ _ _ _; rw [hW]; exact Blk.new _ _ _
  have HW : Hid (W = _) := hW
  clear hW
  have HS : Hid (SlV W a vs) := h.below BW.out
  have HC : Hid (Calls Try.prog 60 #[.slice a vs.length c] W fun e w' => e = .returned (.bool (votesOk (bodies vs))) ∧ Below W.heap.size W w') := specVotes a c vs W (h.below BW.out) hn hl
  clear h hl
  generalize votesOk (bodies vs) = VO at E HC
  cases h1 : decide (0 ≤ m) with
  | false =>
    have F : Hid (T = false) := by show _ = _; rw [E.out, h1]; rfl
    have hi : m < 0 := by simpa using h1
    clear E h1
    go_enter Try.func17, Try.ntmps17
    go_wp2_with fail
    go_ret
    exact ⟨ret_bool F.out.symm, by rw [← HW.out]; exact BW.out⟩
  | true =>
    have hi1 : ¬ m < 0 := by simpa using h1
    cases h2 : decide (m ≤ 3000) with
    | false =>
      have F : Hid (T = false) := by show _ = _; rw [E.out, h1, h2]; rfl
      have hi : m > 3000 := by simpa using h2
      clear E h1 h2
      go_enter Try.func17, Try.ntmps17
      go_wp2_with fail
      go_ret
      exact ⟨ret_bool F.out.symm, by rw [← HW.out]; exact BW.out⟩
    | true =>
      have hi2 : ¬ m > 3000 := by simpa using h2
      have E4 : Hid (T = (VO && U)) := by show _ = _; rw [E.out, h1, h2]; simp
      clear E h1 h2
      go_enter Try.func17, Try.ntmps17
      go_wp2_with fail
      rw [← HW.out]
      refine Calls.mono HC.out ?_
      rintro e w1 ⟨rfl, b1⟩
      have B1 : Hid (Below w.heap.size w w1) := BW.out.trans (b1.mono BW.out.size)
      have B2 : Hid (Below W.heap.size W w1) := b1
      obtain ⟨q0, q1⟩ := (G0.out.keep b1).cells2
      clear b1
      cases VO with
      | false =>
        have F : Hid (T = false) := by show _ = _; rw [E4.out]; rfl
        go_wp2_with fail
        go_ret
        exact ⟨ret_bool F.out.symm, B1.out⟩
      | true =>
        have F : Hid (T = U) := by show _ = _; rw [E4.out]; rfl
        clear E4
        go_wp2_with fail
        clear q0 q1
        go_loopw [3] (fun i wr => ∃ k : Nat, k ≤ vs.length ∧ i = .int .i64 k ∧ Hid (∀ j, j < k → (vs.getD j v0).bal ≤ m) ∧ Hid (Below W.heap.size W wr)) (fun i _ => vs.length - (intOf i).toNat)
        case atStart => exact ⟨0, Nat.zero_le _, rfl, fun j hj => by omega, B2.out⟩
        case round =>
          obtain ⟨k, hk, rfl, HA, KB⟩ := hrel
          obtain ⟨q0, q1⟩ := (G0.out.keep KB.out).cells2
          have KW : Hid (Below w.heap.size w wr) := BW.out.trans (KB.out.mono BW.out.size)
          by_cases hlt : k < vs.length
          · have hki : (k : Int) < (vs.length : Int) := by omega
            rcases HS.out.below KB.out with hh | ⟨b, off, rfl, _, hh⟩
            · rw [hh] at hlt; simp at hlt
            have d0 := (hh k hlt).1.1
            clear hh
            obtain ⟨y, hy⟩ : ∃ y, y = (vs.getD k v0).bal := ⟨_, rfl⟩
            rw [← hy] at d0
            by_cases hb : y > m
            · have F2 : Hid (T = false) := by show _ = _; rw [F.out]; exact E2.out k hlt (by rw [← hy]; exact hb)
              have hb2 : decide (m < y) = true := decide_eq_true hb
              clear hy hb
              go_wp2_with fail
              go_quiet (fail)
              go_wp2_with fail
              go_ret
              exact ⟨ret_bool F2.out.symm, below_drewN KW.out _⟩
            · have NX : Hid (∀ j, j < k + 1 → (vs.getD j v0).bal ≤ m) := fun j hj => by
                by_cases e : j = k
                · subst e; rw [← hy]; omega
                · exact HA.out j (by omega)
              have hb2 : decide (m < y) = false := decide_eq_false hb
              clear hy hb
              go_wp2_with fail
              go_quiet (fail)
              go_wp2_with fail
              go_roundw
              case rel => exact ⟨k + 1, by omega, by go_num, NX.out, below_drewN KB.out _⟩
              case measure => simp [intOf]; omega
          · have hki : ¬ (k : Int) < (vs.length : Int) := by omega
            have F2 : Hid (T = true) := by show _ = _; rw [F.out]; exact E3.out (fun i hi => HA.out i (by omega))
            go_wp2_with fail
            go_ret
            exact ⟨ret_bool F2.out.symm, KW.out⟩
end Go.Proofs.Ytfifiobcmdmefaa.Own

namespace Go.Proofs.Ytfifiobcmdmefaa.Own
open Go.RowKit
set_option linter.unusedVariables false
set_option linter.unusedSimpArgs false

theorem OwnL.high {w w' : World} {B : Nat} {v : Value} {vs : List VM} (h : OwnL w B v vs) (hs : w.heap.size ≤ w'.heap.size) (hb : ∀ b, B ≤ b → w'.heap[b]? = w.heap[b]?) : OwnL w' B v vs := by
  refine ⟨⟨h.row.1, ?_⟩, fun i hi => (h.one i hi).blk hs fun b e => hb b ?_, h.out, h.all⟩
  · rcases h.row.2 with h2 | ⟨g, cap, cur, hv, hg, hh, r⟩
    · exact .inl h2
    · exact .inr ⟨g, cap, cur, hv, hg, by rw [hb g hg]; exact hh, r⟩
  · rcases e with e | e
    · exact ((h.one i hi).b1 b e).1
    · exact ((h.one i hi).b2 b e).1

set_option maxRecDepth 100000 in
set_option maxHeartbeats 800000 in
theorem l6List (a : Option Addr) (c : Nat) (vs : List VM) (w : World) (h1 : SlV w a vs) (l1 : VLs vs) (n1 : vs.length ≤ 2 ^ 30) :
    Calls Try.prog 101 #[.slice a vs.length c] w fun e w' => ∃ v us, e = .returned v ∧ OwnL w' w.heap.size v us ∧ bodies us = bodies vs ∧ Below w.heap.size w w' := by
  have H1 : Hid (SlV w a vs) := h1
  have L1 : Hid (VLs vs) := l1
  obtain ⟨i0, hi, hz0, hz1, hz2⟩ := info_parts infoVoteC
  have I0 : Hid (Try.prog.info? 42 = some i0 ∧ i0.zero = some (.agg #[.int .i64 0, .bool false, .int .i64 0, .int .i64 0, .slice none 0 0, .slice none 0 0, .int .i64 0, .int .i64 0]) ∧ i0.size = 8 ∧ i0.bytes = 96) := ⟨hi, hz0, hz1, hz2⟩
  clear h1 l1 hi hz0 hz1 hz2
  go_enter Try.func101, Try.ntmps101
  go_wp2_with fail
  go_loopw [3, 4] (fun o i wr => ∃ (j : Nat) (us : List VM), j ≤ vs.length ∧ i = .int .i64 j ∧ Hid (OwnL wr w.heap.size o us) ∧ Hid (bodies us = (bodies vs).take j) ∧ Hid (Below w.heap.size w wr)) (fun _ i _ => vs.length - (intOf i).toNat)
  case atStart =>
    refine ⟨0, [], Nat.zero_le _, rfl, ?_, by show _ = _; simp [bodies], (Below.refl _ _).alloc (Nat.le_refl _) _⟩
    exact ⟨⟨rfl, .inr ⟨w.heap.size, 0, #[], rfl, Nat.le_refl _, heap_new _ _, Nat.le_refl _, by decide, rfl, rfl⟩⟩, fun i h => by simp at h, fun i h => by simp at h, fun i j h => by simp at h⟩
  case round =>
    obtain ⟨j, us, hj, rfl, OL0, BU, BW⟩ := hrel
    by_cases hlt : j < vs.length
    · have hji : (j : Int) < (vs.length : Int) := by omega
      have UL : us.length = j := by
        have := congrArg List.length BU.out
        rw [bodies_len, List.length_take, bodies_len] at this
        omega
      obtain ⟨x2, hx⟩ : ∃ x, x = vs.getD j v0 := ⟨_, rfl⟩
      rcases H1.out with h0 | ⟨b0, off, rfl, hat⟩
      · rw [h0] at hlt; simp at hlt
      have hat' := hat.below BW.out
      have CLT : Hid (b0 < wr.heap.size) := hat'.1
      have NC : Hid (u3.ownBlock = some b0 → False) := fun e => by
        have h1 := OL0.out.from b0 e
        have h2 := hat.1
        omega
      obtain ⟨c8, s1, s2⟩ := hat'.2 j hlt
      have VX := L1.out j hlt
      rw [← hx] at c8 s1 s2 VX
      have SX : Hid ((Sl wr x2.a1 x2.b.xs ∧ Sl wr x2.a2 x2.b.ys) ∧ x2.b.xs.length ≤ 2 ^ 40 ∧ x2.b.ys.length ≤ 2 ^ 40) := ⟨⟨s1, s2⟩, VX.1, VX.2.1⟩
      have XB : Hid ((vs.getD j v0).body = x2.body) := by show _ = _; rw [hx]
      clear hx s1 s2 VX hat hat'
      obtain ⟨z, ⟨n, p, q, xs, ys, v, k⟩, a1, c1, a2, c2⟩ := x2
      have C8 : Hid (wr.cell? ⟨b0, off + j * 8, none⟩ = some (.int .i64 z) ∧ wr.cell? ⟨b0, off + j * 8 + 1, none⟩ = some (.bool n) ∧ wr.cell? ⟨b0, off + j * 8 + 2, none⟩ = some (.int .i64 p) ∧ wr.cell? ⟨b0, off + j * 8 + 3, none⟩ = some (.int .i64 q) ∧ wr.cell? ⟨b0, off + j * 8 + 4, none⟩ = some (.slice a1 xs.length c1) ∧ wr.cell? ⟨b0, off + j * 8 + 5, none⟩ = some (.slice a2 ys.length c2) ∧ wr.cell? ⟨b0, off + j * 8 + 6, none⟩ = some (.int .i64 v) ∧ wr.cell? ⟨b0, off + j * 8 + 7, none⟩ = some (.int .i64 k)) := c8
      clear c8
      have AF : Hid (∀ V, Below wr.heap.size wr V → V.cell? ⟨b0, off + j * 8, none⟩ = some (.int .i64 z) ∧ V.cell? ⟨b0, off + j * 8 + 1, none⟩ = some (.bool n) ∧ V.cell? ⟨b0, off + j * 8 + 2, none⟩ = some (.int .i64 p) ∧ V.cell? ⟨b0, off + j * 8 + 3, none⟩ = some (.int .i64 q) ∧ V.cell? ⟨b0, off + j * 8 + 4, none⟩ = some (.slice a1 xs.length c1) ∧ V.cell? ⟨b0, off + j * 8 + 5, none⟩ = some (.slice a2 ys.length c2) ∧ V.cell? ⟨b0, off + j * 8 + 6, none⟩ = some (.int .i64 v) ∧ V.cell? ⟨b0, off + j * 8 + 7, none⟩ = some (.int .i64 k)) := fun V hV => by
        have e : ∀ l, V.cell? ⟨b0, l, none⟩ = wr.cell? ⟨b0, l, none⟩ := fun l => hV.cell (p := ⟨b0, l, none⟩) CLT.out
        rw [e, e, e, e, e, e, e, e]
        exact C8.out
      have EC : Hid (∀ V, Below wr.heap.size wr V → Calls Try.prog 100 #[.agg #[.bool n, .int .i64 p, .int .i64 q, .slice a1 xs.length c1, .slice a2 ys.length c2, .int .i64 v, .int .i64 k]] V fun e w' => ∃ g1 e1 g2 e2, e = .returned (.agg #[.bool n, .int .i64 p, .int .i64 q, .slice (some ⟨g1, 0, none⟩) xs.length e1, .slice (some ⟨g2, 0, none⟩) ys.length e2, .int .i64 v, .int .i64 k]) ∧ RunE w' V.heap.size g1 e1 g2 e2 xs ys ∧ Below V.heap.size V w') := fun V hV => l5EntryX n p q a1 a2 c1 c2 xs ys v k V (SX.out.1.1.below hV) (SX.out.1.2.below hV) SX.out.2.1 SX.out.2.2
      obtain ⟨V, hV⟩ : ∃ V, V = wr.drew := ⟨_, rfl⟩
      have HV : Hid (V = wr.drew) := hV
      have BV : Hid (Below wr.heap.size wr V) := by show Below _ _ _; rw [hV]; exact (Below.refl _ _).drew
      have OL : Hid (OwnL V w.heap.size u3 us) := OL0.out.keep BV.out
      have LW : Hid (Below w.heap.size w V) := BW.out.trans (BV.out.mono BW.out.size)
      have UN : Hid (us.length ≤ 2 ^ 30) := by show _ ≤ _; omega
      obtain ⟨q0, q1, q2, q3, q4, q5, q6, q7⟩ := AF.out wr (Below.refl _ _)
      have pv := AF.out V BV.out
      clear hV SX
      go_upto_region 5 with fail
      refine wp_region_held_drew (S := (fun w' : World => w'.cell? ⟨b0, off + j * 8, none⟩ = some (.int .i64 z) ∧ w'.cell? ⟨b0, off + j * 8 + 1, none⟩ = some (.bool n) ∧ w'.cell? ⟨b0, off + j * 8 + 2, none⟩ = some (.int .i64 p) ∧ w'.cell? ⟨b0, off + j * 8 + 3, none⟩ = some (.int .i64 q) ∧ w'.cell? ⟨b0, off + j * 8 + 4, none⟩ = some (.slice a1 xs.length c1) ∧ w'.cell? ⟨b0, off + j * 8 + 5, none⟩ = some (.slice a2 ys.length c2) ∧ w'.cell? ⟨b0, off + j * 8 + 6, none⟩ = some (.int .i64 v) ∧ w'.cell? ⟨b0, off + j * 8 + 7, none⟩ = some (.int .i64 k))) (by kernel_rfl) ⟨q0, q1, q2, q3, q4, q5, q6, q7⟩ (fun hHeld => ?_)
      rw [← HV.out]
      refine wpAnyH_take (i := 0) (v := ?v0) rfl (by kernel_rfl) (by kernel_rfl) (by kernel_rfl) (fun _ _ _ h => h) (Or.inl ⟨by rfl, ?y0⟩) (by assumption) ?r0
      case y0 =>
        intro w' hSw
        try dsimp only at hSw
        go_simp
        try with_reducible rfl
      simp only [Act.put, List.getElem_toArray, List.getElem_cons_succ, List.getElem_cons_zero, List.setIfInBounds_toArray, List.set_cons_zero, List.set_cons_succ]
      refine wpAnyH_take (i := 1) (v := ?v1) rfl (by kernel_rfl) (by kernel_rfl) (by kernel_rfl) (fun _ _ _ h => h) (Or.inl ⟨by rfl, ?y1⟩) (by assumption) ?r1
      case y1 =>
        intro w' hSw
        try dsimp only at hSw
        go_simp
        try with_reducible rfl
      simp only [Act.put, List.getElem_toArray, List.getElem_cons_succ, List.getElem_cons_zero, List.setIfInBounds_toArray, List.set_cons_zero, List.set_cons_succ]
      refine wpAnyH_take (i := 2) (v := ?v2) rfl (by kernel_rfl) (by kernel_rfl) (by kernel_rfl) (fun _ _ _ h => h) (Or.inl ⟨by rfl, ?y2⟩) (by assumption) ?r2
      case y2 =>
        intro w' hSw
        try dsimp only at hSw
        go_simp
        try with_reducible rfl
      simp only [Act.put, List.getElem_toArray, List.getElem_cons_succ, List.getElem_cons_zero, List.setIfInBounds_toArray, List.set_cons_zero, List.set_cons_succ]
      refine wpAnyH_take (i := 3) (v := ?v3) rfl (by kernel_rfl) (by kernel_rfl) (by kernel_rfl) (fun _ _ _ h => h) (Or.inl ⟨by rfl, ?y3⟩) (by assumption) ?r3
      case y3 =>
        intro w' hSw
        try dsimp only at hSw
        go_simp
        try with_reducible rfl
      simp only [Act.put, List.getElem_toArray, List.getElem_cons_succ, List.getElem_cons_zero, List.setIfInBounds_toArray, List.set_cons_zero, List.set_cons_succ]
      refine wpAnyH_take (i := 4) (v := ?v4) rfl (by kernel_rfl) (by kernel_rfl) (by kernel_rfl) (fun _ _ _ h => h) (Or.inl ⟨by rfl, ?y4⟩) (by assumption) ?r4
      case y4 =>
        intro w' hSw
        try dsimp only at hSw
        go_simp
        try with_reducible rfl
      simp only [Act.put, List.getElem_toArray, List.getElem_cons_succ, List.getElem_cons_zero, List.setIfInBounds_toArray, List.set_cons_zero, List.set_cons_succ]
      refine wpAnyH_take (i := 5) (v := ?v5) rfl (by kernel_rfl) (by kernel_rfl) (by kernel_rfl) (fun _ _ _ h => h) (Or.inl ⟨by rfl, ?y5⟩) (by assumption) ?r5
      case y5 =>
        intro w' hSw
        try dsimp only at hSw
        go_simp
        try with_reducible rfl
      simp only [Act.put, List.getElem_toArray, List.getElem_cons_succ, List.getElem_cons_zero, List.setIfInBounds_toArray, List.set_cons_zero, List.set_cons_succ]
      refine wpAnyH_take (i := 6) (v := ?v6) rfl (by kernel_rfl) (by kernel_rfl) (by kernel_rfl) (fun _ _ _ h => h) (Or.inl ⟨by rfl, ?y6⟩) (by assumption) ?r6
      case y6 =>
        intro w' hSw
        try dsimp only at hSw
        go_simp
        try with_reducible rfl
      simp only [Act.put, List.getElem_toArray, List.getElem_cons_succ, List.getElem_cons_zero, List.setIfInBounds_toArray, List.set_cons_zero, List.set_cons_succ]
      refine wpAnyH_take (i := 7) (v := ?v7) rfl (by kernel_rfl) (by kernel_rfl) (by kernel_rfl) (fun _ _ _ h => h) (Or.inl ⟨by rfl, ?y7⟩) (by assumption) ?r7
      case y7 =>
        intro w' hSw
        try dsimp only at hSw
        go_simp
        try with_reducible rfl
      simp only [Act.put, List.getElem_toArray, List.getElem_cons_succ, List.getElem_cons_zero, List.setIfInBounds_toArray, List.set_cons_zero, List.set_cons_succ]
      refine wpAnyH_take (i := 8) (v := ?v8) rfl (by kernel_rfl) (by kernel_rfl) (by kernel_rfl) (fun _ _ _ h => h) (Or.inl ⟨by rfl, ?y8⟩) (by assumption) ?r8
      case y8 =>
        intro w' hSw
        try dsimp only at hSw
        go_simp
        try with_reducible rfl
      simp only [Act.put, List.getElem_toArray, List.getElem_cons_succ, List.getElem_cons_zero, List.setIfInBounds_toArray, List.set_cons_zero, List.set_cons_succ]
      refine wpAnyH_take (i := 9) (v := ?v9) rfl (by kernel_rfl) (by kernel_rfl) (by kernel_rfl) (fun _ _ _ h => h) (Or.inl ⟨by rfl, ?y9⟩) (by assumption) ?r9
      case y9 =>
        intro w' hSw
        try dsimp only at hSw
        go_simp
        try with_reducible rfl
      simp only [Act.put, List.getElem_toArray, List.getElem_cons_succ, List.getElem_cons_zero, List.setIfInBounds_toArray, List.set_cons_zero, List.set_cons_succ]
      refine wpAnyH_take (i := 10) (v := ?v10) rfl (by kernel_rfl) (by kernel_rfl) (by kernel_rfl) (fun _ _ _ h => h) (Or.inl ⟨by rfl, ?y10⟩) (by assumption) ?r10
      case y10 =>
        intro w' hSw
        try dsimp only at hSw
        go_simp
        try with_reducible rfl
      simp only [Act.put, List.getElem_toArray, List.getElem_cons_succ, List.getElem_cons_zero, List.setIfInBounds_toArray, List.set_cons_zero, List.set_cons_succ]
      refine wpAnyH_ready (rs := [11]) (by kernel_rfl) (by simp) ?_
      refine AllReadyH.cons rfl (fun K hK => ?_) AllReadyH.nil
      go_simp
      refine Calls.mono (EC.out _ BV.out) ?_
      rintro e w3 ⟨g1, e1, g2, e2, rfl, r3, b3⟩
      obtain ⟨y, hy⟩ : ∃ y : VM, y = ⟨z, ⟨n, p, q, xs, ys, v, k⟩, some ⟨g1, 0, none⟩, e1, some ⟨g2, 0, none⟩, e2⟩ := ⟨_, rfl⟩
      have YB : Hid (y.body = (z, ⟨n, p, q, xs, ys, v, k⟩)) := by show _ = _; rw [hy]; rfl
      have Y3 : Hid (OneOwn w3 V.heap.size y) := by show OneOwn _ _ _; rw [hy]; exact RunE.one (b := ⟨n, p, q, xs, ys, v, k⟩) r3 z
      have YC : Hid (y.cells = #[.int .i64 z, .bool n, .int .i64 p, .int .i64 q, .slice (some ⟨g1, 0, none⟩) xs.length e1, .slice (some ⟨g2, 0, none⟩) ys.length e2, .int .i64 v, .int .i64 k]) := by show _ = _; rw [hy]; rfl
      have B3 : Hid (Below V.heap.size V w3) := b3
      have B23 : Hid (Below wr.heap.size wr w3) := BV.out.trans (b3.mono BV.out.size)
      refine hK.out _ _ (AF.out w3 B23.out) (fun hH3 => ?_)
      clear hK K r3 b3 hy
      refine wpAnyH_take (i := 12) (v := ?v12) rfl (by kernel_rfl) (by kernel_rfl) (by kernel_rfl) (fun _ _ _ h => h) (Or.inl ⟨by rfl, ?y12⟩) (by assumption) ?r12
      case y12 =>
        intro w' hSw
        try dsimp only at hSw
        go_simp
        try with_reducible rfl
      simp only [Act.put, List.getElem_toArray, List.getElem_cons_succ, List.getElem_cons_zero, List.setIfInBounds_toArray, List.set_cons_zero, List.set_cons_succ]
      refine wpAnyH_ready (rs := [13]) (by kernel_rfl) (by simp) ?_
      refine AllReadyH.cons rfl (fun K hK => ?_) AllReadyH.nil
      go_simp
      rw [← YC.out]
      have B4 : Hid (Below V.heap.size V (w3.alloc (.cells y.cells 42))) := B3.out.alloc B3.out.size _
      have B24 : Hid (Below wr.heap.size wr (w3.alloc (.cells y.cells 42))) := B23.out.alloc B23.out.size _
      have Y4 : Hid (OneOwn (w3.alloc (.cells y.cells 42)) V.heap.size y) := Y3.out.blk (by rw [size_new]; omega) fun b hb => heap_old _ _ _ (by
        rcases hb with hb | hb
        · exact (Y3.out.b1 b hb).2
        · exact (Y3.out.b2 b hb).2)
      refine hK.out _ _ (AF.out _ B24.out) (fun hH4 => ?_)
      clear hK K
      refine wpAnyH_ready (rs := [14]) (by kernel_rfl) (by simp) ?_
      refine AllReadyH.cons rfl (fun K hK => ?_) AllReadyH.nil
      have sv := B3.out.size
      have s0 := LW.out.size
      refine step_append_lies (w3.alloc (.cells y.cells 42)) (by rfl) _ _ _ (by rfl) w.heap.size 42 i0 _ 8 96 Try.underlying23 I0.out.1 I0.out.2.1 I0.out.2.2.1 I0.out.2.2.2 rfl (by decide) u3 us.length (flat8 us) (by rfl) (OL.out.keep B4.out).row ⟨w3.heap.size, 0, none⟩ 1 1 y.cells.toList (by rfl) rfl (eight_new w3 y) (cells_one y) (by decide) (by have := UN.out; unfold maxLen; omega) (by have := UN.out; omega) (by rw [size_new]; omega) (w3.heap.size + 1) (size_new _ _) ?_
      intro g5 cap5 w5 own5 hgr hloc hg5
      have O5 : Hid (OwnL w5 w.heap.size (.slice (some ⟨g5, 0, none⟩) (us.length + 1) cap5) (us ++ [y])) := OL.out.snoc B4.out Y4.out (by omega) own5 hgr (fun g hg => by
        simp only [Value.ownBlock] at hg
        injection hg with hg
        rcases hloc with hloc | hloc
        · left; rw [hloc, hg]
        · right; rw [size_new]; omega)
      have K5 : Hid (Below w.heap.size w w5) := (LW.out.trans (B4.out.mono (by omega))).grown hgr (by rw [size_new]; omega) (fun x hx => OL.out.from x hx)
      have C5 : Hid (w5.cell? ⟨b0, off + j * 8, none⟩ = some (.int .i64 z) ∧ w5.cell? ⟨b0, off + j * 8 + 1, none⟩ = some (.bool n) ∧ w5.cell? ⟨b0, off + j * 8 + 2, none⟩ = some (.int .i64 p) ∧ w5.cell? ⟨b0, off + j * 8 + 3, none⟩ = some (.int .i64 q) ∧ w5.cell? ⟨b0, off + j * 8 + 4, none⟩ = some (.slice a1 xs.length c1) ∧ w5.cell? ⟨b0, off + j * 8 + 5, none⟩ = some (.slice a2 ys.length c2) ∧ w5.cell? ⟨b0, off + j * 8 + 6, none⟩ = some (.int .i64 v) ∧ w5.cell? ⟨b0, off + j * 8 + 7, none⟩ = some (.int .i64 k)) := by
        show _ ∧ _
        have hb : w5.heap[b0]? = wr.heap[b0]? := (hgr.block b0 (Nat.lt_of_lt_of_le CLT.out B24.out.size) (fun e => NC.out e.symm)).trans (B24.out.block b0 CLT.out)
        have e : ∀ l, w5.cell? ⟨b0, l, none⟩ = wr.cell? ⟨b0, l, none⟩ := fun l => World.cell?_of_block (w := wr) (a := ⟨b0, l, none⟩) hb
        rw [e, e, e, e, e, e, e, e]
        exact AF.out wr (Below.refl _ _)
      refine hK.out _ _ C5.out (fun hH5 => ?_)
      clear hK K own5 hgr hloc hg5
      refine wpAnyH_ready (rs := [15]) (by kernel_rfl) (by simp) ?_
      refine AllReadyH.cons rfl (fun K hK => ?_) AllReadyH.nil
      go_simp
      refine hK.out _ _ C5.out (fun hHx => ?_)
      refine wpAnyH_done (by kernel_rfl) ?_ _
      have NB : Hid (bodies (us ++ [y]) = (bodies vs).take (j + 1)) := by
        show _ = _
        rw [bodies_snoc, bodies_take _ _ hlt, BU.out, YB.out, XB.out]
        rfl
      clear q0 q1 q2 q3 q4 q5 q6 q7
      go_wp2_with fail
      refine ⟨⟨j + 1, us ++ [y], by omega, by go_num, (by have h := O5.out; rw [UL] at h; exact h), NB.out, K5.out⟩, by simp only [intOf]; omega⟩
    · have hji : ¬ (j : Int) < (vs.length : Int) := by omega
      obtain rfl : j = vs.length := by omega
      go_wp2_with fail
      go_ret
      exact ⟨_, rfl, us, OL0.out, by rw [BU.out, List.take_of_length_le (by rw [bodies_len]; exact Nat.le_refl _)], BW.out⟩

set_option maxRecDepth 100000 in
set_option maxHeartbeats 800000 in
theorem l6Copy (m : Int) (a : Option Addr) (c : Nat) (vs : List VM) (w : World) (h1 : SlV w a vs) (l1 : VLs vs) (n1 : vs.length ≤ 2 ^ 30) :
    Calls Try.prog 55 #[.agg #[.int .i64 m, .slice a vs.length c]] w fun e w' => ∃ lv us, e = .returned (.agg #[.int .i64 m, lv]) ∧ OwnL w' w.heap.size lv us ∧ bodies us = bodies vs ∧ Below w.heap.size w w' := by
  obtain ⟨W, hW⟩ : ∃ W, W = (w.alloc (.cells #[.int .i64 m, .slice a vs.length c] 25)).alloc (.cells #[.int .i64 0, .slice none 0 0] 25) := ⟨_, rfl⟩
  have bW : Below w.heap.size w W := by rw [hW]; exact ((Below.refl _ _).alloc (Nat.le_refl _) _).alloc (by simp) _
  have BW : Hid (Below w.heap.size w W) := bW
  have PW : Hid (Blk W w.heap.size #[.int .i64 m, .slice a vs.length c] 25) := by show Blk _ _ _ _; rw [hW]; exact (Blk.new _ _ _).alloc _
  have ZW : Hid (Blk W (w.heap.size + 1) #[.int .i64 0, .slice none 0 0] 25) := by show Blk _ _ _ _; rw [hW]; exact Blk.new2 _ _ _ _
  have SZ : Hid (W.heap.size = w.heap.size + 2) := by show _ = _; rw [hW]; simp
  have S1 : Hid (SlV W a vs) := h1.below bW
  have HW : Hid (W = _) := hW
  have CL : Hid (∀ V, Below W.heap.size W V → Calls Try.prog 101 #[.slice a vs.length c] V fun e w' => ∃ v us, e = .returned v ∧ OwnL w' V.heap.size v us ∧ bodies us = bodies vs ∧ Below V.heap.size V w') := fun V hV => l6List a c vs V (S1.out.below hV) l1 n1
  have AF : Hid (∀ V, Below W.heap.size W V → (V.cell? ⟨w.heap.size, 0, none⟩ = some (.int .i64 m) ∧ V.cell? ⟨w.heap.size, 1, none⟩ = some (.slice a vs.length c)) ∧ (V.cell? ⟨w.heap.size + 1, 0, none⟩ = some (.int .i64 0) ∧ V.cell? ⟨w.heap.size + 1, 1, none⟩ = some (.slice none 0 0)) ∧ (∀ o, V.frozen? ⟨w.heap.size + 1, o, none⟩ = false)) := fun V hV => ⟨(PW.out.keep hV).cells2, (ZW.out.keep hV).cells2, (ZW.out.keep hV).frozen⟩
  obtain ⟨V, hV⟩ : ∃ V, V = W.drew := ⟨_, rfl⟩
  have HV : Hid (V = W.drew) := hV
  have BV : Hid (Below W.heap.size W V) := by show Below _ _ _; rw [hV]; exact (Below.refl _ _).drew
  obtain ⟨⟨p0, p1⟩, ⟨z0, z1⟩, fz⟩ := AF.out W (Below.refl _ _)
  have pv := (AF.out V BV.out).1
  clear h1 l1 hW bW hV
  go_enter Try.func55, Try.ntmps55
  go_upto_region 1 with fail
  rw [← HW.out]
  refine wp_region_held_drew (S := (fun w' : World => w'.cell? ⟨w.heap.size, 0, none⟩ = some (.int .i64 m) ∧ w'.cell? ⟨w.heap.size, 1, none⟩ = some (.slice a vs.length c))) (by kernel_rfl) ⟨p0, p1⟩ (fun hHeld => ?_)
  rw [← HV.out]
  refine wpAnyH_take (i := 0) (v := ?vc0) rfl (by kernel_rfl) (by kernel_rfl) (by kernel_rfl) (fun _ _ _ h => h) (Or.inl ⟨by rfl, ?yc0⟩) (by assumption) ?rc0
  case yc0 =>
    intro w' hSw
    try dsimp only at hSw
    go_simp
    try with_reducible rfl
  simp only [Act.put, List.getElem_toArray, List.getElem_cons_succ, List.getElem_cons_zero, List.setIfInBounds_toArray, List.set_cons_zero, List.set_cons_succ]
  refine wpAnyH_take (i := 1) (v := ?vc1) rfl (by kernel_rfl) (by kernel_rfl) (by kernel_rfl) (fun _ _ _ h => h) (Or.inl ⟨by rfl, ?yc1⟩) (by assumption) ?rc1
  case yc1 =>
    intro w' hSw
    try dsimp only at hSw
    go_simp
    try with_reducible rfl
  simp only [Act.put, List.getElem_toArray, List.getElem_cons_succ, List.getElem_cons_zero, List.setIfInBounds_toArray, List.set_cons_zero, List.set_cons_succ]
  refine wpAnyH_take (i := 2) (v := ?vc2) rfl (by kernel_rfl) (by kernel_rfl) (by kernel_rfl) (fun _ _ _ h => h) (Or.inl ⟨by rfl, ?yc2⟩) (by assumption) ?rc2
  case yc2 =>
    intro w' hSw
    try dsimp only at hSw
    go_simp
    try with_reducible rfl
  simp only [Act.put, List.getElem_toArray, List.getElem_cons_succ, List.getElem_cons_zero, List.setIfInBounds_toArray, List.set_cons_zero, List.set_cons_succ]
  refine wpAnyH_take (i := 3) (v := ?vc3) rfl (by kernel_rfl) (by kernel_rfl) (by kernel_rfl) (fun _ _ _ h => h) (Or.inl ⟨by rfl, ?yc3⟩) (by assumption) ?rc3
  case yc3 =>
    intro w' hSw
    try dsimp only at hSw
    go_simp
    try with_reducible rfl
  simp only [Act.put, List.getElem_toArray, List.getElem_cons_succ, List.getElem_cons_zero, List.setIfInBounds_toArray, List.set_cons_zero, List.set_cons_succ]
  refine wpAnyH_ready (rs := [4]) (by kernel_rfl) (by simp) ?_
  refine AllReadyH.cons rfl (fun K hK => ?_) AllReadyH.nil
  go_simp
  refine Calls.mono (CL.out _ BV.out) ?_
  rintro e w1 ⟨lv, us, rfl, o1, e1, b1⟩
  obtain ⟨la, lc, rfl⟩ := o1.form
  have B1 : Hid (Below W.heap.size W w1) := BV.out.trans (b1.mono BV.out.size)
  have O1 : Hid (OwnL w1 W.heap.size (.slice la us.length lc) us) := o1.low BV.out.size
  have E1 : Hid (bodies us = bodies vs) := e1
  refine hK.out _ _ (AF.out w1 B1.out).1 (fun hH1 => ?_)
  clear hK K o1 b1 e1
  refine wpAnyH_take (i := 5) (v := ?vc5) rfl (by kernel_rfl) (by kernel_rfl) (by kernel_rfl) (fun _ _ _ h => h) (Or.inl ⟨by rfl, ?yc5⟩) (by assumption) ?rc5
  case yc5 =>
    intro w' hSw
    try dsimp only at hSw
    go_simp
    try with_reducible rfl
  simp only [Act.put, List.getElem_toArray, List.getElem_cons_succ, List.getElem_cons_zero, List.setIfInBounds_toArray, List.set_cons_zero, List.set_cons_succ]
  refine wpAnyH_ready (rs := [6]) (by kernel_rfl) (by simp) ?_
  refine AllReadyH.cons rfl (fun K hK => ?_) AllReadyH.nil
  obtain ⟨hp, ⟨y0, y1⟩, fy⟩ := AF.out w1 B1.out
  go_simp
  refine hK.out _ _ ?_ (fun hHx => ?_)
  · have on : Only (w.heap.size + 1) w1 ((w1.setCell ⟨w.heap.size + 1, 0, none⟩ (.int .i64 m)).setCell ⟨w.heap.size + 1, 1, none⟩ (.slice la us.length lc)) := ((Only.refl _ _).setCell _).setCell _
    refine ⟨?_, ?_⟩
    · rw [on.cell (by simp)]; exact hp.1
    · rw [on.cell (by simp)]; exact hp.2
  · refine wpAnyH_done (by kernel_rfl) ?_ _
    have S1 := SZ.out
    have F : Hid (OwnL ((w1.setCell ⟨w.heap.size + 1, 0, none⟩ (.int .i64 m)).setCell ⟨w.heap.size + 1, 1, none⟩ (.slice la us.length lc)) W.heap.size (.slice la us.length lc) us ∧ Below w.heap.size w ((w1.setCell ⟨w.heap.size + 1, 0, none⟩ (.int .i64 m)).setCell ⟨w.heap.size + 1, 1, none⟩ (.slice la us.length lc))) := by
      have on : Only (w.heap.size + 1) w1 ((w1.setCell ⟨w.heap.size + 1, 0, none⟩ (.int .i64 m)).setCell ⟨w.heap.size + 1, 1, none⟩ (.slice la us.length lc)) := ((Only.refl _ _).setCell _).setCell _
      exact ⟨O1.out.high (Nat.le_of_eq on.size.symm) (fun b hb => on.block b (by omega)), BW.out.trans ((B1.out.mono BW.out.size).trans (on.below (by omega)))⟩
    have z0 : ((w1.setCell ⟨w.heap.size + 1, 0, none⟩ (.int .i64 m)).setCell ⟨w.heap.size + 1, 1, none⟩ (.slice la us.length lc)).cell? ⟨w.heap.size + 1, 0, none⟩ = some (.int .i64 m) ∧ ((w1.setCell ⟨w.heap.size + 1, 0, none⟩ (.int .i64 m)).setCell ⟨w.heap.size + 1, 1, none⟩ (.slice la us.length lc)).cell? ⟨w.heap.size + 1, 1, none⟩ = some (.slice la us.length lc) := by
      have zb := ((ZW.out.keep B1.out).set 0 (.int .i64 m)).set 1 (.slice la us.length lc)
      exact (zb.eq (C' := #[.int .i64 m, .slice la us.length lc]) (by simp)).cells2
    obtain ⟨W9, hW9⟩ : ∃ W9, W9 = ((w1.setCell ⟨w.heap.size + 1, 0, none⟩ (.int .i64 m)).setCell ⟨w.heap.size + 1, 1, none⟩ (.slice la us.length lc)) := ⟨_, rfl⟩
    rw [← hW9] at z0 F ⊢
    obtain ⟨z0, z1⟩ := z0
    clear hW9 y0 y1 fy
    go_wp2_with fail
    refine bodyPost_ret (v := .agg #[.int .i64 m, .slice la us.length lc]) (by simp [results, Try.results55, go_sem, z0, z1]) rfl ?_
    exact ⟨_, us, rfl, F.out.1.low BW.out.size, E1.out, F.out.2⟩

/-- What a promise of a ballot makes of a bound. -/
def promTo (m bal : Int) : Int := if isBal bal && decide (m ≤ bal) then bal else m
def promOk (m bal : Int) : Bool := isBal bal && decide (m ≤ bal)

set_option maxRecDepth 100000 in
set_option maxHeartbeats 800000 in
theorem l6Promise (m : Int) (a : Option Addr) (n c : Nat) (bal : Int) (w : World) :
    Calls Try.prog 56 #[.agg #[.int .i64 m, .slice a n c], .int .i64 bal] w fun e w' => e = .returned (.tuple #[.agg #[.int .i64 (promTo m bal), .slice a n c], .bool (promOk m bal)]) ∧ Below w.heap.size w w' := by
  obtain ⟨W, hW⟩ : ∃ W, W = (w.alloc (.cells #[.int .i64 m, .slice a n c] 25)).alloc (.cells #[.int .i64 0, .slice none 0 0] 25) := ⟨_, rfl⟩
  have BW : Hid (Below w.heap.size w W) := by show Below _ _ _; rw [hW]; exact ((Below.refl _ _).alloc (Nat.le_refl _) _).alloc (by simp) _
  have PW : Hid (Blk W w.heap.size #[.int .i64 m, .slice a n c] 25) := by show Blk _ _ _ _; rw [hW]; exact (Blk.new _ _ _).alloc _
  have ZW : Hid (Blk W (w.heap.size + 1) #[.int .i64 0, .slice none 0 0] 25) := by show Blk _ _ _ _; rw [hW]; exact Blk.new2 _ _ _ _
  have HW : Hid (W = _) := hW
  clear hW
  have E1 : Hid (promTo m bal = if isBal bal && decide (m ≤ bal) then bal else m) := rfl
  have E2 : Hid (promOk m bal = (isBal bal && decide (m ≤ bal))) := rfl
  generalize promTo m bal = M at E1 ⊢
  generalize promOk m bal = T at E2 ⊢
  obtain ⟨p0, p1⟩ := PW.out.cells2
  obtain ⟨z0, z1⟩ := ZW.out.cells2
  have fp := PW.out.frozen
  have fz := ZW.out.frozen
  go_enter Try.func56, Try.ntmps56
  go_wp2_with fail
  rw [← HW.out]
  refine (specBal bal W).mono ?_
  rintro e w1 ⟨rfl, rfl⟩
  cases hb : isBal bal with
  | false =>
    have F1 : Hid (M = m) := by show _ = _; rw [E1.out, hb]; rfl
    have F2 : Hid (T = false) := by show _ = _; rw [E2.out, hb]; rfl
    clear E1 E2 hb
    go_wp2_with fail
    have zb := (((ZW.out.set 0 (.int .i64 m)).set 1 (.slice a n c)).eq (C' := #[.int .i64 m, .slice a n c]) (by simp)).cells2
    obtain ⟨y0, y1⟩ := zb
    refine bodyPost_ret (v := .tuple #[.agg #[.int .i64 m, .slice a n c], .bool false]) (by simp [results, Try.results56, go_sem, y0, y1]) rfl ?_
    exact ⟨by rw [F1.out, F2.out], (BW.out.setCell (by show w.heap.size ≤ w.heap.size + 1; omega) _).setCell (by show w.heap.size ≤ w.heap.size + 1; omega) _⟩
  | true =>
    by_cases hm : m ≤ bal
    · have F1 : Hid (M = bal) := by show _ = _; rw [E1.out, hb]; simp [hm]
      have F2 : Hid (T = true) := by show _ = _; rw [E2.out, hb]; simp [hm]
      have d1 : decide (bal < m) = false := decide_eq_false (by omega)
      have hm' : ¬ bal < m := by omega
      clear E1 E2 hb
      go_wp2_with fail
      have zo : Blk (w1.setCell ⟨w.heap.size, 0, none⟩ (.int .i64 bal)) (w.heap.size + 1) #[.int .i64 0, .slice none 0 0] 25 := ZW.out.other (by omega) _ _
      have zb := (((zo.set 0 (.int .i64 bal)).set 1 (.slice a n c)).eq (C' := #[.int .i64 bal, .slice a n c]) (by simp)).cells2
      obtain ⟨y0, y1⟩ := zb
      refine bodyPost_ret (v := .tuple #[.agg #[.int .i64 bal, .slice a n c], .bool true]) (by simp [results, Try.results56, go_sem, y0, y1]) rfl ?_
      exact ⟨by rw [F1.out, F2.out], ((BW.out.setCell (Nat.le_refl _) _).setCell (by show w.heap.size ≤ w.heap.size + 1; omega) _).setCell (by show w.heap.size ≤ w.heap.size + 1; omega) _⟩
    · have F1 : Hid (M = m) := by show _ = _; rw [E1.out, hb]; simp [hm]
      have F2 : Hid (T = false) := by show _ = _; rw [E2.out, hb]; simp [hm]
      have d1 : decide (bal < m) = true := decide_eq_true (by omega)
      have hm' : bal < m := by omega
      clear E1 E2 hb
      go_wp2_with fail
      have zb := (((ZW.out.set 0 (.int .i64 m)).set 1 (.slice a n c)).eq (C' := #[.int .i64 m, .slice a n c]) (by simp)).cells2
      obtain ⟨y0, y1⟩ := zb
      refine bodyPost_ret (v := .tuple #[.agg #[.int .i64 m, .slice a n c], .bool false]) (by simp [results, Try.results56, go_sem, y0, y1]) rfl ?_
      exact ⟨by rw [F1.out, F2.out], (BW.out.setCell (by show w.heap.size ≤ w.heap.size + 1; omega) _).setCell (by show w.heap.size ≤ w.heap.size + 1; omega) _⟩
end Go.Proofs.Ytfifiobcmdmefaa.Own

namespace Go.Proofs.Ytfifiobcmdmefaa.Own
open Go.RowKit
set_option linter.unusedVariables false
set_option linter.unusedSimpArgs false

theorem C8.get {w : World} {g o : Nat} {x : VM} (h : C8 w g o x) (r : Nat) (hr : r < 8) : w.cell? ⟨g, o + r, none⟩ = x.cells.toList[r]? := by
  obtain ⟨h0, h1, h2, h3, h4, h5, h6, h7⟩ := h
  match r, hr with
  | 0, _ => exact h0
  | 1, _ => exact h1
  | 2, _ => exact h2
  | 3, _ => exact h3
  | 4, _ => exact h4
  | 5, _ => exact h5
  | 6, _ => exact h6
  | 7, _ => exact h7
theorem set8_heap {w : World} {g o : Nat} {cur : Array Value} {t : TypeId} (h : w.heap[g]? = some (.cells cur t (0, 0))) (y : VM) : ∃ cur', (set8 w g o y).heap[g]? = some (.cells cur' t (0, 0)) ∧ cur'.size = cur.size := by
  have hs : ∀ (u : World) (D : Array Value) (o : Nat) (v : Value), u.heap[g]? = some (.cells D t (0, 0)) → (u.setCell ⟨g, o, none⟩ v).heap[g]? = some (.cells (D.setIfInBounds o v) t (0, 0)) := fun u D o v h => by simp [World.setCell, Array.getElem?_modify, h]
  unfold set8
  exact ⟨_, hs _ _ _ _ (hs _ _ _ _ (hs _ _ _ _ (hs _ _ _ _ (hs _ _ _ _ (hs _ _ _ _ (hs _ _ _ _ (hs _ _ _ _ h))))))), by simp⟩
theorem set8_keep (w : World) (g o : Nat) (y : VM) (b : Nat) (hne : b ≠ g) : (set8 w g o y).heap[b]? = w.heap[b]? := by
  unfold set8
  rw [Below.heap_setCell _ _ _ _ hne, Below.heap_setCell _ _ _ _ hne, Below.heap_setCell _ _ _ _ hne, Below.heap_setCell _ _ _ _ hne, Below.heap_setCell _ _ _ _ hne, Below.heap_setCell _ _ _ _ hne, Below.heap_setCell _ _ _ _ hne, Below.heap_setCell _ _ _ _ hne]

theorem OwnL.put {w0 w : World} {B g : Nat} {v : Value} {vs : List VM} (h0 : OwnL w0 B v vs) (hb : Below w0.heap.size w0 w) {y : VM} (hy : OneOwn w w0.heap.size y) (hB : B ≤ w0.heap.size) (i : Nat) (hi : i < vs.length) (hg : v.ownBlock = some g) :
    OwnL (set8 w g (i * 8) y) B v (vs.set i y) := by
  have hne : vs ≠ [] := fun e => by rw [e] at hi; simp at hi
  obtain ⟨g', cap', hv', hcap', ho, hs⟩ := h0.vs hne
  obtain rfl : g' = g := by rw [hv'] at hg; simpa [Value.ownBlock] using hg
  obtain ⟨pv, ps⟩ := ho.put hs hb hy hB i hi
  have h := h0.keep hb
  have S := set8_size w g' (i * 8) y
  have len : (vs.set i y).length = vs.length := List.length_set
  have yb : ∀ b, (blk1 y = some b ∨ blk2 y = some b) → b ≠ g' := fun b e => by
    have := ho.lt
    rcases e with e | e
    · have := hy.b1 b e; omega
    · have := hy.b2 b e; omega
  refine ⟨?_, fun j hj => ?_, fun j hj k hk => ?_, ps.all⟩
  · obtain ⟨hl, hr⟩ := h.row
    rcases hr with ⟨e, _⟩ | ⟨g2, cap, cur, e, hbg, hh, hc1, hc2, hsz, htk⟩
    · rw [e] at hv'; cases hv'
    obtain rfl : g2 = g' := by rw [e] at hg; simpa [Value.ownBlock] using hg
    obtain ⟨cur', hh', hsz'⟩ := set8_heap (o := i * 8) hh y
    refine ⟨by rw [flat8_length], .inr ⟨g2, cap, cur', by rw [len]; exact e, hbg, hh', by rw [len]; exact hc1, hc2, by rw [hsz']; exact hsz, ?_⟩⟩
    rw [len]
    apply List.ext_getElem?
    intro j
    by_cases hj : j < vs.length * 8
    · rw [List.getElem?_take_of_lt hj]
      have hk : j / 8 < (vs.set i y).length := by rw [len]; omega
      have hr : j % 8 < 8 := Nat.mod_lt _ (by omega)
      have e1 := (pv.cell (j / 8) hk).get (j % 8) hr
      have e2 := flat8_get (vs.set i y) (j / 8) (j % 8) hk hr
      rw [show j / 8 * 8 + j % 8 = j by omega] at e1 e2
      rw [e2, ← e1, cell_heap hh']
      simp
    · rw [List.getElem?_eq_none (by rw [List.length_take]; omega), List.getElem?_eq_none (by rw [flat8_length, len]; omega)]
  · have hj' : j < vs.length := by rw [len] at hj; exact hj
    rw [getD_setV _ _ _ _ hi]
    by_cases e : i = j
    · rw [if_pos e]
      exact (hy.weaken hB).blk (Nat.le_of_eq S.symm) fun b eb => set8_keep _ _ _ _ _ (yb b eb)
    · rw [if_neg e]
      refine (h.one j hj').blk (Nat.le_of_eq S.symm) fun b eb => set8_keep _ _ _ _ _ fun e2 => ?_
      have o := h.out j hj' g' hg
      rcases eb with eb | eb
      · exact o.1 (by rw [← e2]; exact eb)
      · exact o.2 (by rw [← e2]; exact eb)
  · have ek : g' = k := by rw [hg] at hk; injection hk
    rw [← ek]
    exact ps.one j hj
end Go.Proofs.Ytfifiobcmdmefaa.Own

namespace Go.Proofs.Ytfifiobcmdmefaa.Own
open Go.RowKit
set_option linter.unusedVariables false
set_option linter.unusedSimpArgs false

/-- Votes with one put at a place, the list made long enough. -/
def castB (bs : List V) (s : Nat) (x : V) : List V := (bs ++ List.replicate (s + 1 - bs.length) (0, e0)).set s x
theorem bodies_pad (us : List VM) (k : Nat) : bodies (padV us k) = bodies us ++ List.replicate k (0, e0) := by
  simp only [bodies, padV, List.map_append, List.map_replicate]
  rfl
theorem bodies_set (us : List VM) (i : Nat) (y : VM) : bodies (us.set i y) = (bodies us).set i y.body := by simp [bodies, List.map_set]
def castOk (m bal slot : Int) (e : EB) : Bool := promOk m bal && ((decide (0 ≤ slot) && decide (slot < 40)) && rightE e)
def CastPost (m bal slot : Int) (xb : EB) (bs : List V) (B : Nat) (w0 : World) (e : Ending) (w' : World) : Prop := ∃ lv us', e = .returned (.tuple #[.agg #[.int .i64 (if castOk m bal slot xb then bal else m), lv], .bool (castOk m bal slot xb)]) ∧ OwnL w' B lv us' ∧ bodies us' = (if castOk m bal slot xb then castB bs slot.toNat (bal, xb) else bs) ∧ Below B w0 w'
theorem Sl.sameB {w w' : World} {a : Option Addr} {xs : List P2} (h : Sl w a xs) (hs : w.heap.size ≤ w'.heap.size) (hb : ∀ p, a = some p → p.block < w.heap.size → w'.heap[p.block]? = w.heap[p.block]?) : Sl w' a xs := by
  rcases h with h | ⟨b, off, rfl, h⟩
  · exact .inl h
  · exact .inr ⟨b, off, rfl, h.block hs (hb _ rfl h.1)⟩
/-- A block that holds none of it has turned. -/
theorem OwnL.onlyOut {w w' : World} {B b : Nat} {v : Value} {vs : List VM} (h : OwnL w B v vs) (on : Only b w w') (hn : v.ownBlock ≠ some b ∧ ∀ i, i < vs.length → blk1 (vs.getD i v0) ≠ some b ∧ blk2 (vs.getD i v0) ≠ some b) : OwnL w' B v vs := by
  refine ⟨⟨h.row.1, ?_⟩, fun i hi => (h.one i hi).blk (Nat.le_of_eq on.size.symm) fun c e => on.block c ?_, h.out, h.all⟩
  · rcases h.row.2 with h2 | ⟨g, cap, cur, hv, hg, hh, r⟩
    · exact .inl h2
    · exact .inr ⟨g, cap, cur, hv, hg, by rw [on.block g (fun e => hn.1 (by rw [hv, ← e]; rfl))]; exact hh, r⟩
  · have := hn.2 i hi
    intro e2
    rw [e2] at e
    rcases e with e | e
    · exact this.1 e
    · exact this.2 e
end Go.Proofs.Ytfifiobcmdmefaa.Own

namespace Go.Proofs.Ytfifiobcmdmefaa.Own
open Go.RowKit
set_option linter.unusedVariables false
set_option linter.unusedSimpArgs false

/-- How long the list is that lies in a block's second cell. -/
def lenAt (w : World) (b : Nat) : Nat := match w.cell? ⟨b, 1, none⟩ with
  | some (.slice _ n _) => n
  | _ => 0
theorem lenAt_blk {w : World} {b : Nat} {x : Value} {a : Option Addr} {n c : Nat} {t : TypeId} (h : Blk w b #[x, .slice a n c] t) : lenAt w b = n := by
  unfold lenAt
  rw [h.cells2.2]
/-- Of the blocks that were there none has turned but the list's and one more. -/
structure But2 (ro : Option Nat) (C : Nat) (w w' : World) : Prop where
  os : w'.os = w.os
  tape : w'.tape = w.tape
  output : w'.output = w.output
  size : w.heap.size ≤ w'.heap.size
  block : ∀ b, b < w.heap.size → ro ≠ some b → b ≠ C → w'.heap[b]? = w.heap[b]?
theorem But2.refl (ro : Option Nat) (C : Nat) (w : World) : But2 ro C w w := ⟨rfl, rfl, rfl, Nat.le_refl _, fun _ _ _ _ => rfl⟩

set_option maxRecDepth 100000 in
set_option maxHeartbeats 1500000 in
theorem l6Cast (m : Int) (la : Option Addr) (lc : Nat) (us : List VM) (bal slot : Int) (n : Bool) (p q : Int) (a1 a2 : Option Addr) (c1 c2 : Nat) (xs ys : List P2) (v k : Int) (B : Nat) (w : World)
    (h : OwnL w B (.slice la us.length lc) us) (hB : B ≤ w.heap.size) (hu : us.length ≤ 2 ^ 29) (h1 : Sl w a1 xs) (h2 : Sl w a2 ys) (n1 : xs.length ≤ 2 ^ 40) (n2 : ys.length ≤ 2 ^ 40) (hc1 : xs.length ≤ c1) (hc2 : ys.length ≤ c2)
    (ap1 : ∀ x, a1 = some x → xs ≠ [] → (Value.slice la us.length lc).ownBlock ≠ some x.block) (ap2 : ∀ x, a2 = some x → ys ≠ [] → (Value.slice la us.length lc).ownBlock ≠ some x.block) :
    Calls Try.prog 54 #[.agg #[.int .i64 m, .slice la us.length lc], .int .i64 bal, .int .i64 slot, .agg #[.bool n, .int .i64 p, .int .i64 q, .slice a1 xs.length c1, .slice a2 ys.length c2, .int .i64 v, .int .i64 k]] w fun e w' => CastPost m bal slot ⟨n, p, q, xs, ys, v, k⟩ (bodies us) B w e w' := by
  obtain ⟨i0, hi, hz0, hz1, hz2⟩ := info_parts infoVoteC
  have I0 : Hid (Try.prog.info? 42 = some i0 ∧ i0.zero = some (.agg #[.int .i64 0, .bool false, .int .i64 0, .int .i64 0, .slice none 0 0, .slice none 0 0, .int .i64 0, .int .i64 0]) ∧ i0.size = 8 ∧ i0.bytes = 96) := ⟨hi, hz0, hz1, hz2⟩
  have OL : Hid (OwnL w B (.slice la us.length lc) us) := h
  have HB : Hid (B ≤ w.heap.size) := hB
  have H1 : Hid (Sl w a1 xs) := h1
  have H2 : Hid (Sl w a2 ys) := h2
  have AP : Hid ((∀ x, a1 = some x → xs ≠ [] → (Value.slice la us.length lc).ownBlock ≠ some x.block) ∧ (∀ x, a2 = some x → ys ≠ [] → (Value.slice la us.length lc).ownBlock ≠ some x.block)) := ⟨ap1, ap2⟩
  obtain ⟨W, hW⟩ : ∃ W, W = ((w.alloc (.cells #[.int .i64 m, .slice la us.length lc] 25)).alloc (.cells #[.bool n, .int .i64 p, .int .i64 q, .slice a1 xs.length c1, .slice a2 ys.length c2, .int .i64 v, .int .i64 k] 33)).alloc (.cells #[.int .i64 0, .slice none 0 0] 25) := ⟨_, rfl⟩
  have BW : Hid (Below w.heap.size w W) := by show Below _ _ _; rw [hW]; exact (((Below.refl _ _).alloc (Nat.le_refl _) _).alloc (by simp) _).alloc (by rw [size_new, size_new]; omega) _
  have PW : Hid (Blk W w.heap.size #[.int .i64 m, .slice la us.length lc] 25) := by show Blk _ _ _ _; rw [hW]; exact ((Blk.new _ _ _).alloc _).alloc _
  have EW : Hid (Blk W (w.heap.size + 1) #[.bool n, .int .i64 p, .int .i64 q, .slice a1 xs.length c1, .slice a2 ys.length c2, .int .i64 v, .int .i64 k] 33) := by show Blk _ _ _ _; rw [hW]; exact (Blk.new2 _ _ _ _).alloc _
  have ZW : Hid (Blk W (w.heap.size + 2) #[.int .i64 0, .slice none 0 0] 25) := by show Blk _ _ _ _; rw [hW]; exact Blk.new3 _ _ _ _ _
  have SW : Hid (W.heap.size = w.heap.size + 3) := by show _ = _; rw [hW]; simp
  have HW : Hid (W = _) := hW
  have RE : Hid (entOk n p q xs ys v k = rightE ⟨n, p, q, xs, ys, v, k⟩) := rfl
  have CE : Hid (∀ V, Below W.heap.size W V → Calls Try.prog 99 #[.agg #[.bool n, .int .i64 p, .int .i64 q, .slice a1 xs.length c1, .slice a2 ys.length c2, .int .i64 v, .int .i64 k]] V fun e w' => e = .returned (.bool (entOk n p q xs ys v k)) ∧ Below V.heap.size V w') := fun V hV => specCertEntry n p q a1 a2 c1 c2 xs ys v k V ((h1.below BW.out).below hV) ((h2.below BW.out).below hV) n1 n2 hc1 hc2
  obtain ⟨PB, hPB⟩ : ∃ PB, PB = ((decide (0 ≤ slot) && decide (slot < 40)) && entOk n p q xs ys v k) := ⟨_, rfl⟩
  have HPB : Hid (PB = ((decide (0 ≤ slot) && decide (slot < 40)) && entOk n p q xs ys v k)) := hPB
  have CO : Hid (castOk m bal slot ⟨n, p, q, xs, ys, v, k⟩ = (promOk m bal && PB)) := by show _ = _; rw [hPB]; rfl
  generalize entOk n p q xs ys v k = RR at CE HPB RE
  have NOT : Hid (∀ w', Below w.heap.size w w' → castOk m bal slot ⟨n, p, q, xs, ys, v, k⟩ = false → CastPost m bal slot ⟨n, p, q, xs, ys, v, k⟩ (bodies us) B w (.returned (.tuple #[.agg #[.int .i64 m, .slice la us.length lc], .bool false])) w') := fun w' hb hc => by
    refine ⟨_, us, by rw [hc]; rfl, OL.out.keep hb, by rw [hc]; rfl, hb.mono HB.out⟩
  clear hPB hW h h1 h2 ap1 ap2 hi hz0 hz1 hz2 hc1 hc2 hB
  go_enter Try.func54, Try.ntmps54
  go_upto_region 1 with fail
  rw [← HW.out]
  go_cut [22] from 12 to 22 (fun t wx => t = .bool (!PB) ∧ Below W.heap.size W wx)
  case first =>
    obtain ⟨b0, b1, b2, b3, b4, b5, b6⟩ := EW.out.cells7
    by_cases hs0 : slot < 0
    · have d0 : decide (slot < 0) = true := decide_eq_true hs0
      have pf : PB = false := by rw [HPB.out]; simp [show ¬ 0 ≤ slot by omega]
      go_wp2_with fail
      go_meet
      exact ⟨by rw [pf]; rfl, Below.refl _ _⟩
    · have d0 : decide (slot < 0) = false := decide_eq_false hs0
      by_cases hs1 : 40 ≤ slot
      · have d1 : decide (40 ≤ slot) = true := decide_eq_true hs1
        have pf : PB = false := by rw [HPB.out]; simp [show ¬ slot < 40 by omega]
        go_wp2_with fail
        go_meet
        exact ⟨by rw [pf]; rfl, Below.refl _ _⟩
      · have d1 : decide (40 ≤ slot) = false := decide_eq_false hs1
        have pf : PB = RR := by rw [HPB.out]; simp [show 0 ≤ slot by omega, show slot < 40 by omega]
        go_wp2_with fail
        refine Calls.mono (CE.out W (Below.refl _ _)) ?_
        rintro e w1 ⟨rfl, hb1⟩
        have B1 : Hid (Below W.heap.size W w1) := hb1
        clear hb1
        go_wp2_with fail
        go_meet
        exact ⟨by rw [pf], B1.out⟩
  case rest =>
    obtain ⟨w1, h1e⟩ : ∃ x, x = wc := ⟨_, rfl⟩
    subst h1e
    obtain ⟨rfl, hb1⟩ := hcut
    have B1 : Hid (Below W.heap.size W w1) := hb1
    have P1 : Hid (Blk w1 w.heap.size #[.int .i64 m, .slice la us.length lc] 25) := PW.out.keep hb1
    have Z1 : Hid (Blk w1 (w.heap.size + 2) #[.int .i64 0, .slice none 0 0] 25) := ZW.out.keep hb1
    have K1 : Hid (Below w.heap.size w w1) := BW.out.trans (hb1.mono BW.out.size)
    clear hb1
    obtain ⟨p0, p1⟩ := P1.out.cells2
    cases PB with
    | false =>
      obtain ⟨z0, z1⟩ := Z1.out.cells2
      have fz := Z1.out.frozen
      have CF : Hid (castOk m bal slot ⟨n, p, q, xs, ys, v, k⟩ = false) := by show _ = _; rw [CO.out, Bool.and_false]
      go_wp2_with fail
      have zb := (((Z1.out.set 0 (.int .i64 m)).set 1 (.slice la us.length lc)).eq (C' := #[.int .i64 m, .slice la us.length lc]) (by simp)).cells2
      obtain ⟨y0, y1⟩ := zb
      refine bodyPost_ret (v := .tuple #[.agg #[.int .i64 m, .slice la us.length lc], .bool false]) (by simp [results, Try.results54, go_sem, y0, y1]) rfl ?_
      exact NOT.out _ ((K1.out.setCell (by show w.heap.size ≤ w.heap.size + 2; omega) _).setCell (by show w.heap.size ≤ w.heap.size + 2; omega) _) CF.out
    | true =>
      have SR : Hid ((0 ≤ slot ∧ slot < 40) ∧ RR = true) := by
        have := HPB.out
        show _ ∧ _
        revert this
        cases RR <;> simp
      go_wp2_with fail
      refine (l6Promise m la us.length lc bal w1).mono ?_
      rintro e w2 ⟨rfl, hb2⟩
      have B2 : Hid (Below w1.heap.size w1 w2) := hb2
      have P2 : Hid (Blk w2 w.heap.size #[.int .i64 m, .slice la us.length lc] 25) := P1.out.keep hb2
      have Z2 : Hid (Blk w2 (w.heap.size + 2) #[.int .i64 0, .slice none 0 0] 25) := Z1.out.keep hb2
      have E2 : Hid (Blk w2 (w.heap.size + 1) #[.bool n, .int .i64 p, .int .i64 q, .slice a1 xs.length c1, .slice a2 ys.length c2, .int .i64 v, .int .i64 k] 33) := EW.out.keep (B1.out.trans (hb2.mono B1.out.size))
      have K2 : Hid (Below w.heap.size w w2) := K1.out.trans (hb2.mono K1.out.size)
      have S2 : Hid (w.heap.size + 3 ≤ w2.heap.size) := by show _ ≤ _; have := SW.out; have := B1.out.size; have := hb2.size; omega
      clear hb2 p0 p1
      have PT : Hid (promOk m bal = true → promTo m bal = bal) := fun h => by unfold promTo; unfold promOk at h; rw [if_pos h]
      generalize promOk m bal = PK at PT CO ⊢
      cases PK with
      | false =>
        obtain ⟨p0, p1⟩ := P2.out.cells2
        obtain ⟨z0, z1⟩ := Z2.out.cells2
        have fz := Z2.out.frozen
        have CF : Hid (castOk m bal slot ⟨n, p, q, xs, ys, v, k⟩ = false) := CO.out
        clear PT
        generalize promTo m bal = PM
        go_upto_region 4 with fail
        obtain ⟨X, hX⟩ : ∃ X, X = w2.alloc (.cells #[.int .i64 PM, .slice la us.length lc] 25) := ⟨_, rfl⟩
        rw [← hX]
        have BX : Below w2.heap.size w2 X := by rw [hX]; exact (Below.refl _ _).alloc (Nat.le_refl _) _
        have PX : Hid (Blk X w.heap.size #[.int .i64 m, .slice la us.length lc] 25) := P2.out.keep BX
        have ZX : Hid (Blk X (w.heap.size + 2) #[.int .i64 0, .slice none 0 0] 25) := Z2.out.keep BX
        have KX : Hid (Below w.heap.size w X) := K2.out.trans (BX.mono K2.out.size)
        clear hX BX p0 p1 z0 z1 fz
        obtain ⟨p0, p1⟩ := PX.out.cells2
        obtain ⟨z0, z1⟩ := ZX.out.cells2
        have fz := ZX.out.frozen
        go_wp2_with fail
        have zb := (((ZX.out.set 0 (.int .i64 m)).set 1 (.slice la us.length lc)).eq (C' := #[.int .i64 m, .slice la us.length lc]) (by simp)).cells2
        obtain ⟨y0, y1⟩ := zb
        refine bodyPost_ret (v := .tuple #[.agg #[.int .i64 m, .slice la us.length lc], .bool false]) (by simp [results, Try.results54, go_sem, y0, y1]) rfl ?_
        exact NOT.out _ ((KX.out.setCell (by show w.heap.size ≤ w.heap.size + 2; omega) _).setCell (by show w.heap.size ≤ w.heap.size + 2; omega) _) CF.out
      | true =>
        have pm : promTo m bal = bal := PT.out rfl
        rw [pm]
        have CT : Hid (castOk m bal slot ⟨n, p, q, xs, ys, v, k⟩ = true) := CO.out
        clear pm PT CO NOT
        go_upto_region 4 with fail
        obtain ⟨X, hX⟩ : ∃ X, X = w2.alloc (.cells #[.int .i64 bal, .slice la us.length lc] 25) := ⟨_, rfl⟩
        rw [← hX]
        obtain ⟨C, hC⟩ : ∃ C, C = w2.heap.size := ⟨_, rfl⟩
        rw [← hC]
        have BX : Below w2.heap.size w2 X := by rw [hX]; exact (Below.refl _ _).alloc (Nat.le_refl _) _
        have CX : Hid (Blk X C #[.int .i64 bal, .slice la us.length lc] 25) := by show Blk _ _ _ _; rw [hX, hC]; exact Blk.new _ _ _
        have EX : Hid (Blk X (w.heap.size + 1) #[.bool n, .int .i64 p, .int .i64 q, .slice a1 xs.length c1, .slice a2 ys.length c2, .int .i64 v, .int .i64 k] 33) := E2.out.keep BX
        have ZX : Hid (Blk X (w.heap.size + 2) #[.int .i64 0, .slice none 0 0] 25) := Z2.out.keep BX
        have KX : Hid (Below w.heap.size w X) := K2.out.trans (BX.mono K2.out.size)
        have SX : Hid (w.heap.size + 3 ≤ C ∧ X.heap.size = C + 1) := ⟨by have := S2.out; omega, by rw [hX, hC]; simp⟩
        have OX : Hid (OwnL X B (.slice la us.length lc) us) := OL.out.keep KX.out
        obtain ⟨s, rfl⟩ := Int.eq_ofNat_of_zero_le SR.out.1.1
        have hs40 : s < 40 := by have := SR.out.1.2; omega
        have RO : Hid (∀ g, (Value.slice la us.length lc).ownBlock = some g → g < w.heap.size) := ownsRow_lt8 OL.out.row
        obtain ⟨ro, hro⟩ : ∃ ro, ro = (Value.slice la us.length lc).ownBlock := ⟨_, rfl⟩
        have HRO : Hid (ro = (Value.slice la us.length lc).ownBlock) := hro
        have NB0 : Hid (∀ b, w.heap.size ≤ b → ∀ i, blk1 (us.getD i v0) ≠ some b ∧ blk2 (us.getD i v0) ≠ some b) := fun b hb i => by
          by_cases hi : i < us.length
          · have o := OL.out.one i hi
            exact ⟨fun e => by have := (o.b1 b e).2; omega, fun e => by have := (o.b2 b e).2; omega⟩
          · rw [getD_past (Nat.le_of_not_lt hi)]
            exact ⟨fun e => (by simp [blk1, blkOf, v0, e0] at e), fun e => (by simp [blk2, blkOf, v0, e0] at e)⟩
        have NB : Hid (∀ j i, i < (padV us j).length → blk1 ((padV us j).getD i v0) ≠ some C ∧ blk2 ((padV us j).getD i v0) ≠ some C) := fun j i hi => by
          rw [padV_getD]
          exact NB0.out C (by have := SX.out.1; omega) i
        clear hX BX hC SR hro
        go_wp2_with fail
        go_loopw [] (fun wr => ∃ (j : Nat) (a3 : Option Addr) (c3 : Nat), j ≤ s + 1 - us.length ∧ Hid (Blk wr C #[.int .i64 bal, .slice a3 (us.length + j) c3] 25) ∧ Hid (OwnL wr B (.slice a3 (us.length + j) c3) (padV us j)) ∧ Hid (But2 ro C X wr) ∧ Hid ((Value.slice a3 (us.length + j) c3).ownBlock = ro ∨ ∀ g, (Value.slice a3 (us.length + j) c3).ownBlock = some g → X.heap.size ≤ g)) (fun wr => s + 1 - lenAt wr C)
        case atStart => exact ⟨0, la, lc, Nat.zero_le _, CX.out, by show OwnL _ _ _ _; simpa [padV] using OX.out, But2.refl _ _ _, .inl HRO.out.symm⟩
        case round =>
          obtain ⟨j, a3, c3, hj, CR, OR, BR, AR⟩ := hrel
          by_cases hlt : us.length + j ≤ s
          · have hji : ((us.length + j : Nat) : Int) ≤ (s : Int) := by omega
            have hjd : decide (((us.length + j : Nat) : Int) ≤ (s : Int)) = true := decide_eq_true hji
            have BA : Hid (Below wr.heap.size wr (wr.alloc (.cells v0.cells 42))) := (Below.refl _ _).alloc (Nat.le_refl _) _
            have sX := BR.out.size
            have sB := HB.out
            have sC := SX.out
            have kX := KX.out.size
            have RW : Hid ((wr.alloc (.cells v0.cells 42)).ownsRow B 42 8 (.slice a3 (us.length + j) c3) (us.length + j) (flat8 (padV us j))) := by
              have := (OR.out.keep BA.out).row
              rw [padV_len] at this
              exact this
            obtain ⟨m0, m1⟩ := CR.out.cells2
            go_wp2_with (at_builtin; go_loud (refine wpList_append_lies _ rfl (.tmp 39) (.tmp 41) 23 rfl B 42 i0 _ 8 96 Try.underlying23 I0.out.1 I0.out.2.1 I0.out.2.2.1 I0.out.2.2.2 rfl (by decide) (.slice a3 (us.length + j) c3) (us.length + j) (flat8 (padV us j)) rfl RW.out ⟨wr.heap.size, 0, none⟩ 1 1 v0.cells.toList rfl rfl (eight_new wr v0) (cells_one v0) (by decide) (by unfold maxLen; omega) (by omega) (by rw [size_new]; omega) (wr.heap.size + 1) (size_new _ _) ?_))
            intro g4 cap4 w4 hown4 hgr hloc hg4
            have OW4 : Hid (OwnL w4 B (.slice (some ⟨g4, 0, none⟩) (us.length + (j + 1)) cap4) (padV us (j + 1))) := by
              show OwnL _ _ _ _
              rw [padV_succ]
              exact OR.out.snoc BA.out (one_v0 _ _) (by omega) (by rw [padV_len]; exact hown4) hgr (fun g hg => by
                simp only [Value.ownBlock] at hg
                injection hg with hg
                rcases hloc with hloc | hloc
                · left; rw [hloc, hg]
                · right; rw [size_new]; omega)
            have NC : (Value.slice a3 (us.length + j) c3).ownBlock ≠ some C := fun e => by
              rcases AR.out with ar | ar
              · have := RO.out C (by rw [← HRO.out, ← ar]; exact e); omega
              · have := ar C e; omega
            have blk4 : ∀ b, b < wr.heap.size → (Value.slice a3 (us.length + j) c3).ownBlock ≠ some b → w4.heap[b]? = wr.heap[b]? := fun b hb hn => (hgr.block b (by rw [size_new]; omega) (fun e => hn e.symm)).trans (heap_old _ _ _ hb)
            have C4 : Hid (Blk w4 C #[.int .i64 bal, .slice a3 (us.length + j) c3] 25) := by
              show Blk _ _ _ _
              unfold Blk
              rw [blk4 C CR.out.lt NC]; exact CR.out
            have N4 : Hid (But2 ro C X w4) := ⟨hgr.os.trans BR.out.os, hgr.tape.trans BR.out.tape, hgr.output.trans BR.out.output, by have := hgr.size; rw [size_new] at this; omega, fun b hb h1 h2 => (blk4 b (by omega) (fun e => by
              rcases AR.out with ar | ar
              · exact h1 (by rw [← ar]; exact e)
              · have := ar b e; omega)).trans (BR.out.block b hb h1 h2)⟩
            have A4 : Hid ((Value.slice (some ⟨g4, 0, none⟩) (us.length + (j + 1)) cap4).ownBlock = ro ∨ ∀ g, (Value.slice (some ⟨g4, 0, none⟩) (us.length + (j + 1)) cap4).ownBlock = some g → X.heap.size ≤ g) := by
              show _ ∨ _
              rcases hloc with hl | hl
              · rcases AR.out with ar | ar
                · left; rw [← ar, hl]; rfl
                · right
                  intro g hg
                  simp only [Value.ownBlock] at hg
                  injection hg with hg
                  have := ar g4 hl
                  omega
              · right
                intro g hg
                simp only [Value.ownBlock] at hg
                injection hg with hg
                omega
            clear hown4 hgr hloc hg4 m0 m1 blk4 NC
            obtain ⟨m0, m1⟩ := C4.out.cells2
            have fr := C4.out.frozen
            go_wp2_with fail
            have CN : Blk (w4.setCell ⟨C, 1, none⟩ (.slice (some ⟨g4, 0, none⟩) (us.length + (j + 1)) cap4)) C #[.int .i64 bal, .slice (some ⟨g4, 0, none⟩) (us.length + (j + 1)) cap4] 25 := (C4.out.set 1 _).eq (by simp)
            have on : Only C w4 (w4.setCell ⟨C, 1, none⟩ (.slice (some ⟨g4, 0, none⟩) (us.length + (j + 1)) cap4)) := (Only.refl _ _).setCell _
            refine ⟨⟨j + 1, some ⟨g4, 0, none⟩, cap4, by omega, CN, OW4.out.onlyOut on ⟨fun e => ?_, NB.out (j + 1)⟩, ⟨on.os.trans N4.out.os, on.tape.trans N4.out.tape, on.output.trans N4.out.output, Nat.le_trans N4.out.size (Nat.le_of_eq on.size.symm), fun b hb h1 h2 => (on.block b h2).trans (N4.out.block b hb h1 h2)⟩, A4.out⟩, ?_⟩
            · rcases A4.out with ar | ar
              · have := RO.out C (by rw [← HRO.out, ← ar]; exact e); omega
              · have := ar C e; omega
            · have e1 := lenAt_blk CN
              have e2 := lenAt_blk CR.out
              first
                | (rw [e2]; have e3 := e1; simp only [Nat.add_assoc] at *; omega)
                | omega
          · have hji : ¬ ((us.length + j : Nat) : Int) ≤ (s : Int) := by omega
            have hjd : decide (((us.length + j : Nat) : Int) ≤ (s : Int)) = false := decide_eq_false hji
            obtain ⟨Ln, hd⟩ : ∃ Ln, us.length + j = Ln := ⟨_, rfl⟩
            have hsl : s < Ln := by omega
            have hsi : (s : Int) < (Ln : Int) := by omega
            have hjs : j = s + 1 - us.length := by omega
            obtain ⟨U, hU⟩ : ∃ U, U = padV us j := ⟨_, rfl⟩
            have UL : Hid (U.length = Ln) := by show _ = _; rw [hU, padV_len, hd]
            have UB : Hid (bodies U = bodies us ++ List.replicate (s + 1 - (bodies us).length) (0, e0)) := by show _ = _; rw [hU, bodies_pad, bodies_len, ← hjs]
            have NU : Hid (∀ b, w.heap.size ≤ b → ∀ i, i < U.length → blk1 (U.getD i v0) ≠ some b ∧ blk2 (U.getD i v0) ≠ some b) := fun b hb i hi => by
              rw [hU, padV_getD]
              exact NB0.out b hb i
            rw [hd] at CR OR AR
            rw [← hU] at OR
            clear hU
            have sX := BR.out.size
            have sC := SX.out
            have sB := HB.out
            have kX := KX.out.size
            have hne : U ≠ [] := fun e => by have := UL.out; rw [e] at this; simp at this; omega
            obtain ⟨g, capg, hgv, _, ov, _⟩ := (show OwnL wr B (.slice a3 Ln c3) U from OR.out).vs hne
            obtain rfl : a3 = some ⟨g, 0, none⟩ := by injection hgv with e1 e2 e3
            have AG : Hid ((Value.slice (some ⟨g, 0, none⟩) Ln c3).ownBlock = some g) := rfl
            have NG : Hid (C ≠ g ∧ w.heap.size + 1 ≠ g ∧ w.heap.size + 2 ≠ g) := by
              show _ ∧ _
              rcases AR.out with ar | ar
              · have := RO.out g (by rw [← HRO.out, ← ar]; exact AG.out); omega
              · have := ar g AG.out; omega
            have NRO : ∀ b, w.heap.size ≤ b → ro ≠ some b := fun b hb e => by have := RO.out b (by rw [← HRO.out]; exact e); omega
            have ER : Hid (Blk wr (w.heap.size + 1) #[.bool n, .int .i64 p, .int .i64 q, .slice a1 xs.length c1, .slice a2 ys.length c2, .int .i64 v, .int .i64 k] 33) := by
              show Blk _ _ _ _
              unfold Blk
              rw [BR.out.block _ EX.out.lt (NRO _ (by omega)) (by omega)]; exact EX.out
            have ZR : Hid (Blk wr (w.heap.size + 2) #[.int .i64 0, .slice none 0 0] 25) := by
              show Blk _ _ _ _
              unfold Blk
              rw [BR.out.block _ ZX.out.lt (NRO _ (by omega)) (by omega)]; exact ZX.out
            have BWR : Hid (Below B w wr) := ⟨BR.out.os.trans KX.out.os, BR.out.tape.trans KX.out.tape, BR.out.output.trans KX.out.output, Nat.le_trans kX sX, fun b hb => (BR.out.block b (by omega) (fun e => by
              have hr := OL.out.from b (by rw [← HRO.out]; exact e)
              omega) (by omega)).trans (KX.out.block b (by omega))⟩
            have SLW : ∀ (a : Option Addr) (zs : List (Int × Int)), Sl w a zs → (∀ x, a = some x → zs ≠ [] → (Value.slice la us.length lc).ownBlock ≠ some x.block) → Sl wr a zs := fun a zs hs hap => by
              by_cases hz : zs = []
              · exact .inl hz
              · exact hs.sameB (Nat.le_trans kX sX) fun x ex hx => (BR.out.block _ (by omega) (fun e => hap x ex hz (by rw [← HRO.out]; exact e)) (by omega)).trans (KX.out.block _ hx)
            have EN : Hid (∀ V, Below wr.heap.size wr V → Calls Try.prog 100 #[.agg #[.bool n, .int .i64 p, .int .i64 q, .slice a1 xs.length c1, .slice a2 ys.length c2, .int .i64 v, .int .i64 k]] V fun e w' => ∃ g1 e1 g2 e2, e = .returned (.agg #[.bool n, .int .i64 p, .int .i64 q, .slice (some ⟨g1, 0, none⟩) xs.length e1, .slice (some ⟨g2, 0, none⟩) ys.length e2, .int .i64 v, .int .i64 k]) ∧ RunE w' V.heap.size g1 e1 g2 e2 xs ys ∧ Below V.heap.size V w') := fun V hV => l5EntryX n p q a1 a2 c1 c2 xs ys v k V ((SLW a1 xs H1.out AP.out.1).below hV) ((SLW a2 ys H2.out AP.out.2).below hV) n1 n2
            have AF : Hid (∀ V, Below wr.heap.size wr V → V.cell? ⟨C, 1, none⟩ = some (.slice (some ⟨g, 0, none⟩) Ln c3) ∧ V.cell? ⟨w.heap.size + 1, 0, none⟩ = some (.bool n) ∧ V.cell? ⟨w.heap.size + 1, 1, none⟩ = some (.int .i64 p) ∧ V.cell? ⟨w.heap.size + 1, 2, none⟩ = some (.int .i64 q) ∧ V.cell? ⟨w.heap.size + 1, 3, none⟩ = some (.slice a1 xs.length c1) ∧ V.cell? ⟨w.heap.size + 1, 4, none⟩ = some (.slice a2 ys.length c2) ∧ V.cell? ⟨w.heap.size + 1, 5, none⟩ = some (.int .i64 v) ∧ V.cell? ⟨w.heap.size + 1, 6, none⟩ = some (.int .i64 k)) := fun V hV => ⟨(CR.out.keep hV).cells2.2, (ER.out.keep hV).cells7⟩
            obtain ⟨V, hV⟩ : ∃ V, V = wr.drew := ⟨_, rfl⟩
            have HV : Hid (V = wr.drew) := hV
            have BV : Hid (Below wr.heap.size wr V) := by show Below _ _ _; rw [hV]; exact (Below.refl _ _).drew
            have BVB : Hid (B ≤ V.heap.size) := by show _ ≤ _; have := BV.out.size; omega
            have OLV : Hid (OwnL V B (.slice (some ⟨g, 0, none⟩) Ln c3) U) := (show OwnL wr B (.slice (some ⟨g, 0, none⟩) Ln c3) U from OR.out).keep BV.out
            have OV : Hid (OwnVs V B g U) := by
              show OwnVs _ _ _ _
              obtain ⟨g', capg', hgv', _, ov', _⟩ := OLV.out.vs hne
              have : g' = g := by injection hgv' with e1 e2 e3; injection e1 with e1; injection e1 with e1; exact e1.symm
              rw [← this]; exact ov'
            have NO : Hid (∀ y, OneOwn V V.heap.size y → True) := fun _ _ => trivial
            obtain ⟨m0, m1⟩ := CR.out.cells2
            obtain ⟨b0, b1, b2, b3, b4, b5, b6⟩ := ER.out.cells7
            have pv := AF.out V BV.out
            have pu := AF.out wr (Below.refl _ _)
            clear hV hgv ov hne SLW NRO
            go_upto_region 8 with fail
            refine wp_region_held_drew (S := (fun w' : World => w'.cell? ⟨C, 1, none⟩ = some (.slice (some ⟨g, 0, none⟩) Ln c3) ∧ w'.cell? ⟨w.heap.size + 1, 0, none⟩ = some (.bool n) ∧ w'.cell? ⟨w.heap.size + 1, 1, none⟩ = some (.int .i64 p) ∧ w'.cell? ⟨w.heap.size + 1, 2, none⟩ = some (.int .i64 q) ∧ w'.cell? ⟨w.heap.size + 1, 3, none⟩ = some (.slice a1 xs.length c1) ∧ w'.cell? ⟨w.heap.size + 1, 4, none⟩ = some (.slice a2 ys.length c2) ∧ w'.cell? ⟨w.heap.size + 1, 5, none⟩ = some (.int .i64 v) ∧ w'.cell? ⟨w.heap.size + 1, 6, none⟩ = some (.int .i64 k))) (by kernel_rfl) pu (fun hHeld => ?_)
            rw [← HV.out]
            refine wpAnyH_take (i := 0) (v := ?vt0) rfl (by kernel_rfl) (by kernel_rfl) (by kernel_rfl) (fun _ _ _ h => h) (Or.inl ⟨by rfl, ?yt0⟩) (by assumption) ?rt0
            case yt0 =>
              intro w' hSw
              try dsimp only at hSw
              go_simp
              try with_reducible rfl
            simp only [Act.put, List.getElem_toArray, List.getElem_cons_succ, List.getElem_cons_zero, List.setIfInBounds_toArray, List.set_cons_zero, List.set_cons_succ]
            refine wpAnyH_take (i := 1) (v := ?vt1) rfl (by kernel_rfl) (by kernel_rfl) (by kernel_rfl) (fun _ _ _ h => h) (Or.inl ⟨by rfl, ?yt1⟩) (by assumption) ?rt1
            case yt1 =>
              intro w' hSw
              try dsimp only at hSw
              go_simp
              try with_reducible rfl
            simp only [Act.put, List.getElem_toArray, List.getElem_cons_succ, List.getElem_cons_zero, List.setIfInBounds_toArray, List.set_cons_zero, List.set_cons_succ]
            refine wpAnyH_take (i := 2) (v := ?vt2) rfl (by kernel_rfl) (by kernel_rfl) (by kernel_rfl) (fun _ _ _ h => h) (Or.inl ⟨by rfl, ?yt2⟩) (by assumption) ?rt2
            case yt2 =>
              intro w' hSw
              try dsimp only at hSw
              go_simp
              try with_reducible rfl
            simp only [Act.put, List.getElem_toArray, List.getElem_cons_succ, List.getElem_cons_zero, List.setIfInBounds_toArray, List.set_cons_zero, List.set_cons_succ]
            refine wpAnyH_take (i := 3) (v := ?vt3) rfl (by kernel_rfl) (by kernel_rfl) (by kernel_rfl) (fun _ _ _ h => h) (Or.inl ⟨by rfl, ?yt3⟩) (by assumption) ?rt3
            case yt3 =>
              intro w' hSw
              try dsimp only at hSw
              go_simp
              try with_reducible rfl
            simp only [Act.put, List.getElem_toArray, List.getElem_cons_succ, List.getElem_cons_zero, List.setIfInBounds_toArray, List.set_cons_zero, List.set_cons_succ]
            refine wpAnyH_take (i := 4) (v := ?vt4) rfl (by kernel_rfl) (by kernel_rfl) (by kernel_rfl) (fun _ _ _ h => h) (Or.inl ⟨by rfl, ?yt4⟩) (by assumption) ?rt4
            case yt4 =>
              intro w' hSw
              try dsimp only at hSw
              go_simp
              try with_reducible rfl
            simp only [Act.put, List.getElem_toArray, List.getElem_cons_succ, List.getElem_cons_zero, List.setIfInBounds_toArray, List.set_cons_zero, List.set_cons_succ]
            refine wpAnyH_ready (rs := [5]) (by kernel_rfl) (by simp) ?_
            refine AllReadyH.cons rfl (fun K hK => ?_) AllReadyH.nil
            go_simp
            refine Calls.mono (EN.out _ BV.out) ?_
            rintro e w3 ⟨g1, e1, g2, e2, rfl, r3, b3⟩
            obtain ⟨y, hy⟩ : ∃ y : VM, y = ⟨bal, ⟨n, p, q, xs, ys, v, k⟩, some ⟨g1, 0, none⟩, e1, some ⟨g2, 0, none⟩, e2⟩ := ⟨_, rfl⟩
            have YB : Hid (y.body = (bal, ⟨n, p, q, xs, ys, v, k⟩)) := by show _ = _; rw [hy]; rfl
            have Y3 : Hid (OneOwn w3 V.heap.size y) := by show OneOwn _ _ _; rw [hy]; exact RunE.one (b := ⟨n, p, q, xs, ys, v, k⟩) r3 bal
            have B3 : Hid (Below V.heap.size V w3) := b3
            have B23 : Hid (Below wr.heap.size wr w3) := BV.out.trans (b3.mono BV.out.size)
            have SETS : Hid (set8 w3 g (s * 8) y = (((((((w3.setCell ⟨g, s * 8, none⟩ (.int .i64 bal)).setCell ⟨g, s * 8 + 1, none⟩ (.bool n)).setCell ⟨g, s * 8 + 2, none⟩ (.int .i64 p)).setCell ⟨g, s * 8 + 3, none⟩ (.int .i64 q)).setCell ⟨g, s * 8 + 4, none⟩ (.slice (some ⟨g1, 0, none⟩) xs.length e1)).setCell ⟨g, s * 8 + 5, none⟩ (.slice (some ⟨g2, 0, none⟩) ys.length e2)).setCell ⟨g, s * 8 + 6, none⟩ (.int .i64 v)).setCell ⟨g, s * 8 + 7, none⟩ (.int .i64 k)) := by show _ = _; rw [hy]; rfl
            refine hK.out _ _ (AF.out w3 B23.out) (fun hH3 => ?_)
            clear hK K r3 b3 hy
            refine wpAnyH_take (i := 6) (v := ?vt6) rfl (by kernel_rfl) (by kernel_rfl) (by kernel_rfl) (fun _ _ _ h => h) (Or.inl ⟨by rfl, ?yt6⟩) (by assumption) ?rt6
            case yt6 =>
              intro w' hSw
              try dsimp only at hSw
              go_simp
              try with_reducible rfl
            simp only [Act.put, List.getElem_toArray, List.getElem_cons_succ, List.getElem_cons_zero, List.setIfInBounds_toArray, List.set_cons_zero, List.set_cons_succ]
            refine wpAnyH_take (i := 7) (v := ?vt7) rfl (by kernel_rfl) (by kernel_rfl) (by kernel_rfl) (fun _ _ _ h => h) (Or.inl ⟨by rfl, ?yt7⟩) (by assumption) ?rt7
            case yt7 =>
              intro w' hSw
              try dsimp only at hSw
              go_simp
              try with_reducible rfl
            simp only [Act.put, List.getElem_toArray, List.getElem_cons_succ, List.getElem_cons_zero, List.setIfInBounds_toArray, List.set_cons_zero, List.set_cons_succ]
            refine wpAnyH_ready (rs := [8]) (by kernel_rfl) (by simp) ?_
            refine AllReadyH.cons rfl (fun K hK => ?_) AllReadyH.nil
            have hgb := OV.out.lt
            obtain ⟨k0, k1, k2, k3, k4, k5, k6, k7⟩ : C8 w3 g (s * 8) (U.getD s v0) := (OV.out.cell s (by rw [UL.out]; omega)).congr fun l hl => B3.out.cell (p := ⟨g, s * 8 + l, none⟩) hgb
            have fr : ∀ o, w3.frozen? ⟨g, o, none⟩ = false := fun o => by rw [B3.out.frozen (p := ⟨g, o, none⟩) hgb]; exact OV.out.fr o
            go_simp
            rw [← SETS.out]
            have PUT : Hid (OwnL (set8 w3 g (s * 8) y) B (.slice (some ⟨g, 0, none⟩) Ln c3) (U.set s y)) := OLV.out.put B3.out Y3.out (by have := BVB.out; omega) s (by rw [UL.out]; omega) AG.out
            have KEEP : Hid (∀ b, b < wr.heap.size → b ≠ g → (set8 w3 g (s * 8) y).heap[b]? = wr.heap[b]?) := fun b hb hn => by rw [set8_keep _ _ _ _ _ hn]; exact B23.out.block b hb
            have C9 : Hid (Blk (set8 w3 g (s * 8) y) C #[.int .i64 bal, .slice (some ⟨g, 0, none⟩) Ln c3] 25) := by
              show Blk _ _ _ _
              unfold Blk
              rw [KEEP.out C CR.out.lt NG.out.1]; exact CR.out
            have E9 : Hid (Blk (set8 w3 g (s * 8) y) (w.heap.size + 1) #[.bool n, .int .i64 p, .int .i64 q, .slice a1 xs.length c1, .slice a2 ys.length c2, .int .i64 v, .int .i64 k] 33) := by
              show Blk _ _ _ _
              unfold Blk
              rw [KEEP.out _ ER.out.lt NG.out.2.1]; exact ER.out
            have Z9 : Hid (Blk (set8 w3 g (s * 8) y) (w.heap.size + 2) #[.int .i64 0, .slice none 0 0] 25) := by
              show Blk _ _ _ _
              unfold Blk
              rw [KEEP.out _ ZR.out.lt NG.out.2.2]; exact ZR.out
            have K9 : Hid (Below B w (set8 w3 g (s * 8) y)) := set8_below (BWR.out.trans (B23.out.mono (by have := BVB.out; have := BV.out.size; omega))) OV.out.lo _ _
            refine hK.out _ _ ⟨C9.out.cells2.2, E9.out.cells7⟩ (fun hHx => ?_)
            refine wpAnyH_done (by kernel_rfl) ?_ _
            obtain ⟨W9, hW9⟩ : ∃ W9, W9 = set8 w3 g (s * 8) y := ⟨_, rfl⟩
            rw [← hW9] at PUT C9 Z9 K9 ⊢
            clear KEEP SETS hK K hHx hHeld hH3 k0 k1 k2 k3 k4 k5 k6 k7 fr hW9 E9
            obtain ⟨m0, m1⟩ := C9.out.cells2
            obtain ⟨z0, z1⟩ := Z9.out.cells2
            have fz := Z9.out.frozen
            go_wp2_with fail
            have zb := (((Z9.out.set 0 (.int .i64 bal)).set 1 (.slice (some ⟨g, 0, none⟩) Ln c3)).eq (C' := #[.int .i64 bal, .slice (some ⟨g, 0, none⟩) Ln c3]) (by simp)).cells2
            obtain ⟨y0, y1⟩ := zb
            refine bodyPost_ret (v := .tuple #[.agg #[.int .i64 bal, .slice (some ⟨g, 0, none⟩) Ln c3], .bool true]) (by simp [results, Try.results54, go_sem, y0, y1]) rfl ?_
            have on : Only (w.heap.size + 2) W9 ((W9.setCell ⟨w.heap.size + 2, 0, none⟩ (.int .i64 bal)).setCell ⟨w.heap.size + 2, 1, none⟩ (.slice (some ⟨g, 0, none⟩) Ln c3)) := ((Only.refl _ _).setCell _).setCell _
            refine ⟨_, U.set s y, by rw [CT.out]; rfl, PUT.out.onlyOut on ⟨fun e => NG.out.2.2 (by rw [AG.out] at e; injection e with e; exact e.symm), fun i hi => ?_⟩, ?_, K9.out.trans (on.below (by have := HB.out; omega))⟩
            · have hi' : i < U.length := by rw [List.length_set] at hi; exact hi
              rw [getD_setV _ _ _ _ (by rw [UL.out]; omega)]
              by_cases e : s = i
              · rw [if_pos e]
                have sv := BV.out.size
                have sy := B3.out.size
                have sx := BR.out.size
                have sc := SX.out
                exact ⟨fun e => by have := (Y3.out.b1 _ e).1; omega, fun e => by have := (Y3.out.b2 _ e).1; omega⟩
              · rw [if_neg e]
                exact NU.out _ (by omega) i hi'
            · rw [CT.out, if_pos rfl, bodies_set, YB.out, UB.out]
              rfl
end Go.Proofs.Ytfifiobcmdmefaa.Own

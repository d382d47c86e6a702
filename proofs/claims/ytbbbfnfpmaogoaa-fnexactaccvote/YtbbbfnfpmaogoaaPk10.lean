/-
  Own texts, bundled: SpecBest, Wf4, Args4I, ArgsR, ArgsP, ArgsRun, ArgsEnt, ArgsVote, AccOkS, VoteFit, AccOps, AccR.
-/
import Derived.Test.YtbbbfnfpmaogoaaPk4
import Derived.Deep.Cut
import Derived.Deep.CutRange
import Derived.Test.YtbbbfnfpmaogoaaPk8
import Derived.Test.YtbbbfnfpmaogoaaPk9
import Derived.BigQuiet
import Derived.Test.YtbbbfnfpmaogoaaPk1
import Derived.ProofKit
import Derived.Deep.Slices
import Derived.Deep.SlicePairs
import Derived.Test.YtbbbfnfpmaogoaaPk2
import Derived.Lib.QuietBelow
import Derived.Test.YtbbbfnfpmaogoaaPk7
namespace Go.Proofs.Ytbbbfnfpmaogoaa.Own
open Go.RowKit
set_option linter.unusedVariables false
set_option linter.unusedSimpArgs false

/-- The better votes, place by place. -/
def bestL (A B : List V) : List V := (List.range (max A.length B.length)).map (bestAt A B)
theorem bestL_len (A B : List V) : (bestL A B).length = max A.length B.length := by simp [bestL]
theorem bestL_take (A B : List V) {j : Nat} (hj : j < max A.length B.length) : (bestL A B).take (j + 1) = (bestL A B).take j ++ [bestAt A B j] := by
  rw [List.take_succ_eq_append_getElem (by rw [bestL_len]; exact hj)]
  simp [bestL]
theorem bestAt_right {A B : List V} {j : Nat} (h : j < B.length) (h2 : (A.getD j (0, e0)).1 < (B.getD j (0, e0)).1) : bestAt A B j = B.getD j (0, e0) := by unfold bestAt; rw [if_pos ⟨h, h2⟩]
theorem bestAt_left {A B : List V} {j : Nat} (h : ¬ (j < B.length ∧ (A.getD j (0, e0)).1 < (B.getD j (0, e0)).1)) : bestAt A B j = A.getD j (0, e0) := by unfold bestAt; rw [if_neg h]
theorem getD_past {vs : List VM} {j : Nat} (h : vs.length ≤ j) : vs.getD j v0 = v0 := by simp [List.getD, List.getElem?_eq_none h]
theorem SlV.one {w : World} {a : Option Addr} {vs : List VM} (h : SlV w a vs) (j : Nat) : Sl w (vs.getD j v0).a1 (vs.getD j v0).b.xs ∧ Sl w (vs.getD j v0).a2 (vs.getD j v0).b.ys := by
  by_cases hj : j < vs.length
  · rcases h with h | ⟨b, off, rfl, h⟩
    · rw [h] at hj; simp at hj
    · exact (h.2 j hj).2
  · rw [getD_past (Nat.le_of_not_lt hj)]
    exact ⟨.inl rfl, .inl rfl⟩
theorem VLs.one {vs : List VM} (h : VLs vs) (j : Nat) : (vs.getD j v0).b.xs.length ≤ 2 ^ 40 ∧ (vs.getD j v0).b.ys.length ≤ 2 ^ 40 := by
  by_cases hj : j < vs.length
  · exact ⟨(h j hj).1, (h j hj).2.1⟩
  · rw [getD_past (Nat.le_of_not_lt hj)]
    exact ⟨by decide, by decide⟩
theorem OwnL.low {w : World} {B B' : Nat} {v : Value} {vs : List VM} (h : OwnL w B v vs) (hB : B' ≤ B) : OwnL w B' v vs :=
  ⟨⟨h.row.1, by
    rcases h.row.2 with h | ⟨g, cap, cur, hv, hg, r⟩
    · exact .inl h
    · exact .inr ⟨g, cap, cur, hv, Nat.le_trans hB hg, r⟩⟩, fun i hi => (h.one i hi).weaken hB, h.out, h.all⟩
theorem bodies_at (vs : List VM) (j : Nat) : (vs.getD j v0).bal = ((bodies vs).getD j (0, e0)).1 := by rw [bodies_getD]; rfl

set_option maxRecDepth 100000 in
set_option maxHeartbeats 400000 in
theorem l6Best (a b : Option Addr) (c d : Nat) (vs us0 : List VM) (w : World) (h1 : SlV w a vs) (h2 : SlV w b us0) (l1 : VLs vs) (l2 : VLs us0) (n1 : vs.length ≤ 2 ^ 30) (n2 : us0.length ≤ 2 ^ 30) :
    Calls Try.prog 87 #[.slice a vs.length c, .slice b us0.length d] w fun e w' => ∃ v us, e = .returned v ∧ OwnL w' w.heap.size v us ∧ bodies us = bestL (bodies vs) (bodies us0) ∧ Below w.heap.size w w' := by
  have H1 : Hid (SlV w a vs) := h1
  have H2 : Hid (SlV w b us0) := h2
  have L1 : Hid (VLs vs) := l1
  have L2 : Hid (VLs us0) := l2
  obtain ⟨N, hN⟩ : ∃ N, N = max vs.length us0.length := ⟨_, rfl⟩
  have NE : Hid (N = max (bodies vs).length (bodies us0).length) := by show _ = _; rw [bodies_len, bodies_len]; exact hN
  have NV : vs.length ≤ N := by omega
  have NU : us0.length ≤ N := by omega
  have NN : N ≤ 2 ^ 30 := by omega
  have NM : N = vs.length ∨ N = us0.length := by omega
  obtain ⟨i0, hi, hz0, hz1, hz2⟩ := info_parts infoVoteC
  have I0 : Hid (Try.prog.info? 86 = some i0 ∧ i0.zero = some (.agg #[.int .i64 0, .bool false, .int .i64 0, .int .i64 0, .slice none 0 0, .slice none 0 0, .int .i64 0, .int .i64 0]) ∧ i0.size = 8 ∧ i0.bytes = 96) := ⟨hi, hz0, hz1, hz2⟩
  clear h1 h2 l1 l2 hi hz0 hz1 hz2 hN
  go_enter Try.func87, Try.ntmps87
  go_wp2_with fail
  go_loopw [5, 6, 7] (fun o i _ wr => ∃ (j : Nat) (us : List VM), j ≤ N ∧ i = .int .i64 j ∧ Hid (OwnL wr w.heap.size o us) ∧ Hid (bodies us = (bestL (bodies vs) (bodies us0)).take j) ∧ Hid (Below w.heap.size w wr)) (fun _ i _ _ => N - (intOf i).toNat)
  case atStart =>
    refine ⟨0, [], Nat.zero_le _, rfl, ?_, by show _ = _; simp [bodies], (Below.refl _ _).alloc (Nat.le_refl _) _⟩
    exact ⟨⟨rfl, .inr ⟨w.heap.size, 0, #[], rfl, Nat.le_refl _, heap_new _ _, Nat.le_refl _, by decide, rfl, rfl⟩⟩, fun i h => by simp at h, fun i h => by simp at h, fun i j h => by simp at h⟩
  case round =>

    obtain ⟨j, us, hj, rfl, OL0, BU, BW⟩ := hrel
    by_cases hlt : j < N
    · have UL : us.length = j := by
        have := congrArg List.length BU.out
        rw [bodies_len, List.length_take, bestL_len, ← NE.out] at this
        omega
      -- the vote that a has there, or none
      obtain ⟨x1, hx1⟩ : ∃ x, x = vs.getD j v0 := ⟨_, rfl⟩
      have X1 : Hid (x1 = vs.getD j v0) := hx1
      clear hx1
      go_upto_region 3 with fail
      go_cut [18] from 9 to 18 (fun q wx => q = .bool true ∧ wx = wr)
      case first =>
        by_cases ha : j < vs.length
        · have e1 : (j : Int) < (vs.length : Int) := by omega
          have e2 : decide ((j : Int) < (vs.length : Int)) = true := decide_eq_true e1
          go_wp2_with fail
          go_meet
          exact ⟨rfl, rfl⟩
        · have e1 : ¬ (j : Int) < (vs.length : Int) := by omega
          have e2 : decide ((j : Int) < (vs.length : Int)) = false := decide_eq_false e1
          have e3 : (j : Int) < (us0.length : Int) := by omega
          have e4 : decide ((j : Int) < (us0.length : Int)) = true := decide_eq_true e3
          go_wp2_with fail
          go_meet
          exact ⟨rfl, rfl⟩
      case rest =>
        obtain ⟨rfl, hwc⟩ := hcut
        rw [hwc]
        clear hwc
        go_upto_region 6 with fail
        obtain ⟨X, hX⟩ : ∃ X, X = wr.alloc (.cells #[.int .i64 0, .bool false, .int .i64 0, .int .i64 0, .slice none 0 0, .slice none 0 0, .int .i64 0, .int .i64 0] 86) := ⟨_, rfl⟩
        rw [← hX]
        have ZX : Hid (Blk X wr.heap.size #[.int .i64 0, .bool false, .int .i64 0, .int .i64 0, .slice none 0 0, .slice none 0 0, .int .i64 0, .int .i64 0] 86) := by show Blk _ _ _ _; rw [hX]; exact Blk.new _ _ _
        have BX : Hid (Below wr.heap.size wr X) := by show Below _ _ _; rw [hX]; exact (Below.refl _ _).alloc (Nat.le_refl _) _
        clear hX
        go_upto_if 25 with fail
        obtain ⟨ta, hta⟩ : ∃ t, t = decide (j < vs.length) := ⟨_, rfl⟩
        have TA : Hid (ta = decide (j < vs.length)) := hta
        rw [← hta]
        clear hta
        go_cut [] from 26 to 29 (fun wx => Blk wx wr.heap.size x1.cells 86 ∧ Below wr.heap.size wr wx)
        case first =>
          cases ta with
          | true =>
            have ha : j < vs.length := of_decide_eq_true TA.out.symm
            have e1 : (j : Int) < (vs.length : Int) := by omega
            rcases H1.out with h0 | ⟨b0, off, rfl, hat⟩
            · rw [h0] at ha; simp at ha
            obtain ⟨c8, _, _⟩ := ((hat.below BW.out).below BX.out).2 j ha
            rw [← X1.out] at c8
            obtain ⟨q0, q1, q2, q3, q4, q5, q6, q7⟩ := c8
            obtain ⟨z0, z1, z2, z3, z4, z5, z6, z7⟩ := ZX.out.cells8
            have fr := ZX.out.frozen
            clear hat
            go_wp2_with fail
            go_meet
            exact ⟨ZX.out.over8 x1, below_over8 BX.out (Nat.le_refl _) x1⟩
          | false =>
            have ha : ¬ j < vs.length := of_decide_eq_false TA.out.symm
            have xv : x1 = v0 := by rw [X1.out]; exact getD_past (by omega)
            go_wp2_with fail
            go_meet
            rw [xv]
            exact ⟨ZX.out, BX.out⟩
        case rest =>
          obtain ⟨W1, hW1⟩ : ∃ W1, W1 = wc := ⟨_, rfl⟩
          subst hW1
          have ZW : Hid (Blk W1 wr.heap.size x1.cells 86) := hcut.1
          have BW1 : Hid (Below wr.heap.size wr W1) := hcut.2
          clear hcut ZX BX X
          obtain ⟨y0, hy0⟩ : ∃ y, y = us0.getD j v0 := ⟨_, rfl⟩
          have Y0 : Hid (y0 = us0.getD j v0) := hy0
          clear hy0
          obtain ⟨x2, hx2⟩ : ∃ x, x = if j < us0.length ∧ x1.bal < y0.bal then y0 else x1 := ⟨_, rfl⟩
          have X2 : Hid (x2 = if j < us0.length ∧ x1.bal < y0.bal then y0 else x1) := hx2
          clear hx2
          obtain ⟨t, ht⟩ : ∃ t, t = decide (j < us0.length ∧ x1.bal < y0.bal) := ⟨_, rfl⟩
          have T2 : Hid (t = decide (j < us0.length ∧ x1.bal < y0.bal)) := ht
          clear ht
          go_upto_region 8 with fail
          go_cut [43] from 30 to 43 (fun q wx => q = .bool t ∧ Blk wx wr.heap.size x1.cells 86 ∧ Below wr.heap.size wr wx)
          case first =>
            obtain ⟨z0, z1, z2, z3, z4, z5, z6, z7⟩ := Blk.cells8 ZW.out
            by_cases hb : j < us0.length
            · have e1 : (j : Int) < (us0.length : Int) := by omega
              have d1 : decide ((j : Int) < (us0.length : Int)) = true := decide_eq_true e1
              rcases H2.out with h0 | ⟨b0, off, rfl, hat⟩
              · rw [h0] at hb; simp at hb
              obtain ⟨c8, _, _⟩ := ((hat.below BW.out).below BW1.out).2 j hb
              rw [← Y0.out] at c8
              have q0 := c8.1
              have te : t = decide (x1.bal < y0.bal) := by rw [T2.out]; simp [hb]
              clear hat c8
              go_wp2_with fail
              go_quiet (fail)
              go_wp2_with fail
              go_meet
              exact ⟨by rw [te], ZW.out, below_drewN BW1.out _⟩
            · have e1 : ¬ (j : Int) < (us0.length : Int) := by omega
              have d1 : decide ((j : Int) < (us0.length : Int)) = false := decide_eq_false e1
              have te : t = false := by rw [T2.out]; simp [hb]
              go_wp2_with fail
              go_quiet (fail)
              go_wp2_with fail
              go_meet
              exact ⟨by rw [te], ZW.out, below_drewN BW1.out _⟩
          case rest =>
          obtain ⟨W3, hW3⟩ : ∃ W3, W3 = wc := ⟨_, rfl⟩
          subst hW3
          obtain ⟨rfl, hc1, hc2⟩ := hcut
          have ZV : Hid (Blk W3 wr.heap.size x1.cells 86) := hc1
          have BV1 : Hid (Below wr.heap.size wr W3) := hc2
          clear hc1 hc2 ZW BW1
          go_upto_if 43 with fail
          go_cut [] from 44 to 47 (fun wx => Blk wx wr.heap.size x2.cells 86 ∧ Below wr.heap.size wr wx)
          case first =>
            cases t with
            | true =>
              have hbg := of_decide_eq_true T2.out.symm
              have xe : x2 = y0 := by rw [X2.out, if_pos hbg]
              have e1 : (j : Int) < (us0.length : Int) := by omega
              rcases H2.out with h0 | ⟨b0, off, rfl, hat⟩
              · have := hbg.1; rw [h0] at this; simp at this
              obtain ⟨c8, _, _⟩ := ((hat.below BW.out).below BV1.out).2 j hbg.1
              rw [← Y0.out] at c8
              obtain ⟨q0, q1, q2, q3, q4, q5, q6, q7⟩ := c8
              obtain ⟨z0, z1, z2, z3, z4, z5, z6, z7⟩ := Blk.cells8 ZV.out
              have fr := ZV.out.frozen
              clear hat
              go_wp2_with fail
              go_meet
              rw [xe]
              exact ⟨ZV.out.over8' y0, below_over8 BV1.out (Nat.le_refl _) y0⟩
            | false =>
              have hbg := of_decide_eq_false T2.out.symm
              have xe : x2 = x1 := by rw [X2.out, if_neg hbg]
              go_wp2_with fail
              go_meet
              rw [xe]
              exact ⟨ZV.out, BV1.out⟩
          case rest =>
            obtain ⟨W2, hW2⟩ : ∃ W2, W2 = wc := ⟨_, rfl⟩
            subst hW2
            have ZW2 : Hid (Blk W2 wr.heap.size x2.cells 86) := hcut.1
            have BW2 : Hid (Below wr.heap.size wr W2) := hcut.2
            clear hcut
            have XB : Hid (x2.body = bestAt (bodies vs) (bodies us0) j) := by
              show _ = _
              rw [X2.out]
              have e1 : x1.bal = ((bodies vs).getD j (0, e0)).1 := by rw [X1.out]; exact bodies_at vs j
              have e2 : y0.bal = ((bodies us0).getD j (0, e0)).1 := by rw [Y0.out]; exact bodies_at us0 j
              by_cases hc : j < us0.length ∧ x1.bal < y0.bal
              · rw [if_pos hc, bestAt_right (by rw [bodies_len]; exact hc.1) (by rw [← e1, ← e2]; exact hc.2), bodies_getD, Y0.out]
              · rw [if_neg hc, bestAt_left (fun h => hc ⟨by rw [bodies_len] at h; exact h.1, by rw [e1, e2]; exact h.2⟩), bodies_getD, X1.out]
            have SX : Hid ((Sl wr x2.a1 x2.b.xs ∧ Sl wr x2.a2 x2.b.ys) ∧ x2.b.xs.length ≤ 2 ^ 40 ∧ x2.b.ys.length ≤ 2 ^ 40) := by
              show _ ∧ _
              rw [X2.out]
              split
              · rw [Y0.out]; exact ⟨(H2.out.below BW.out).one j, L2.out.one j⟩
              · rw [X1.out]; exact ⟨(H1.out.below BW.out).one j, L1.out.one j⟩
            clear X1 X2 T2 Y0 TA
            obtain ⟨z, ⟨n, p, q, xs, ys, v, k⟩, a1, c1, a2, c2⟩ := x2
            obtain ⟨C, hC⟩ : ∃ C, C = wr.heap.size := ⟨_, rfl⟩
            rw [← hC] at ZW2 ⊢
            have sw := BW2.out.size
            have CLT : Hid (C < W2.heap.size) := ZW2.out.lt
            have NC : Hid (u5.ownBlock = some C → False) := fun e => by
              have := ownsRow_lt8 OL0.out.row C e
              omega
            have EC : Hid (∀ V, Below W2.heap.size W2 V → Calls Try.prog 118 #[.agg #[.bool n, .int .i64 p, .int .i64 q, .slice a1 xs.length c1, .slice a2 ys.length c2, .int .i64 v, .int .i64 k]] V fun e w' => ∃ g1 e1 g2 e2, e = .returned (.agg #[.bool n, .int .i64 p, .int .i64 q, .slice (some ⟨g1, 0, none⟩) xs.length e1, .slice (some ⟨g2, 0, none⟩) ys.length e2, .int .i64 v, .int .i64 k]) ∧ RunE w' V.heap.size g1 e1 g2 e2 xs ys ∧ Below V.heap.size V w') := fun V hV => l5EntryX n p q a1 a2 c1 c2 xs ys v k V ((SX.out.1.1.below BW2.out).below hV) ((SX.out.1.2.below BW2.out).below hV) SX.out.2.1 SX.out.2.2
            have AF : Hid (∀ V, Below W2.heap.size W2 V → V.cell? ⟨C, 0, none⟩ = some (.int .i64 z) ∧ V.cell? ⟨C, 1, none⟩ = some (.bool n) ∧ V.cell? ⟨C, 2, none⟩ = some (.int .i64 p) ∧ V.cell? ⟨C, 3, none⟩ = some (.int .i64 q) ∧ V.cell? ⟨C, 4, none⟩ = some (.slice a1 xs.length c1) ∧ V.cell? ⟨C, 5, none⟩ = some (.slice a2 ys.length c2) ∧ V.cell? ⟨C, 6, none⟩ = some (.int .i64 v) ∧ V.cell? ⟨C, 7, none⟩ = some (.int .i64 k)) := fun V hV => Blk.cells8 (ZW2.out.keep hV)
            obtain ⟨V, hV⟩ : ∃ V, V = W2.drew := ⟨_, rfl⟩
            have HV : Hid (V = W2.drew) := hV
            have BV : Hid (Below W2.heap.size W2 V) := by show Below _ _ _; rw [hV]; exact (Below.refl _ _).drew
            have WV : Below wr.heap.size wr V := BW2.out.trans (BV.out.mono sw)
            have OL : Hid (OwnL V w.heap.size u5 us) := OL0.out.keep WV
            have LW : Hid (Below w.heap.size w V) := BW.out.trans (WV.mono BW.out.size)
            have UN : Hid (us.length ≤ 2 ^ 30) := by show _ ≤ _; omega
            obtain ⟨q0, q1, q2, q3, q4, q5, q6, q7⟩ := AF.out W2 (Below.refl _ _)
            have pv := AF.out V BV.out
            clear hV hC sw WV SX
            go_upto_region 10 with fail
            refine wp_region_held_drew (S := (fun w' : World => w'.cell? ⟨C, 0, none⟩ = some (.int .i64 z) ∧ w'.cell? ⟨C, 1, none⟩ = some (.bool n) ∧ w'.cell? ⟨C, 2, none⟩ = some (.int .i64 p) ∧ w'.cell? ⟨C, 3, none⟩ = some (.int .i64 q) ∧ w'.cell? ⟨C, 4, none⟩ = some (.slice a1 xs.length c1) ∧ w'.cell? ⟨C, 5, none⟩ = some (.slice a2 ys.length c2) ∧ w'.cell? ⟨C, 6, none⟩ = some (.int .i64 v) ∧ w'.cell? ⟨C, 7, none⟩ = some (.int .i64 k))) (by kernel_rfl) ⟨q0, q1, q2, q3, q4, q5, q6, q7⟩ (fun hHeld => ?_)
            rw [← HV.out]
            refine wpAnyH_take (i := 0) (v := ?v0) rfl (by kernel_rfl) (by kernel_rfl) (by kernel_rfl) (fun _ _ _ h => h) (Or.inl ⟨by rfl, ?y0⟩) (by assumption) ?r0
            case y0 =>
              intro w' hSw
              try dsimp only at hSw
              go_simp
              try with_reducible rfl
            simp only [Act.put, List.getElem_toArray, List.getElem_cons_succ, List.getElem_cons_zero, List.setIfInBounds_toArray, List.set_cons_zero, List.set_cons_succ]
            refine wpAnyH_take (i := 1) (v := ?v1) rfl (by kernel_rfl) (by kernel_rfl) (by kernel_rfl) (fun _ _ _ h => h) (Or.inl ⟨by rfl, ?y1⟩) (by assumption) ?r1
            case y1 =>
              intro w' hSw
              try dsimp only at hSw
              go_simp
              try with_reducible rfl
            simp only [Act.put, List.getElem_toArray, List.getElem_cons_succ, List.getElem_cons_zero, List.setIfInBounds_toArray, List.set_cons_zero, List.set_cons_succ]
            refine wpAnyH_take (i := 2) (v := ?v2) rfl (by kernel_rfl) (by kernel_rfl) (by kernel_rfl) (fun _ _ _ h => h) (Or.inl ⟨by rfl, ?y2⟩) (by assumption) ?r2
            case y2 =>
              intro w' hSw
              try dsimp only at hSw
              go_simp
              try with_reducible rfl
            simp only [Act.put, List.getElem_toArray, List.getElem_cons_succ, List.getElem_cons_zero, List.setIfInBounds_toArray, List.set_cons_zero, List.set_cons_succ]
            refine wpAnyH_take (i := 3) (v := ?v3) rfl (by kernel_rfl) (by kernel_rfl) (by kernel_rfl) (fun _ _ _ h => h) (Or.inl ⟨by rfl, ?y3⟩) (by assumption) ?r3
            case y3 =>
              intro w' hSw
              try dsimp only at hSw
              go_simp
              try with_reducible rfl
            simp only [Act.put, List.getElem_toArray, List.getElem_cons_succ, List.getElem_cons_zero, List.setIfInBounds_toArray, List.set_cons_zero, List.set_cons_succ]
            refine wpAnyH_take (i := 4) (v := ?v4) rfl (by kernel_rfl) (by kernel_rfl) (by kernel_rfl) (fun _ _ _ h => h) (Or.inl ⟨by rfl, ?y4⟩) (by assumption) ?r4
            case y4 =>
              intro w' hSw
              try dsimp only at hSw
              go_simp
              try with_reducible rfl
            simp only [Act.put, List.getElem_toArray, List.getElem_cons_succ, List.getElem_cons_zero, List.setIfInBounds_toArray, List.set_cons_zero, List.set_cons_succ]
            refine wpAnyH_ready (rs := [5]) (by kernel_rfl) (by simp) ?_
            refine AllReadyH.cons rfl (fun K hK => ?_) AllReadyH.nil
            go_simp
            refine Calls.mono (EC.out _ BV.out) ?_
            rintro e w3 ⟨g1, e1, g2, e2, rfl, r3, b3⟩
            obtain ⟨y, hy⟩ : ∃ y : VM, y = ⟨z, ⟨n, p, q, xs, ys, v, k⟩, some ⟨g1, 0, none⟩, e1, some ⟨g2, 0, none⟩, e2⟩ := ⟨_, rfl⟩
            have YB : Hid (y.body = (z, ⟨n, p, q, xs, ys, v, k⟩)) := by show _ = _; rw [hy]; rfl
            have Y3 : Hid (OneOwn w3 V.heap.size y) := by show OneOwn _ _ _; rw [hy]; exact RunE.one (b := ⟨n, p, q, xs, ys, v, k⟩) r3 z
            have YC : Hid (y.cells = #[.int .i64 z, .bool n, .int .i64 p, .int .i64 q, .slice (some ⟨g1, 0, none⟩) xs.length e1, .slice (some ⟨g2, 0, none⟩) ys.length e2, .int .i64 v, .int .i64 k]) := by show _ = _; rw [hy]; rfl
            have B3 : Hid (Below V.heap.size V w3) := b3
            have B23 : Hid (Below W2.heap.size W2 w3) := BV.out.trans (b3.mono BV.out.size)
            refine hK.out _ _ (AF.out w3 B23.out) (fun hH3 => ?_)
            clear hK K r3 b3 hy
            refine wpAnyH_take (i := 6) (v := ?v6) rfl (by kernel_rfl) (by kernel_rfl) (by kernel_rfl) (fun _ _ _ h => h) (Or.inl ⟨by rfl, ?y6⟩) (by assumption) ?r6
            case y6 =>
              intro w' hSw
              try dsimp only at hSw
              go_simp
              try with_reducible rfl
            simp only [Act.put, List.getElem_toArray, List.getElem_cons_succ, List.getElem_cons_zero, List.setIfInBounds_toArray, List.set_cons_zero, List.set_cons_succ]
            refine wpAnyH_ready (rs := [7]) (by kernel_rfl) (by simp) ?_
            refine AllReadyH.cons rfl (fun K hK => ?_) AllReadyH.nil
            go_simp
            rw [← YC.out]
            have B4 : Hid (Below V.heap.size V (w3.alloc (.cells y.cells 86))) := B3.out.alloc B3.out.size _
            have B24 : Hid (Below W2.heap.size W2 (w3.alloc (.cells y.cells 86))) := B23.out.alloc B23.out.size _
            have Y4 : Hid (OneOwn (w3.alloc (.cells y.cells 86)) V.heap.size y) := Y3.out.blk (by rw [size_new]; omega) fun b hb => heap_old _ _ _ (by
              rcases hb with hb | hb
              · exact (Y3.out.b1 b hb).2
              · exact (Y3.out.b2 b hb).2)
            refine hK.out _ _ (AF.out _ B24.out) (fun hH4 => ?_)
            clear hK K
            refine wpAnyH_ready (rs := [8]) (by kernel_rfl) (by simp) ?_
            refine AllReadyH.cons rfl (fun K hK => ?_) AllReadyH.nil
            have sv := B3.out.size
            have s0 := LW.out.size
            refine step_append_lies (w3.alloc (.cells y.cells 86)) (by rfl) _ _ _ (by rfl) w.heap.size 86 i0 _ 8 96 Try.underlying22 I0.out.1 I0.out.2.1 I0.out.2.2.1 I0.out.2.2.2 rfl (by decide) u5 us.length (flat8 us) (by rfl) (OL.out.keep B4.out).row ⟨w3.heap.size, 0, none⟩ 1 1 y.cells.toList (by rfl) rfl (eight_new w3 y) (cells_one y) (by decide) (by have := UN.out; unfold maxLen; omega) (by have := UN.out; omega) (by rw [size_new]; omega) (w3.heap.size + 1) (size_new _ _) ?_
            intro g5 cap5 w5 own5 hgr hloc hg5
            have O5 : Hid (OwnL w5 w.heap.size (.slice (some ⟨g5, 0, none⟩) (us.length + 1) cap5) (us ++ [y])) := OL.out.snoc B4.out Y4.out (by omega) own5 hgr (fun g hg => by
              simp only [Value.ownBlock] at hg
              injection hg with hg
              rcases hloc with hloc | hloc
              · left; rw [hloc, hg]
              · right; rw [size_new]; omega)
            have K5 : Hid (Below w.heap.size w w5) := (LW.out.trans (B4.out.mono (by omega))).grown hgr (by rw [size_new]; omega) (fun x hx => OL.out.from x hx)
            have C5 : Hid (w5.cell? ⟨C, 0, none⟩ = some (.int .i64 z) ∧ w5.cell? ⟨C, 1, none⟩ = some (.bool n) ∧ w5.cell? ⟨C, 2, none⟩ = some (.int .i64 p) ∧ w5.cell? ⟨C, 3, none⟩ = some (.int .i64 q) ∧ w5.cell? ⟨C, 4, none⟩ = some (.slice a1 xs.length c1) ∧ w5.cell? ⟨C, 5, none⟩ = some (.slice a2 ys.length c2) ∧ w5.cell? ⟨C, 6, none⟩ = some (.int .i64 v) ∧ w5.cell? ⟨C, 7, none⟩ = some (.int .i64 k)) := by
              show _ ∧ _
              have hne : u5.ownBlock ≠ some C := fun e => NC.out e
              have hb : w5.heap[C]? = W2.heap[C]? := (hgr.block C (Nat.lt_of_lt_of_le CLT.out B24.out.size) (fun e => hne e.symm)).trans (B24.out.block C CLT.out)
              have e : ∀ l, w5.cell? ⟨C, l, none⟩ = W2.cell? ⟨C, l, none⟩ := fun l => World.cell?_of_block (w := W2) (a := ⟨C, l, none⟩) hb
              rw [e, e, e, e, e, e, e, e]
              exact AF.out W2 (Below.refl _ _)
            refine hK.out _ _ C5.out (fun hH5 => ?_)
            clear hK K own5 hgr hloc hg5
            refine wpAnyH_ready (rs := [9]) (by kernel_rfl) (by simp) ?_
            refine AllReadyH.cons rfl (fun K hK => ?_) AllReadyH.nil
            go_simp
            refine hK.out _ _ C5.out (fun hHx => ?_)
            refine wpAnyH_done (by kernel_rfl) ?_ _
            have NB : Hid (bodies (us ++ [y]) = (bestL (bodies vs) (bodies us0)).take (j + 1)) := by
              show _ = _
              rw [bodies_snoc, BU.out, bestL_take _ _ (by rw [← NE.out]; exact hlt), YB.out, ← XB.out]
              rfl
            clear q0 q1 q2 q3 q4 q5 q6 q7
            go_wp2_with fail
            refine ⟨⟨j + 1, us ++ [y], by omega, by go_num, (by have h := O5.out; rw [UL] at h; exact h), NB.out, K5.out⟩, by simp only [intOf]; omega⟩
    · have hja : decide ((j : Int) < (vs.length : Int)) = false := decide_eq_false (by omega)
      have hjb : decide ((j : Int) < (us0.length : Int)) = false := decide_eq_false (by omega)
      obtain rfl : j = N := by omega
      go_wp2_with fail
      go_ret
      exact ⟨_, us, rfl, OL0.out, by rw [BU.out, List.take_of_length_le (by rw [bestL_len, ← NE.out]; exact Nat.le_refl _)], BW.out⟩
set_option maxRecDepth 100000 in
set_option maxHeartbeats 800000 in
theorem specBest (a b : Option Addr) (c d : Nat) (vs us0 : List VM) (w : World) (h1 : SlV w a vs) (h2 : SlV w b us0) (l1 : VLs vs) (l2 : VLs us0) (n1 : vs.length ≤ 2 ^ 30) (n2 : us0.length ≤ 2 ^ 30) :
    Calls Try.prog 35 #[.slice a vs.length c, .slice b us0.length d] w fun e w' => ∃ v us, e = .returned v ∧ OwnL w' w.heap.size v us ∧ bodies us = bestOf (bodies vs) (bodies us0) ∧ Below w.heap.size w w' := by
  have H1 : Hid (SlV w a vs) := h1
  have H2 : Hid (SlV w b us0) := h2
  have L1 : Hid (VLs vs) := l1
  have L2 : Hid (VLs us0) := l2
  clear h1 h2 l1 l2
  have NIL : Hid (∀ V, Below w.heap.size w V → OwnL (V.alloc (.cells #[] 86)) w.heap.size (.slice (some ⟨V.heap.size, 0, none⟩) 0 0) []) := fun V hV => ⟨⟨rfl, .inr ⟨V.heap.size, 0, #[], rfl, hV.size, heap_new _ _, Nat.le_refl _, by decide, rfl, rfl⟩⟩, fun i h => by simp at h, fun i h => by simp at h, fun i j h => by simp at h⟩
  have K1 : Hid (votesUpto 3000 (bodies vs) = Own.votesOk (bodies vs)) := votesUpto_top _
  have K2 : Hid (votesUpto 3000 (bodies us0) = Own.votesOk (bodies us0)) := votesUpto_top _
  have C1 : Hid _ := specVotes a c vs w H1.out (by omega) L1.out
  have C2 : Hid (∀ V, Below w.heap.size w V → Calls Try.prog 68 #[.slice b us0.length d] V fun e w' => e = .returned (.bool (Own.votesOk (bodies us0))) ∧ Below V.heap.size V w') := fun V hV => specVotes b d us0 V (H2.out.below hV) (by omega) L2.out
  have OK : Hid (Own.votesOk (bodies vs) = true → Own.votesOk (bodies us0) = true → bestOf (bodies vs) (bodies us0) = bestL (bodies vs) (bodies us0)) := fun e1 e2 => bestOf_at (by rw [K1.out, K2.out, e1, e2]; rfl)
  have BAD1 : Hid (Own.votesOk (bodies vs) = false → bestOf (bodies vs) (bodies us0) = []) := fun e1 => by unfold bestOf; rw [K1.out, e1]; rfl
  have BAD2 : Hid (Own.votesOk (bodies us0) = false → bestOf (bodies vs) (bodies us0) = []) := fun e1 => by unfold bestOf; rw [K2.out, e1, Bool.and_false]; rfl
  clear K1 K2
  obtain ⟨k1, hk1⟩ : ∃ k, k = Own.votesOk (bodies vs) := ⟨_, rfl⟩
  obtain ⟨k2, hk2⟩ : ∃ k, k = Own.votesOk (bodies us0) := ⟨_, rfl⟩
  rw [← hk1] at C1 OK BAD1
  rw [← hk2] at C2 OK BAD2
  clear hk1 hk2
  go_enter Try.func35, Try.ntmps35
  go_wp2_with fail
  refine Calls.mono C1.out ?_
  rintro e w1 ⟨rfl, b1⟩
  have B1 : Hid (Below w.heap.size w w1) := b1
  clear b1
  cases k1 with
  | false =>
    go_wp2_with fail
    go_ret
    exact ⟨_, [], rfl, NIL.out w1 B1.out, (BAD1.out (by first | rfl | trivial)).symm, B1.out.alloc B1.out.size _⟩
  | true =>
    go_wp2_with fail
    refine Calls.mono (C2.out w1 B1.out) ?_
    rintro e w2 ⟨rfl, b2⟩
    have B2 : Hid (Below w.heap.size w w2) := B1.out.trans (b2.mono B1.out.size)
    clear b2
    cases k2 with
    | false =>
      go_wp2_with fail
      go_ret
      exact ⟨_, [], rfl, NIL.out w2 B2.out, (BAD2.out (by first | rfl | trivial)).symm, B2.out.alloc B2.out.size _⟩
    | true =>
      go_wp2_with fail
      refine (l6Best a b c d vs us0 w2 (H1.out.below B2.out) (H2.out.below B2.out) L1.out L2.out n1 n2).mono ?_
      rintro e w3 ⟨v, us, rfl, o3, e3, b3⟩
      have O3 : Hid (OwnL w3 w.heap.size v us) := o3.low B2.out.size
      have B3 : Hid (Below w.heap.size w w3) := B2.out.trans (b3.mono B2.out.size)
      have E3 : Hid (bodies us = bestOf (bodies vs) (bodies us0)) := e3.trans (OK.out (by first | rfl | trivial) (by first | rfl | trivial)).symm
      clear o3 e3 b3
      go_wp2_with fail
      go_ret
      exact ⟨_, us, rfl, O3.out, E3.out, B3.out⟩

theorem bestS (B T B' T' : Nat) (v u : Value) (L M : List VM) (w : World) (h1 : OwnR w B T v L) (h2 : OwnR w B' T' u M) (l1 : VLs L) (l2 : VLs M) (n1 : L.length ≤ 2 ^ 30) (n2 : M.length ≤ 2 ^ 30) :
    Calls Try.prog 35 #[v, u] w fun e w' => ∃ x N, e = .returned x ∧ OwnR w' w.heap.size w'.heap.size x N ∧ bodies N = bestOf (bodies L) (bodies M) ∧ Below w.heap.size w w' := by
  obtain ⟨a, c, rfl, s1⟩ := h1.form
  obtain ⟨b, d, rfl, s2⟩ := h2.form
  exact (specBest a b c d L M w s1 s2 l1 l2 n1 n2).mono fun e w' ⟨v, us, he, ho, hb, hw⟩ => ⟨v, us, he, OwnR.ofL ho, hb, hw⟩
end Go.Proofs.Ytbbbfnfpmaogoaa.Own

namespace Go.Proofs.Ytbbbfnfpmaogoaa.Own

def FitsQ (p : Q4) : Prop := Fits p.1 ∧ Fits p.2.1 ∧ Fits p.2.2.1 ∧ Fits p.2.2.2
def Wf4 (xs : List Q4) : Prop := ∀ k, k < xs.length → FitsQ (xs.getD k q0)

end Go.Proofs.Ytbbbfnfpmaogoaa.Own

namespace Go.Proofs.Ytbbbfnfpmaogoaa.Own
open Go.ChangeShapes Go.WideShapes Go.ChangeAt Go.RowKit

theorem add_eq4 (b off j : Nat) : (⟨b, off, none⟩ : Addr).add j = ⟨b, off + j, none⟩ := by unfold Addr.add; split <;> simp_all

theorem fits_of4 {z : Int} (h : (Lit.int .i64 z).wf = true) : Fits z := by
  simp [Lit.wf, IntKind.min, IntKind.max, IntKind.signed, IntKind.bits] at h
  exact ⟨by omega, by omega⟩

theorem int_cell {H : Type} {enc : TypeId × Value → H} {W : World} {n : Nat} {v : Value} {y : DataW H × List MemPlace} (t : DataW.trod enc Try.prog W 0 (fun _ => true) true n 3 [v] = some y) : ∃ z, v = .int .i64 z ∧ Fits z := by
  obtain ⟨z, e, _, f⟩ := DataW.trod_int Try.underlying3 t
  simp at e
  exact ⟨z, e, fits_of4 f⟩

theorem cellsInt : Try.prog.cellsOf 3 = 1 := by kernel_rfl
end Go.Proofs.Ytbbbfnfpmaogoaa.Own

namespace Go.Proofs.Ytbbbfnfpmaogoaa.Own
open Go.ChangeShapes Go.WideShapes Go.ChangeAt Go.RowKit


theorem openReads {H : Type} {enc : TypeId × Value → H} {W : World} {fuel : Nat} {a : Option Addr} {len cap : Nat} {x : DataW H × List MemPlace}
    (hf : DataW.trod enc Try.prog W 0 (fun _ => true) true fuel 55 [.slice a len cap] = some x) : ∃ xs : List (Int × Int), xs.length = len ∧ Sl W a xs ∧ xs.length ≤ maxLen := by
  rcases Deep.open_slice_pairs Try.underlying55 Try.underlying173 (by kernel_rfl) rfl rfl (by kernel_rfl) (by kernel_rfl) hf with ⟨hcs, _⟩ | ⟨ad, l, c, m, n, V0, V1, D0, D1, P0, P1, hcs, _, hl, hm, hmm, _, hx⟩
  · simp at hcs
    obtain ⟨rfl, rfl, rfl⟩ := hcs
    exact ⟨[], rfl, .inl rfl, by simp⟩
  · simp at hcs
    obtain ⟨rfl, rfl, rfl⟩ := hcs
    have hmm' : m = cap := by simpa using hmm
    subst hmm'
    have ex : ∀ i, i < m → ∃ p : Int × Int, W.cell? (ad.add (i * 2)) = some (.int .i64 p.1) ∧ W.cell? (ad.add (i * 2 + 1)) = some (.int .i64 p.2) := by
      intro i hi
      obtain ⟨c0, c1, t0, t1⟩ := hx i hi
      obtain ⟨z0, e0, _, _⟩ := DataW.trod_int Try.underlying3 t0
      obtain ⟨z1, e1, _, _⟩ := DataW.trod_int Try.underlying3 t1
      simp at e0 e1
      exact ⟨(z0, z1), by rw [c0, e0], by rw [c1, e1]⟩
    obtain ⟨f, hf2⟩ := Deep.choose_lt ex
    refine ⟨(List.range len).map f, by simp, ?_, by simp; omega⟩
    by_cases h0 : len = 0
    · left; simp [h0]
    right
    obtain ⟨b, off, spot⟩ := ad
    have c0 := (hf2 0 (by omega)).1
    have hspot : spot = none := by simpa [Addr.add] using World.cell?_spot c0
    subst hspot
    refine ⟨b, off, rfl, ?_, ?_⟩
    · have : W.cell? ⟨b, off, none⟩ = some (.int .i64 (f 0).1) := by simpa [Addr.add] using c0
      simp only [World.cell?] at this
      cases hq : W.heap[b]? with
      | none => simp [hq] at this
      | some o => exact (Array.getElem?_eq_some_iff.1 hq).1
    · intro i hi
      have hi' : i < len := by simpa using hi
      have := hf2 i (by omega)
      rw [add_eq4, add_eq4] at this
      have e : ((List.range len).map f).getD i (0, 0) = f i := by simp [List.getD, hi']
      rw [e]
      exact this

end Go.Proofs.Ytbbbfnfpmaogoaa.Own

namespace Go.Proofs.Ytbbbfnfpmaogoaa.Own
open Go.ChangeShapes Go.WideShapes Go.ChangeAt Go.RowKit


theorem openPuts {H : Type} {enc : TypeId × Value → H} {W : World} {fuel : Nat} {a : Option Addr} {len cap : Nat} {x : DataW H × List MemPlace}
    (hf : DataW.trod enc Try.prog W 0 (fun _ => true) true fuel 56 [.slice a len cap] = some x) : ∃ xs : List (Int × Int), xs.length = len ∧ Sl W a xs ∧ xs.length ≤ maxLen := by
  rcases Deep.open_slice_pairs Try.underlying56 Try.underlying175 (by kernel_rfl) rfl rfl (by kernel_rfl) (by kernel_rfl) hf with ⟨hcs, _⟩ | ⟨ad, l, c, m, n, V0, V1, D0, D1, P0, P1, hcs, _, hl, hm, hmm, _, hx⟩
  · simp at hcs
    obtain ⟨rfl, rfl, rfl⟩ := hcs
    exact ⟨[], rfl, .inl rfl, by simp⟩
  · simp at hcs
    obtain ⟨rfl, rfl, rfl⟩ := hcs
    have hmm' : m = cap := by simpa using hmm
    subst hmm'
    have ex : ∀ i, i < m → ∃ p : Int × Int, W.cell? (ad.add (i * 2)) = some (.int .i64 p.1) ∧ W.cell? (ad.add (i * 2 + 1)) = some (.int .i64 p.2) := by
      intro i hi
      obtain ⟨c0, c1, t0, t1⟩ := hx i hi
      obtain ⟨z0, e0, _, _⟩ := DataW.trod_int Try.underlying3 t0
      obtain ⟨z1, e1, _, _⟩ := DataW.trod_int Try.underlying3 t1
      simp at e0 e1
      exact ⟨(z0, z1), by rw [c0, e0], by rw [c1, e1]⟩
    obtain ⟨f, hf2⟩ := Deep.choose_lt ex
    refine ⟨(List.range len).map f, by simp, ?_, by simp; omega⟩
    by_cases h0 : len = 0
    · left; simp [h0]
    right
    obtain ⟨b, off, spot⟩ := ad
    have c0 := (hf2 0 (by omega)).1
    have hspot : spot = none := by simpa [Addr.add] using World.cell?_spot c0
    subst hspot
    refine ⟨b, off, rfl, ?_, ?_⟩
    · have : W.cell? ⟨b, off, none⟩ = some (.int .i64 (f 0).1) := by simpa [Addr.add] using c0
      simp only [World.cell?] at this
      cases hq : W.heap[b]? with
      | none => simp [hq] at this
      | some o => exact (Array.getElem?_eq_some_iff.1 hq).1
    · intro i hi
      have hi' : i < len := by simpa using hi
      have := hf2 i (by omega)
      rw [add_eq4, add_eq4] at this
      have e : ((List.range len).map f).getD i (0, 0) = f i := by simp [List.getD, hi']
      rw [e]
      exact this

end Go.Proofs.Ytbbbfnfpmaogoaa.Own

namespace Go.Proofs.Ytbbbfnfpmaogoaa.Own
open Go.ChangeShapes Go.WideShapes Go.ChangeAt Go.RowKit
set_option linter.unusedVariables false

theorem cellsRun : Try.prog.cellsOf 58 = 4 := by kernel_rfl
theorem cellsReads : Try.prog.cellsOf 55 = 1 := by kernel_rfl
theorem cellsPuts : Try.prog.cellsOf 56 = 1 := by kernel_rfl

theorem slice_cell {H : Type} {enc : TypeId × Value → H} {W : World} {n : Nat} {t e : TypeId} (ht : Try.prog.underlying t = some (.slice e)) {v : Value} {y : DataW H × List MemPlace} (h : DataW.trod enc Try.prog W 0 (fun _ => true) true n t [v] = some y) : ∃ a l c, v = .slice a l c ∧ l ≤ c ∧ c ≤ maxLen := by
  rcases Deep.open_slice ht h with ⟨hcs, _⟩ | ⟨ad, l, c, m, n, D, Pl, hcs, _, hl, hm, hmm, _, hx⟩
  · simp at hcs
    exact ⟨none, 0, 0, hcs, Nat.le_refl _, by unfold maxLen; omega⟩
  · simp at hcs
    exact ⟨_, _, _, hcs, hl, hm⟩

set_option maxRecDepth 100000 in
theorem openRun {H : Type} {enc : TypeId × Value → H} {W : World} {fuel : Nat} {cs : Array Value} {x : DataW H × List MemPlace}
    (hf : DataW.trod enc Try.prog W 0 (fun _ => true) true fuel 58 cs.toList = some x) :
    ∃ (a1 a2 : Option Addr) (c1 c2 : Nat) (xs ys : List (Int × Int)) (v k : Int), cs = #[.slice a1 xs.length c1, .slice a2 ys.length c2, .int .i64 v, .int .i64 k] ∧ Sl W a1 xs ∧ Sl W a2 ys ∧ xs.length ≤ c1 ∧ ys.length ≤ c2 ∧ c1 ≤ maxLen ∧ c2 ≤ maxLen ∧ Fits v ∧ Fits k := by
  obtain ⟨l⟩ := cs
  obtain ⟨xs, n, hk, hxy, hl, hxl, hfd⟩ := DataW.trod_struct Try.underlying58 hf
  rw [cellsRun] at hl
  match xs, hxl, l, hl with
  | [y0, y1, y2, y3], _, [v0, v1, v2, v3], _ =>
    have g0 := hfd 0 _ rfl
    have g1 := hfd 1 _ rfl
    have g2 := hfd 2 _ rfl
    have g3 := hfd 3 _ rfl
    simp [cellsInt, cellsReads, cellsPuts] at g0 g1 g2 g3
    obtain ⟨z2, rfl, f2⟩ := int_cell g2
    obtain ⟨z3, rfl, f3⟩ := int_cell g3
    obtain ⟨a1, l1, c1, rfl, hl1, hm1⟩ := slice_cell Try.underlying55 g0
    obtain ⟨a2, l2, c2, rfl, hl2, hm2⟩ := slice_cell Try.underlying56 g1
    obtain ⟨xs, rfl, s1, _⟩ := openReads g0
    obtain ⟨ys, rfl, s2, _⟩ := openPuts g1
    exact ⟨a1, a2, c1, c2, xs, ys, z2, z3, rfl, s1, s2, hl1, hl2, hm1, hm2, f2, f3⟩
end Go.Proofs.Ytbbbfnfpmaogoaa.Own

namespace Go.Proofs.Ytbbbfnfpmaogoaa.Own
open Go.ChangeShapes Go.WideShapes Go.ChangeAt Go.RowKit
set_option linter.unusedVariables false

theorem cellsEntry : Try.prog.cellsOf 60 = 7 := by kernel_rfl
theorem cellsReq : Try.prog.cellsOf 54 = 2 := by kernel_rfl
theorem cellsBool : Try.prog.cellsOf 4 = 1 := by kernel_rfl
theorem bool_cell {H : Type} {enc : TypeId × Value → H} {W : World} {n : Nat} {v : Value} {y : DataW H × List MemPlace} (t : DataW.trod enc Try.prog W 0 (fun _ => true) true n 4 [v] = some y) : ∃ z, v = .bool z := by
  obtain ⟨z, e, _⟩ := DataW.trod_bool Try.underlying4 t
  simp at e
  exact ⟨z, e⟩
theorem req_cells {H : Type} {enc : TypeId × Value → H} {W : World} {n : Nat} {v u : Value} {y : DataW H × List MemPlace} (t : DataW.trod enc Try.prog W 0 (fun _ => true) true n 54 [v, u] = some y) : ∃ z z', v = .int .i64 z ∧ u = .int .i64 z' ∧ Fits z ∧ Fits z' := by
  obtain ⟨xs, n, hk, hxy, hl, hxl, hfd⟩ := DataW.trod_struct Try.underlying54 t
  match xs, hxl with
  | [y0, y1], _ =>
    have g0 := hfd 0 _ rfl
    have g1 := hfd 1 _ rfl
    simp [cellsInt] at g0 g1
    obtain ⟨z0, rfl, f0⟩ := int_cell g0
    obtain ⟨z1, rfl, f1⟩ := int_cell g1
    exact ⟨z0, z1, rfl, rfl, f0, f1⟩

set_option maxRecDepth 100000 in
theorem openEntry {H : Type} {enc : TypeId × Value → H} {W : World} {fuel : Nat} {cs : Array Value} {x : DataW H × List MemPlace}
    (hf : DataW.trod enc Try.prog W 0 (fun _ => true) true fuel 60 cs.toList = some x) :
    ∃ (n : Bool) (p q : Int) (a1 a2 : Option Addr) (c1 c2 : Nat) (xs ys : List (Int × Int)) (v k : Int), cs = #[.bool n, .int .i64 p, .int .i64 q, .slice a1 xs.length c1, .slice a2 ys.length c2, .int .i64 v, .int .i64 k] ∧ Sl W a1 xs ∧ Sl W a2 ys ∧ xs.length ≤ c1 ∧ ys.length ≤ c2 ∧ c1 ≤ maxLen ∧ c2 ≤ maxLen ∧ Fits p ∧ Fits q ∧ Fits v ∧ Fits k := by
  obtain ⟨l⟩ := cs
  obtain ⟨xs, n, hk, hxy, hl, hxl, hfd⟩ := DataW.trod_struct Try.underlying60 hf
  rw [cellsEntry] at hl
  match xs, hxl, l, hl with
  | [y0, y1, y2], _, [v0, v1, v2, v3, v4, v5, v6], _ =>
    have g0 := hfd 0 _ rfl
    have g1 := hfd 1 _ rfl
    have g2 := hfd 2 _ rfl
    simp [cellsBool, cellsReq, cellsRun] at g0 g1 g2
    obtain ⟨b, rfl⟩ := bool_cell g0
    obtain ⟨p, q, rfl, rfl, fp, fq⟩ := req_cells g1
    obtain ⟨a1, a2, c1, c2, xs, ys, v, k, hcs, s1, s2, l1, l2, m1, m2, fv, fk⟩ := openRun (cs := #[v3, v4, v5, v6]) g2
    simp at hcs
    obtain ⟨rfl, rfl, rfl, rfl⟩ := hcs
    exact ⟨b, p, q, a1, a2, c1, c2, xs, ys, v, k, rfl, s1, s2, l1, l2, m1, m2, fp, fq, fv, fk⟩
end Go.Proofs.Ytbbbfnfpmaogoaa.Own

namespace Go.Proofs.Ytbbbfnfpmaogoaa.Own
open Go.ChangeShapes Go.WideShapes Go.ChangeAt Go.RowKit
set_option linter.unusedVariables false

theorem cellsVote : Try.prog.cellsOf 122 = 8 := by kernel_rfl
theorem cellsVotes : Try.prog.cellsOf 42 = 1 := by kernel_rfl

set_option maxRecDepth 100000 in
theorem openVotes {H : Type} {enc : TypeId × Value → H} {W : World} {fuel : Nat} {a : Option Addr} {len cap : Nat} {x : DataW H × List MemPlace}
    (hf : DataW.trod enc Try.prog W 0 (fun _ => true) true fuel 42 [.slice a len cap] = some x) : ∃ vs : List VM, vs.length = len ∧ SlV W a vs ∧ vs.length ≤ maxLen ∧ ∀ i, i < vs.length → (vs.getD i v0).b.xs.length ≤ maxLen ∧ (vs.getD i v0).b.ys.length ≤ maxLen := by
  rcases Deep.open_slice Try.underlying42 hf with ⟨hcs, _⟩ | ⟨ad, l, c, m, n, D, Pl, hcs, _, hl, hm, hmm, _, hx⟩
  · simp at hcs
    obtain ⟨rfl, rfl, rfl⟩ := hcs
    exact ⟨[], rfl, .inl rfl, by simp, fun k hk => by simp at hk⟩
  · simp at hcs
    obtain ⟨rfl, rfl, rfl⟩ := hcs
    have hmm' : m = cap := by simpa using hmm
    subst hmm'
    have ex : ∀ i, i < m → ∃ p : VM, ((W.cell? (ad.add (i * 8)) = some (.int .i64 p.bal) ∧ W.cell? (ad.add (i * 8 + 1)) = some (.bool p.b.n) ∧ W.cell? (ad.add (i * 8 + 2)) = some (.int .i64 p.b.p) ∧ W.cell? (ad.add (i * 8 + 3)) = some (.int .i64 p.b.q) ∧ W.cell? (ad.add (i * 8 + 4)) = some (.slice p.a1 p.b.xs.length p.c1) ∧ W.cell? (ad.add (i * 8 + 5)) = some (.slice p.a2 p.b.ys.length p.c2) ∧ W.cell? (ad.add (i * 8 + 6)) = some (.int .i64 p.b.v) ∧ W.cell? (ad.add (i * 8 + 7)) = some (.int .i64 p.b.k)) ∧ Sl W p.a1 p.b.xs ∧ Sl W p.a2 p.b.ys) ∧ p.b.xs.length ≤ maxLen ∧ p.b.ys.length ≤ maxLen := by
      intro i hi
      obtain ⟨cs', h1, h2⟩ := hx i hi
      rw [cellsVote] at h1
      obtain ⟨_, hlen, hcell⟩ := World.cells?_some h1
      obtain ⟨xs, k, hk, hxy, _, hxl, hfd⟩ := DataW.trod_struct Try.underlying122 h2
      match xs, hxl, cs', hlen with
      | [y0, y1], _, [u0, u1, u2, u3, u4, u5, u6, u7], _ =>
        have g0 := hfd 0 _ rfl
        have g1 := hfd 1 _ rfl
        simp [cellsInt, cellsEntry] at g0 g1
        obtain ⟨z0, rfl, f0⟩ := int_cell g0
        obtain ⟨en, ep, eq, a1, a2, c1, c2, xs, ys, v, kk, hcs, s1, s2, l1, l2, m1, m2, _⟩ := openEntry (cs := #[u1, u2, u3, u4, u5, u6, u7]) g1
        simp at hcs
        obtain ⟨rfl, rfl, rfl, rfl, rfl, rfl, rfl⟩ := hcs
        have e0 := hcell 0 (by omega)
        have e1 := hcell 1 (by omega)
        have e2 := hcell 2 (by omega)
        have e3 := hcell 3 (by omega)
        have e4 := hcell 4 (by omega)
        have e5 := hcell 5 (by omega)
        have e6 := hcell 6 (by omega)
        have e7 := hcell 7 (by omega)
        rw [Deep.add_add] at e0 e1 e2 e3 e4 e5 e6 e7
        exact ⟨⟨z0, ⟨en, ep, eq, xs, ys, v, kk⟩, a1, c1, a2, c2⟩, ⟨⟨by simpa using e0, by simpa using e1, by simpa using e2, by simpa using e3, by simpa using e4, by simpa using e5, by simpa using e6, by simpa using e7⟩, s1, s2⟩, Nat.le_trans l1 m1, Nat.le_trans l2 m2⟩
    obtain ⟨f, hf2⟩ := Deep.choose_lt ex
    have ge : ∀ i, i < len → ((List.range len).map f).getD i v0 = f i := fun i hi => by simp [List.getD, hi]
    refine ⟨(List.range len).map f, by simp, ?_, by simp; omega, fun i hi => ?_⟩
    case' refine_2 =>
      have hi' : i < len := by simpa using hi
      rw [ge i hi']; exact (hf2 i (by omega)).2
    by_cases h0 : len = 0
    · left; simp [h0]
    right
    obtain ⟨b, off, spot⟩ := ad
    have c0 := (hf2 0 (by omega)).1.1.1
    have hspot : spot = none := by simpa [Addr.add] using World.cell?_spot c0
    subst hspot
    refine ⟨b, off, rfl, ?_, ?_⟩
    · have : W.cell? ⟨b, off, none⟩ = some (.int .i64 (f 0).bal) := by simpa [Addr.add] using c0
      simp only [World.cell?] at this
      cases hq : W.heap[b]? with
      | none => simp [hq] at this
      | some o => exact (Array.getElem?_eq_some_iff.1 hq).1
    · intro i hi
      have hi' : i < len := by simpa using hi
      have := (hf2 i (by omega)).1
      rw [add_eq4, add_eq4, add_eq4, add_eq4, add_eq4, add_eq4, add_eq4, add_eq4] at this
      rw [ge i hi']
      exact this

end Go.Proofs.Ytbbbfnfpmaogoaa.Own

namespace Go.Proofs.Ytbbbfnfpmaogoaa.Own
open Go.RowKit Go.Sort
set_option linter.unusedVariables false
set_option linter.unusedSimpArgs false

set_option maxRecDepth 100000 in
set_option maxHeartbeats 2000000 in
theorem specAccOk (m : Int) (a : Option Addr) (c : Nat) (vs : List VM) (w : World) (h : SlV w a vs) (hn : vs.length ≤ 2 ^ 40) (hl : VLs vs) :
    Calls Try.prog 20 #[.agg #[.int .i64 m, .slice a vs.length c]] w fun e w' => e = .returned (.bool (accOk m (bodies vs))) ∧ Below w.heap.size w w' := by
  have E : Hid (accOk m (bodies vs) = (decide (0 ≤ m) && decide (m ≤ 3000) && votesOk (bodies vs) && (bodies vs).all fun x => decide (x.1 ≤ m))) := rfl
  have E2 : Hid (∀ i, i < vs.length → m < (vs.getD i v0).bal → (bodies vs).all (fun x => decide (x.1 ≤ m)) = false) := fun i hi h => allV_not (0, e0) (i := i) (by rw [bodies_len]; exact hi) (by rw [bodies_getD]; exact decide_eq_false (by show ¬ (vs.getD i v0).bal ≤ m; omega))
  have E3 : Hid ((∀ i, i < vs.length → (vs.getD i v0).bal ≤ m) → (bodies vs).all (fun x => decide (x.1 ≤ m)) = true) := fun h2 => allV_at (0, e0) (fun i hi => by rw [bodies_getD]; exact decide_eq_true (h2 i (by rw [bodies_len] at hi; exact hi)))
  generalize accOk m (bodies vs) = T at E ⊢
  generalize (bodies vs).all (fun x => decide (x.1 ≤ m)) = U at E E2 E3
  obtain ⟨W, hW⟩ : ∃ W, W = w.alloc (.cells #[.int .i64 m, .slice a vs.length c] 24) := ⟨_, rfl⟩
  have BW : Hid (Below w.heap.size w W) := by show Below _ _ _; rw [hW]; exact (Below.refl _ _).alloc (Nat.le_refl _) _
  have G0 : Hid (Blk W w.heap.size #[.int .i64 m, .slice a vs.length c] 24) := by show Blk _ _ _ _; rw [hW]; exact Blk.new _ _ _
  have HW : Hid (W = _) := hW
  clear hW
  have HS : Hid (SlV W a vs) := h.below BW.out
  have HC : Hid (Calls Try.prog 68 #[.slice a vs.length c] W fun e w' => e = .returned (.bool (votesOk (bodies vs))) ∧ Below W.heap.size W w') := specVotes a c vs W (h.below BW.out) hn hl
  clear h hl
  generalize votesOk (bodies vs) = VO at E HC
  cases h1 : decide (0 ≤ m) with
  | false =>
    have F : Hid (T = false) := by show _ = _; rw [E.out, h1]; rfl
    have hi : m < 0 := by simpa using h1
    clear E h1
    go_enter Try.func20, Try.ntmps20
    go_wp2_with fail
    go_ret
    exact ⟨ret_bool F.out.symm, by rw [← HW.out]; exact BW.out⟩
  | true =>
    have hi1 : ¬ m < 0 := by simpa using h1
    cases h2 : decide (m ≤ 3000) with
    | false =>
      have F : Hid (T = false) := by show _ = _; rw [E.out, h1, h2]; rfl
      have hi : m > 3000 := by simpa using h2
      clear E h1 h2
      go_enter Try.func20, Try.ntmps20
      go_wp2_with fail
      go_ret
      exact ⟨ret_bool F.out.symm, by rw [← HW.out]; exact BW.out⟩
    | true =>
      have hi2 : ¬ m > 3000 := by simpa using h2
      have E4 : Hid (T = (VO && U)) := by show _ = _; rw [E.out, h1, h2]; simp
      clear E h1 h2
      go_enter Try.func20, Try.ntmps20
      go_wp2_with fail
      rw [← HW.out]
      refine Calls.mono HC.out ?_
      rintro e w1 ⟨rfl, b1⟩
      have B1 : Hid (Below w.heap.size w w1) := BW.out.trans (b1.mono BW.out.size)
      have B2 : Hid (Below W.heap.size W w1) := b1
      obtain ⟨q0, q1⟩ := (G0.out.keep b1).cells2
      clear b1
      cases VO with
      | false =>
        have F : Hid (T = false) := by show _ = _; rw [E4.out]; rfl
        go_wp2_with fail
        go_ret
        exact ⟨ret_bool F.out.symm, B1.out⟩
      | true =>
        have F : Hid (T = U) := by show _ = _; rw [E4.out]; rfl
        clear E4
        go_wp2_with fail
        clear q0 q1
        go_loopw [3] (fun i wr => ∃ k : Nat, k ≤ vs.length ∧ i = .int .i64 k ∧ Hid (∀ j, j < k → (vs.getD j v0).bal ≤ m) ∧ Hid (Below W.heap.size W wr)) (fun i _ => vs.length - (intOf i).toNat)
        case atStart => exact ⟨0, Nat.zero_le _, rfl, fun j hj => by omega, B2.out⟩
        case round =>
          obtain ⟨k, hk, rfl, HA, KB⟩ := hrel
          obtain ⟨q0, q1⟩ := (G0.out.keep KB.out).cells2
          have KW : Hid (Below w.heap.size w wr) := BW.out.trans (KB.out.mono BW.out.size)
          by_cases hlt : k < vs.length
          · have hki : (k : Int) < (vs.length : Int) := by omega
            rcases HS.out.below KB.out with hh | ⟨b, off, rfl, _, hh⟩
            · rw [hh] at hlt; simp at hlt
            have d0 := (hh k hlt).1.1
            clear hh
            obtain ⟨y, hy⟩ : ∃ y, y = (vs.getD k v0).bal := ⟨_, rfl⟩
            rw [← hy] at d0
            by_cases hb : y > m
            · have F2 : Hid (T = false) := by show _ = _; rw [F.out]; exact E2.out k hlt (by rw [← hy]; exact hb)
              have hb2 : decide (m < y) = true := decide_eq_true hb
              clear hy hb
              go_wp2_with fail
              go_quiet (fail)
              go_wp2_with fail
              go_ret
              exact ⟨ret_bool F2.out.symm, below_drewN KW.out _⟩
            · have NX : Hid (∀ j, j < k + 1 → (vs.getD j v0).bal ≤ m) := fun j hj => by
                by_cases e : j = k
                · subst e; rw [← hy]; omega
                · exact HA.out j (by omega)
              have hb2 : decide (m < y) = false := decide_eq_false hb
              clear hy hb
              go_wp2_with fail
              go_quiet (fail)
              go_wp2_with fail
              go_roundw
              case rel => exact ⟨k + 1, by omega, by go_num, NX.out, below_drewN KB.out _⟩
              case measure => simp [intOf]; omega
          · have hki : ¬ (k : Int) < (vs.length : Int) := by omega
            have F2 : Hid (T = true) := by show _ = _; rw [F.out]; exact E3.out (fun i hi => HA.out i (by omega))
            go_wp2_with fail
            go_ret
            exact ⟨ret_bool F2.out.symm, KW.out⟩
end Go.Proofs.Ytbbbfnfpmaogoaa.Own

namespace Go.Proofs.Ytbbbfnfpmaogoaa.Own
open Go.RowKit
set_option linter.unusedVariables false

/-- What came in is of a length that the walks take. -/
def VM0 (vs : List VM) : Prop := ∀ i, i < vs.length → (vs.getD i v0).b.xs.length ≤ maxLen ∧ (vs.getD i v0).b.ys.length ≤ maxLen
def VL0 (vs : List VM) : Prop := ∀ i, i < vs.length → (vs.getD i v0).b.xs.length ≤ 2 ^ 40 ∧ (vs.getD i v0).b.ys.length ≤ 2 ^ 40
theorem VL0.ofSum {vs : List VM} {n : Nat} (h : sumV vs vs.length ≤ n) (hn : n ≤ 2 ^ 40) : VL0 vs := fun i hi => by
  have := sumV_at vs hi
  exact ⟨by omega, by omega⟩
theorem VL0.vms {vs : List VM} (h : VL0 vs) (gs : List (Nat × Nat)) : VL0 (vmsOf gs (bodies vs)) := fun i hi => by
  rw [vmsOf_len] at hi
  rw [vmsOf_at gs _ hi, bodies_getD]
  rw [bodies_len] at hi
  exact h i hi

theorem CopyV.keep {w w' : World} {N b : Nat} {gs : List (Nat × Nat)} {bs : List V} (h : CopyV w b gs bs) (hk : KeepFrom N w w') (hN : N ≤ b) : CopyV w' b gs bs := by
  have hb : w'.heap[b]? = w.heap[b]? := hk.2 b hN
  have e := fun o => World.cell?_of_block (w := w) (w' := w') (a := ⟨b, o, none⟩) hb
  have O : ∀ i, i < bs.length → RunOwn w' (b + 1) (gs.getD i (0, 0)).1 (gs.getD i (0, 0)).2 (bs.getD i (0, e0)).2.xs (bs.getD i (0, e0)).2.ys := fun i hi => (h.own i hi).keep hk (by have := (h.own i hi).1; omega) (by have := (h.own i hi).2.1; omega)
  refine ⟨h.len, by rw [hk.1]; exact h.lt, fun i hi => ?_, O, h.asc⟩
  have c := (h.cell i hi).1
  refine ⟨?_, .inr ⟨_, _, rfl, (O i hi).2.2.2.1⟩, .inr ⟨_, _, rfl, (O i hi).2.2.2.2.1⟩⟩
  rw [e, e, e, e, e, e, e, e]; exact c

theorem vls_of {vs : List VM} (h : VL0 vs) (gs : List (Nat × Nat)) : VLs (vmsOf gs (bodies vs)) := CopyV.vls fun i hi => by rw [bodies_len] at hi; rw [bodies_getD]; exact h i hi
end Go.Proofs.Ytbbbfnfpmaogoaa.Own

namespace Go.Proofs.Ytbbbfnfpmaogoaa.Own
open Go.RowKit
set_option linter.unusedVariables false
set_option linter.unusedSimpArgs false

set_option maxHeartbeats 1000000 in
theorem szAcc (m : Int) (a : Option Addr) (c : Nat) (vs : List VM) (left : Int) (w : World) (h : SlV w a vs) (hl : vs.length ≤ maxLen) (hm : VM0 vs) (h0 : 0 ≤ left) (h1 : left ≤ 2 ^ 60) :
    Calls Try.prog 19 #[.agg #[.int .i64 m, .slice a vs.length c], .int .i64 left] w fun e w' => e = .returned (.int .i64 (if left < (vs.length + sumV vs vs.length : Nat) then -1 else left - (vs.length + sumV vs vs.length : Nat))) ∧ Below w.heap.size w w' := by
  obtain ⟨W, hW⟩ : ∃ W, W = w.alloc (.cells #[.int .i64 m, .slice a vs.length c] 44) := ⟨_, rfl⟩
  have BW : Hid (Below w.heap.size w W) := by show Below _ _ _; rw [hW]; exact (Below.refl _ _).alloc (Nat.le_refl _) _
  have HW : Hid (W = _) := hW
  clear hW
  have C := szVoteS a c vs left W (h.below BW.out) hl hm h0 h1
  clear h hm
  obtain ⟨T, hT⟩ : ∃ T, T = vs.length + sumV vs vs.length := ⟨_, rfl⟩
  rw [← hT] at C ⊢
  by_cases hb : left < (T : Nat)
  · rw [if_pos hb] at C ⊢
    have HC : Hid (Calls _ _ _ _ _) := C
    clear C hT hb
    go_enter Try.func19, Try.ntmps19
    go_wp2_with fail
    rw [← HW.out]
    refine Calls.mono HC.out ?_
    rintro e w1 ⟨rfl, b1⟩
    have B1 : Hid (Below w.heap.size w w1) := BW.out.trans (b1.mono BW.out.size)
    clear b1
    go_wp2_with fail
    go_ret
    exact ⟨rfl, B1.out⟩
  · rw [if_neg hb] at C ⊢
    have hn : ¬ left - (T : Int) < 0 := by omega
    generalize left - (T : Int) = z at C hn ⊢
    have HC : Hid (Calls _ _ _ _ _) := C
    clear C hT hb
    go_enter Try.func19, Try.ntmps19
    go_wp2_with fail
    rw [← HW.out]
    refine Calls.mono HC.out ?_
    rintro e w1 ⟨rfl, b1⟩
    have B1 : Hid (Below w.heap.size w w1) := BW.out.trans (b1.mono BW.out.size)
    clear b1
    go_wp2_with fail
    go_ret
    exact ⟨rfl, B1.out⟩

set_option maxRecDepth 100000 in
set_option maxHeartbeats 1000000 in
theorem toAcc (m : Int) (a : Option Addr) (c : Nat) (vs : List VM) (w : World) (h : SlV w a vs) (hn : vs.length ≤ 2 ^ 40) (hl : VL0 vs) :
    Calls Try.prog 21 #[.agg #[.int .i64 m, .slice a vs.length c]] w fun e w' => ∃ g gs, e = .returned (.agg #[.int .i64 m, .slice (some ⟨g, 0, none⟩) vs.length vs.length]) ∧ w.heap.size ≤ g ∧ CopyV w' g gs (bodies vs) ∧ RowV w' g vs.length ∧ Below w.heap.size w w' := by
  obtain ⟨W, hW⟩ : ∃ W, W = ((w.alloc (.cells #[.int .i64 m, .slice a vs.length c] 44)).alloc (.cells #[.int .i64 0, .slice none 0 0] 24)).alloc (.cells #[.int .i64 m, .slice none 0 0] 24) := ⟨_, rfl⟩
  have BW : Hid (Below w.heap.size w W) := by
    show Below _ _ _
    rw [hW]; exact ((((Below.refl _ _).alloc (Nat.le_refl _) _).alloc (by simp) _).alloc (by simp; omega) _)
  have SW : Hid (W.heap.size = w.heap.size + 3) := by show _ = _; rw [hW]; simp
  have G1 : Hid (Blk W (w.heap.size + 1) #[.int .i64 0, .slice none 0 0] 24) := by
    show Blk _ _ _ _; rw [hW]; exact (Blk.new2 _ _ _ _).alloc _
  have G2 : Hid (Blk W (w.heap.size + 1 + 1) #[.int .i64 m, .slice none 0 0] 24) := by
    show Blk _ _ _ _; rw [hW]; exact Blk.new3 _ _ _ _ _
  have HW : Hid (W = _) := hW
  clear hW
  have HC : Hid _ := toVoteS a c vs W (h.below BW.out) hn hl
  clear h hl
  go_enter Try.func21, Try.ntmps21
  go_wp2_with fail
  rw [← HW.out]
  refine Calls.mono HC.out ?_
  rintro e w3 ⟨rfl, ⟨gs, own⟩, row, b3⟩
  have F1 : Hid (Blk w3 (w.heap.size + 1) _ _) := G1.out.keep b3
  have F2 : Hid (Blk w3 (w.heap.size + 1 + 1) _ _) := G2.out.keep b3
  have B3 : Hid (Below w.heap.size w w3) := BW.out.trans (b3.mono BW.out.size)
  have O3 : Hid (CopyV w3 W.heap.size gs (bodies vs) ∧ RowV w3 W.heap.size vs.length) := ⟨own, row⟩
  have N3 : Hid (w.heap.size + 3 ≤ W.heap.size) := by have := SW.out; show _ ≤ _; omega
  clear b3 own row
  obtain ⟨i0, i1⟩ := F1.out.cells2
  obtain ⟨o0, o1⟩ := F2.out.cells2
  have fo := F2.out.frozen
  have fi := F1.out.frozen
  go_wp2
  refine bodyPost_ret (v := .agg #[.int .i64 m, .slice (some ⟨W.heap.size, 0, none⟩) vs.length vs.length]) (by simp [results, Try.results21, go_sem, i0, i1]) rfl ⟨W.heap.size, gs, rfl, BW.out.size, ?_, ?_, ?_⟩
  · have KK : KeepFrom (w.heap.size + 3) w3 _ := (((KeepFrom.refl (w.heap.size + 3) w3).setCell (p := ⟨w.heap.size + 1 + 1, 1, none⟩) (by show w.heap.size + 1 + 1 < _; omega) (.slice (some ⟨W.heap.size, 0, none⟩) vs.length vs.length)).setCell (p := ⟨w.heap.size + 1, 0, none⟩) (by show w.heap.size + 1 < _; omega) (.int .i64 m)).setCell (p := ⟨w.heap.size + 1, 1, none⟩) (by show w.heap.size + 1 < _; omega) (.slice (some ⟨W.heap.size, 0, none⟩) vs.length vs.length)
    exact O3.out.1.keep KK N3.out
  · have KK : KeepFrom (w.heap.size + 3) w3 _ := (((KeepFrom.refl (w.heap.size + 3) w3).setCell (p := ⟨w.heap.size + 1 + 1, 1, none⟩) (by show w.heap.size + 1 + 1 < _; omega) (.slice (some ⟨W.heap.size, 0, none⟩) vs.length vs.length)).setCell (p := ⟨w.heap.size + 1, 0, none⟩) (by show w.heap.size + 1 < _; omega) (.int .i64 m)).setCell (p := ⟨w.heap.size + 1, 1, none⟩) (by show w.heap.size + 1 < _; omega) (.slice (some ⟨W.heap.size, 0, none⟩) vs.length vs.length)
    exact O3.out.2.block (KK.2 _ N3.out)
  · have s2 : w.heap.size ≤ w.heap.size + 1 + 1 := by omega
    have s1 : w.heap.size ≤ w.heap.size + 1 := by omega
    exact ((B3.out.setCell s2 _).setCell s1 _).setCell s1 _

set_option maxRecDepth 100000 in
set_option maxHeartbeats 1000000 in
theorem eqAcc (m : Int) (a b : Option Addr) (c d : Nat) (vs us : List VM) (w : World) (h1 : SlV w a vs) (h2 : SlV w b us) (hb : bodies vs = bodies us) (hn : vs.length ≤ 2 ^ 40) (hl : VL0 vs) :
    Calls Try.prog 23 #[.agg #[.int .i64 m, .slice a vs.length c], .agg #[.int .i64 m, .slice b us.length d]] w fun e w' => e = .returned (.bool true) ∧ Below w.heap.size w w' := by
  obtain ⟨W, hW⟩ : ∃ W, W = (w.alloc (.cells #[.int .i64 m, .slice a vs.length c] 24)).alloc (.cells #[.int .i64 m, .slice b us.length d] 24) := ⟨_, rfl⟩
  have BW : Hid (Below w.heap.size w W) := by
    show Below _ _ _
    rw [hW]; exact ((Below.refl _ _).alloc (Nat.le_refl _) _).alloc (by simp) _
  have HW : Hid (W = _) := hW
  clear hW
  have HC : Hid _ := eqVoteS a b c d vs us W (h1.below BW.out) (h2.below BW.out) hb hn hl
  clear h1 h2 hb hl
  have em : (m != m) = false := by simp
  go_enter Try.func23, Try.ntmps23
  go_wp2_with fail
  rw [← HW.out]
  refine Calls.mono HC.out ?_
  rintro e w2 ⟨rfl, b2'⟩
  have B2 : Hid (Below w.heap.size w w2) := BW.out.trans (b2'.mono BW.out.size)
  clear b2'
  go_wp2_with fail
  go_ret
  exact ⟨rfl, B2.out⟩
end Go.Proofs.Ytbbbfnfpmaogoaa.Own

namespace Go.Proofs.Ytbbbfnfpmaogoaa.Own
open Go.RowKit
set_option linter.unusedVariables false
set_option linter.unusedSimpArgs false

/-- Of the blocks that were there, none has turned but what lies from block B on and below block T. -/
structure OutG (B T : Nat) (w w' : World) : Prop where
  size : w.heap.size ≤ w'.heap.size
  os : w'.os = w.os
  tape : w'.tape = w.tape
  output : w'.output = w.output
  block : ∀ b, b < w.heap.size → (b < B ∨ T ≤ b) → w'.heap[b]? = w.heap[b]?
theorem OutG.below {B T C : Nat} {w w' : World} (h : OutG B T w w') (hC : C ≤ B) (hw : C ≤ w.heap.size) : Below C w w' := ⟨h.os, h.tape, h.output, h.size, fun k hk => h.block k (by omega) (.inl (by omega))⟩
theorem OwnR.outG {w w' : World} {B T B' T' : Nat} {v : Value} {L : List VM} (h : OwnR w B T v L) (o : OutG B' T' w w') (hd : T ≤ B' ∨ T' ≤ B) : OwnR w' B T v L :=
  h.keepIn o.size fun b h1 h2 => o.block b (by have := h.1; omega) (by omega)
theorem HeldR.outG {w w' : World} {B T B' T' : Nat} {v : Value} {k0 : Int} {L : List VM} (h : HeldR w B T v k0 L) (o : OutG B' T' w w') (hd : T ≤ B' ∨ T' ≤ B) : HeldR w' B T v k0 L :=
  h.keepIn o.size fun b h1 h2 => o.block b (by have := h.1; omega) (by omega)
theorem Blk.outG {w w' : World} {B T b : Nat} {C : Array Value} {t : TypeId} (h : Blk w b C t) (o : OutG B T w w') (hd : b < B ∨ T ≤ b) : Blk w' b C t := by
  unfold Blk; rw [o.block b h.lt hd]; exact h

theorem toAR (m : Int) (a : Option Addr) (c : Nat) (vs : List VM) (w : World) (h : SlV w a vs) (hn : vs.length ≤ 2 ^ 30) (hl : Short (2 ^ 30) (bodies vs)) :
    Calls Try.prog 21 #[.agg #[.int .i64 m, .slice a vs.length c]] w fun e w' => ∃ v L, e = .returned (.agg #[.int .i64 m, v]) ∧ OwnR w' w.heap.size w'.heap.size v L ∧ bodies L = bodies vs ∧ VLs L ∧ Below w.heap.size w w' := by
  refine (toAcc m a c vs w h (by omega) (fun i hi => by have := hl.vm i hi; omega)).mono ?_
  rintro e w' ⟨g, gs, rfl, hg, hc, hr, hb⟩
  exact ⟨_, vmsOf gs (bodies vs), rfl, OwnR.ofCopy hc hr hg (by rw [bodies_len]), vmsOf_bodies _ _, CopyV.vls (fun i hi => by have := hl i hi; omega), hb⟩
theorem eqAR (m : Int) (B T B' T' : Nat) (v u : Value) (L M : List VM) (w : World) (h1 : OwnR w B T v L) (h2 : OwnR w B' T' u M) (hb : bodies L = bodies M) (hn : L.length ≤ 2 ^ 40) (hl : VL0 L) :
    Calls Try.prog 23 #[.agg #[.int .i64 m, v], .agg #[.int .i64 m, u]] w fun e w' => e = .returned (.bool true) ∧ Below w.heap.size w w' := by
  obtain ⟨a, c, rfl, s1⟩ := h1.form
  obtain ⟨b, d, rfl, s2⟩ := h2.form
  exact eqAcc m a b c d L M w s1 s2 hb hn hl

set_option maxRecDepth 100000 in
set_option maxHeartbeats 800000 in
theorem markAR (m : Int) (B T : Nat) (v : Value) (L : List VM) (k0 : Int) (w : World) (h : OwnR w B T v L) (hn : L.length ≤ 2 ^ 30) (hk0 : 0 ≤ k0) (hk1 : k0 ≤ 2 ^ 30) (hs : stepsV L L.length ≤ 2 ^ 30) :
    Calls Try.prog 26 #[.agg #[.int .i64 m, v], .int .i64 k0] w fun e w' => e = .returned (.int .i64 (k0 + (stepsV L L.length : Nat))) ∧ HeldR w' B T v k0 L ∧ OutG B T w w' := by
  obtain ⟨a, c, rfl, _⟩ := h.form
  have H : Hid (OwnR w B T (.slice a L.length c) L) := h
  have HS : Hid (stepsV L L.length ≤ 2 ^ 30) := hs
  obtain ⟨W, hW⟩ : ∃ W, W = w.alloc (.cells #[.int .i64 m, .slice a L.length c] 24) := ⟨_, rfl⟩
  have BW : Hid (Below w.heap.size w W) := by show Below _ _ _; rw [hW]; exact (Below.refl _ _).alloc (Nat.le_refl _) _
  have HW : Hid (W = _) := hW
  have MC : Hid _ := markR B T _ L k0 W (H.out.keep BW.out) hn hk0 hk1 HS.out
  clear hW h hs
  generalize k0 + (stepsV L L.length : Nat) = kk at MC ⊢
  go_enter Try.func26, Try.ntmps26
  go_wp2_with fail
  rw [← HW.out]
  refine Calls.mono MC.out ?_
  rintro e w1 ⟨rfl, h1, o1⟩
  have F : Hid (HeldR w1 B T (.slice a L.length c) k0 L ∧ OutG B T w w1) := ⟨h1, by have := BW.out.size; rw [o1.size]; exact this, o1.os.trans BW.out.os, o1.tape.trans BW.out.tape, o1.output.trans BW.out.output, fun b hb hd => (o1.block b hd).trans (BW.out.block b hb)⟩
  clear h1 o1
  go_wp2_with fail
  go_ret
  exact ⟨rfl, F.out⟩

set_option maxRecDepth 100000 in
set_option maxHeartbeats 800000 in
theorem heldAR (m : Int) (B T : Nat) (v : Value) (L : List VM) (k0 : Int) (w : World) (h : HeldR w B T v k0 L) (hn : L.length ≤ 2 ^ 30) (hk0 : 0 ≤ k0) (hk1 : k0 ≤ 2 ^ 30) (hs : stepsV L L.length ≤ 2 ^ 30) :
    Calls Try.prog 27 #[.agg #[.int .i64 m, v], .int .i64 k0] w fun e w' => e = .returned (.int .i64 (k0 + (stepsV L L.length : Nat))) ∧ Below w.heap.size w w' := by
  obtain ⟨hT, a, c, rfl, hx⟩ := h
  have H : Hid (HeldR w B T (.slice a L.length c) k0 L) := ⟨hT, a, c, rfl, hx⟩
  have HS : Hid (stepsV L L.length ≤ 2 ^ 30) := hs
  obtain ⟨W, hW⟩ : ∃ W, W = w.alloc (.cells #[.int .i64 m, .slice a L.length c] 24) := ⟨_, rfl⟩
  have BW : Hid (Below w.heap.size w W) := by show Below _ _ _; rw [hW]; exact (Below.refl _ _).alloc (Nat.le_refl _) _
  have HW : Hid (W = _) := hW
  have MC : Hid _ := heldR B T _ L k0 W (H.out.keep BW.out) hn hk0 hk1 HS.out
  clear hW hx hs hT
  have kn : ¬ k0 + (stepsV L L.length : Nat) < 0 := by omega
  generalize k0 + (stepsV L L.length : Nat) = kk at MC kn ⊢
  go_enter Try.func27, Try.ntmps27
  go_wp2_with fail
  rw [← HW.out]
  refine Calls.mono MC.out ?_
  rintro e w1 ⟨rfl, h1⟩
  subst h1
  go_wp2_with fail
  go_ret
  exact ⟨rfl, BW.out⟩
end Go.Proofs.Ytbbbfnfpmaogoaa.Own

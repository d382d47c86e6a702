/-
  Own text, by program (gen_lawvote.py): laws.FnExactAccVote.
-/
import Derived.Test.YtbbbfnfpmaogoaaQVoteR
import Derived.Deep.Cut
import Derived.Deep.CutRange
namespace Go.Proofs.Ytbbbfnfpmaogoaa.Own
open Go.RowKit
set_option linter.unusedVariables false
set_option linter.unusedSimpArgs false

set_option maxRecDepth 100000 in
set_option maxHeartbeats 3000000 in
theorem lawAccVote (m : Int) (a : Option Addr) (c : Nat) (vs : List VM) (bal slot : Int) (n : Bool) (p q : Int) (a1 a2 : Option Addr) (c1 c2 : Nat) (xs ys : List P2) (v k : Int) (w : World) (h1 : SlV w a vs) (n1 : vs.length ≤ maxLen) (m1 : VM0 vs) (h2 : Sl w a1 xs) (h3 : Sl w a2 ys) (n2 : xs.length ≤ maxLen) (n3 : ys.length ≤ maxLen) :
    Calls Try.prog 6 #[.agg #[.int .i64 m, .slice a vs.length c], .int .i64 bal, .int .i64 slot, .agg #[.bool n, .int .i64 p, .int .i64 q, .slice a1 xs.length c1, .slice a2 ys.length c2, .int .i64 v, .int .i64 k]] w fun e w' => e = .returned (.bool true) ∧ Below w.heap.size w w' := by
  have HA0 : Hid (SlV w a vs) := h1
  have HE10 : Hid (Sl w a1 xs) := h2
  have HE20 : Hid (Sl w a2 ys) := h3
  have M1 : Hid (VM0 vs) := m1
  have N1 : Hid (vs.length ≤ maxLen) := n1
  have N2 : Hid (xs.length ≤ maxLen ∧ ys.length ≤ maxLen) := ⟨n2, n3⟩
  clear h1 m1 n1 h2 h3 n2 n3
  obtain ⟨s1, hs1⟩ : ∃ s, s = vs.length + sumV vs vs.length := ⟨_, rfl⟩
  have HS1 : Hid (s1 = vs.length + sumV vs vs.length) := hs1
  clear hs1
  obtain ⟨U, hU⟩ : ∃ U, U = (w.alloc (.cells #[.int .i64 m, .slice a vs.length c] 44)).alloc (.cells #[.bool n, .int .i64 p, .int .i64 q, .slice a1 xs.length c1, .slice a2 ys.length c2, .int .i64 v, .int .i64 k] 60) := ⟨_, rfl⟩
  have HU : Hid (U = _) := hU
  have BU : Hid (Below w.heap.size w U) := by show Below _ _ _; rw [hU]; exact ((Below.refl _ _).alloc (Nat.le_refl _) _).alloc (by simp) _
  have PU : Hid (Blk U w.heap.size #[.int .i64 m, .slice a vs.length c] 44) := by show Blk _ _ _ _; rw [hU]; exact (Blk.new _ _ _).alloc _
  have EU : Hid (Blk U (w.heap.size + 1) #[.bool n, .int .i64 p, .int .i64 q, .slice a1 xs.length c1, .slice a2 ys.length c2, .int .i64 v, .int .i64 k] 60) := by show Blk _ _ _ _; rw [hU]; exact Blk.new2 _ _ _ _
  clear hU
  have CZ1 : Hid (Calls Try.prog 19 #[.agg #[.int .i64 m, .slice a vs.length c], .int .i64 1048576] U fun e w'' => e = .returned (.int .i64 (if (1048576 : Int) < (s1 : Nat) then -1 else 1048576 - (s1 : Nat))) ∧ Below U.heap.size U w'') := by
    show Calls _ _ _ _ _
    rw [HS1.out]
    exact szAcc m a c vs 1048576 U (HA0.out.below BU.out) N1.out M1.out (by decide) (by decide)
  have CZ2 : Hid (∀ z : Int, 0 ≤ z → z ≤ 1048576 → ∀ w', Calls Try.prog 28 #[.agg #[.bool n, .int .i64 p, .int .i64 q, .slice a1 xs.length c1, .slice a2 ys.length c2, .int .i64 v, .int .i64 k], .int .i64 z] w' fun e w'' => e = .returned (.int .i64 (if z - xs.length - ys.length < 0 then -1 else z - xs.length - ys.length)) ∧ Below w'.heap.size w' w'') := fun z h0 h1 w' => szEntry n p q a1 a2 xs.length c1 ys.length c2 v k z w' N2.out.1 N2.out.2 h0 (by omega)
  obtain ⟨q0, q1'⟩ := PU.out.cells2
  by_cases hn : s1 ≤ 1048576
  case neg =>
    have F : (if (1048576 : Int) < (s1 : Nat) then (-1 : Int) else 1048576 - (s1 : Nat)) = -1 := if_pos (by omega)
    rw [F] at CZ1
    clear F hn CZ2
    go_enter Try.func6, Try.ntmps6
    go_upto_region 2 with fail
    rw [← HU.out]
    go_wp2_with fail
    refine Calls.mono CZ1.out ?_
    rintro e w1 ⟨rfl, b1⟩
    have B1 : Hid (Below w.heap.size w w1) := BU.out.trans (b1.mono BU.out.size)
    clear b1
    go_wp2_with fail
    go_ret
    exact ⟨rfl, B1.out⟩
  have F : (if (1048576 : Int) < (s1 : Nat) then (-1 : Int) else 1048576 - (s1 : Nat)) = 1048576 - (s1 : Nat) := if_neg (by omega)
  rw [F] at CZ1
  clear F
  obtain ⟨z, hz⟩ : ∃ z : Int, z = 1048576 - (s1 : Nat) := ⟨_, rfl⟩
  rw [← hz] at CZ1
  have hz0 : ¬ z < 0 := by omega
  have C2 := CZ2.out z (by omega) (by omega)
  by_cases hn2 : z - xs.length - ys.length < 0
  case pos =>
    rw [if_pos hn2] at C2
    have D2 : Hid _ := C2
    clear C2 CZ2 hn hn2 hz
    go_enter Try.func6, Try.ntmps6
    go_upto_region 2 with fail
    rw [← HU.out]
    go_wp2_with fail
    refine Calls.mono CZ1.out ?_
    rintro e w1 ⟨rfl, b1⟩
    have B1 : Hid (Below w.heap.size w w1) := BU.out.trans (b1.mono BU.out.size)
    obtain ⟨e0, e1, e2, e3, e4, e5, e6⟩ := (EU.out.keep b1).cells7
    clear b1
    go_wp2_with fail
    refine Calls.mono (D2.out w1) ?_
    rintro e w2 ⟨rfl, b2⟩
    have B2 : Hid (Below w.heap.size w w2) := B1.out.trans (b2.mono B1.out.size)
    clear b2
    go_wp2_with fail
    go_ret
    exact ⟨rfl, B2.out⟩
  rw [if_neg hn2] at C2
  have SX : xs.length ≤ 2 ^ 21 ∧ ys.length ≤ 2 ^ 21 := by omega
  obtain ⟨z2, hz2⟩ : ∃ z2 : Int, z2 = z - xs.length - ys.length := ⟨_, rfl⟩
  rw [← hz2] at C2
  have hz3 : ¬ z2 < 0 := by omega
  have D2 : Hid _ := C2
  have SA : Hid (Short (2 ^ 21) (bodies vs)) := (Short.of (n := s1) (Nat.le_of_eq HS1.out.symm)).mono (by omega)
  have NA : vs.length ≤ 2 ^ 21 := by have := HS1.out; omega
  have ND : sumV vs vs.length ≤ 2 ^ 21 := by have := HS1.out; omega
  have cs := voteTS m bal slot ⟨n, p, q, xs, ys, v, k⟩ (bodies vs)
  have ci := voteTI m bal slot ⟨n, p, q, xs, ys, v, k⟩ (bodies vs)
  unfold VoteT at cs ci
  have SB : Hid (Short (2 ^ 21) (voB m bal slot ⟨n, p, q, xs, ys, v, k⟩ (bodies vs))) := voB_short SA.out SX
  have BL : Hid ((voB m bal slot ⟨n, p, q, xs, ys, v, k⟩ (bodies vs)).length ≤ 41) := Nat.le_trans (voB_len _ _ _ _ _) (by decide)
  generalize voM m bal slot ⟨n, p, q, xs, ys, v, k⟩ (bodies vs) = M at cs ci
  generalize voB m bal slot ⟨n, p, q, xs, ys, v, k⟩ (bodies vs) = BB at cs ci SB BL
  generalize voO m bal slot ⟨n, p, q, xs, ys, v, k⟩ (bodies vs) = OO at cs ci
  have CS : Hid _ := cs
  have CI : Hid _ := ci
  clear hn hz cs ci C2 CZ2 hn2 hz2
  go_enter Try.func6, Try.ntmps6
  go_upto_region 2 with fail
  rw [← HU.out]
  go_wp2_with fail
  refine Calls.mono CZ1.out ?_
  rintro e u9' ⟨rfl, b1⟩
  have BW1 : Hid (Below w.heap.size w u9') := BU.out.trans (b1.mono BU.out.size)
  have PA1 : Hid (Blk u9' w.heap.size #[.int .i64 m, .slice a vs.length c] 44) := PU.out.keep b1
  have PE1 : Hid (Blk u9' (w.heap.size + 1) #[.bool n, .int .i64 p, .int .i64 q, .slice a1 xs.length c1, .slice a2 ys.length c2, .int .i64 v, .int .i64 k] 60) := EU.out.keep b1
  clear b1 CZ1 q0 q1'
  obtain ⟨e0, e1, e2, e3, e4, e5, e6⟩ := PE1.out.cells7
  go_wp2_with fail
  refine Calls.mono (D2.out u9') ?_
  rintro e u0 ⟨rfl, b2⟩
  have BW : Hid (Below w.heap.size w u0) := BW1.out.trans (b2.mono BW1.out.size)
  have PA : Hid (Blk u0 w.heap.size #[.int .i64 m, .slice a vs.length c] 44) := PA1.out.keep b2
  have PE : Hid (Blk u0 (w.heap.size + 1) #[.bool n, .int .i64 p, .int .i64 q, .slice a1 xs.length c1, .slice a2 ys.length c2, .int .i64 v, .int .i64 k] 60) := PE1.out.keep b2
  have HA : Hid (SlV u0 a vs) := HA0.out.below BW.out
  have HE1 : Hid (Sl u0 a1 xs) := HE10.out.below BW.out
  have HE2 : Hid (Sl u0 a2 ys) := HE20.out.below BW.out
  have ZZ : Hid (w.heap.size + 2 ≤ u0.heap.size) := by show _ ≤ _; have := PE.out.lt; omega
  clear b2 D2 e0 e1 e2 e3 e4 e5 e6 BW1 PA1 PE1
  go_upto_region 8 with fail
  go_cut [10, 11] from 31 to 40 (fun pt t wx => ∃ C la lc us, pt = .pointer (some ⟨C, 0, none⟩) ∧ t = .bool OO ∧ Blk wx C #[.int .i64 M, .slice la (List.length (α := VM) us) lc] 24 ∧ OwnR wx u0.heap.size wx.heap.size (.slice la us.length lc) us ∧ bodies us = BB ∧ Below u0.heap.size u0 wx ∧ u0.heap.size ≤ C)
  case first =>
    have AF : Hid (∀ V, Below u0.heap.size u0 V → (V.cell? ⟨w.heap.size, 0, none⟩ = some (.int .i64 m) ∧ V.cell? ⟨w.heap.size, 1, none⟩ = some (.slice a vs.length c)) ∧ V.cell? ⟨w.heap.size + 1, 0, none⟩ = some (.bool n) ∧ V.cell? ⟨w.heap.size + 1, 1, none⟩ = some (.int .i64 p) ∧ V.cell? ⟨w.heap.size + 1, 2, none⟩ = some (.int .i64 q) ∧ V.cell? ⟨w.heap.size + 1, 3, none⟩ = some (.slice a1 xs.length c1) ∧ V.cell? ⟨w.heap.size + 1, 4, none⟩ = some (.slice a2 ys.length c2) ∧ V.cell? ⟨w.heap.size + 1, 5, none⟩ = some (.int .i64 v) ∧ V.cell? ⟨w.heap.size + 1, 6, none⟩ = some (.int .i64 k)) := fun V hV => ⟨(PA.out.keep hV).cells2, (PE.out.keep hV).cells7⟩
    obtain ⟨V, hV⟩ : ∃ V, V = u0.drew := ⟨_, rfl⟩
    have HV : Hid (V = u0.drew) := hV
    have BV : Hid (Below u0.heap.size u0 V) := by show Below _ _ _; rw [hV]; exact (Below.refl _ _).drew
    have pv := AF.out V BV.out
    have pu := AF.out u0 (Below.refl _ _)
    clear hV
    refine wp_region_held_drew (S := (fun w' : World => (w'.cell? ⟨w.heap.size, 0, none⟩ = some (.int .i64 m) ∧ w'.cell? ⟨w.heap.size, 1, none⟩ = some (.slice a vs.length c)) ∧ w'.cell? ⟨w.heap.size + 1, 0, none⟩ = some (.bool n) ∧ w'.cell? ⟨w.heap.size + 1, 1, none⟩ = some (.int .i64 p) ∧ w'.cell? ⟨w.heap.size + 1, 2, none⟩ = some (.int .i64 q) ∧ w'.cell? ⟨w.heap.size + 1, 3, none⟩ = some (.slice a1 xs.length c1) ∧ w'.cell? ⟨w.heap.size + 1, 4, none⟩ = some (.slice a2 ys.length c2) ∧ w'.cell? ⟨w.heap.size + 1, 5, none⟩ = some (.int .i64 v) ∧ w'.cell? ⟨w.heap.size + 1, 6, none⟩ = some (.int .i64 k))) (by kernel_rfl) pu (fun hHeld => ?_)
    rw [← HV.out]
    refine wpAnyH_take (i := 0) (v := ?vvS0) rfl (by kernel_rfl) (by kernel_rfl) (by kernel_rfl) (fun _ _ _ h => h) (Or.inl ⟨by rfl, ?yvS0⟩) (by assumption) ?rvS0
    case yvS0 =>
      intro w' hSw
      try dsimp only at hSw
      go_simp
      try with_reducible rfl
    simp only [Act.put, List.getElem_toArray, List.getElem_cons_succ, List.getElem_cons_zero, List.setIfInBounds_toArray, List.set_cons_zero, List.set_cons_succ]
    refine wpAnyH_take (i := 2) (v := ?vvS2) rfl (by kernel_rfl) (by kernel_rfl) (by kernel_rfl) (fun _ _ _ h => h) (Or.inl ⟨by rfl, ?yvS2⟩) (by assumption) ?rvS2
    case yvS2 =>
      intro w' hSw
      try dsimp only at hSw
      go_simp
      try with_reducible rfl
    simp only [Act.put, List.getElem_toArray, List.getElem_cons_succ, List.getElem_cons_zero, List.setIfInBounds_toArray, List.set_cons_zero, List.set_cons_succ]
    refine wpAnyH_take (i := 3) (v := ?vvS3) rfl (by kernel_rfl) (by kernel_rfl) (by kernel_rfl) (fun _ _ _ h => h) (Or.inl ⟨by rfl, ?yvS3⟩) (by assumption) ?rvS3
    case yvS3 =>
      intro w' hSw
      try dsimp only at hSw
      go_simp
      try with_reducible rfl
    simp only [Act.put, List.getElem_toArray, List.getElem_cons_succ, List.getElem_cons_zero, List.setIfInBounds_toArray, List.set_cons_zero, List.set_cons_succ]
    refine wpAnyH_take (i := 4) (v := ?vvS4) rfl (by kernel_rfl) (by kernel_rfl) (by kernel_rfl) (fun _ _ _ h => h) (Or.inl ⟨by rfl, ?yvS4⟩) (by assumption) ?rvS4
    case yvS4 =>
      intro w' hSw
      try dsimp only at hSw
      go_simp
      try with_reducible rfl
    simp only [Act.put, List.getElem_toArray, List.getElem_cons_succ, List.getElem_cons_zero, List.setIfInBounds_toArray, List.set_cons_zero, List.set_cons_succ]
    refine wpAnyH_ready (rs := [1, 10]) (by kernel_rfl) (by simp) ?_
    refine AllReadyH.cons rfl (fun K hK => ?_) (AllReadyH.cons rfl (fun K hK => ?_) AllReadyH.nil)
    · skip
      go_simp
      refine (toAR m a c vs V (HA.out.below BV.out) (by omega) (SA.out.mono (by decide))).mono ?_
      rintro e xvS1 ⟨r0, R0, rfl, o_, y_, l_, b_⟩
      have BxvS1 : Hid (Below u0.heap.size u0 xvS1) := BV.out.trans (b_.mono BV.out.size)
      obtain ⟨lo0, hlo0⟩ : ∃ x, x = V.heap.size := ⟨_, rfl⟩
      obtain ⟨hi0, hhi0⟩ : ∃ x, x = xvS1.heap.size := ⟨_, rfl⟩
      have OR0 : Hid (OwnR xvS1 lo0 hi0 r0 R0) := by rw [hlo0, hhi0]; exact o_
      have YR0 : Hid (bodies R0 = bodies vs) := y_
      have VR0 : Hid (VLs R0) := l_
      clear o_ y_ l_ hlo0 hhi0
      refine hK.out _ _ (AF.out xvS1 BxvS1.out) (fun hHxvS1 => ?_)
      clear hK K b_
      refine wpAnyH_ready (rs := [5, 10]) (by kernel_rfl) (by simp) ?_
      refine AllReadyH.cons rfl (fun K hK => ?_) (AllReadyH.cons rfl (fun K hK => ?_) AllReadyH.nil)
      · skip
        go_simp
        refine (toER n p q a1 a2 c1 c2 xs ys v k xvS1 (HE1.out.below BxvS1.out) (HE2.out.below BxvS1.out) (by omega) (by omega)).mono ?_
        rintro e xvS2 ⟨rg, rj, rfl, o_, b_⟩
        have BxvS2 : Hid (Below u0.heap.size u0 xvS2) := BxvS1.out.trans (b_.mono BxvS1.out.size)
        have OR0 : Hid (OwnR xvS2 lo0 hi0 r0 R0) := OR0.out.keep b_
        obtain ⟨lo1, hlo1⟩ : ∃ x, x = xvS1.heap.size := ⟨_, rfl⟩
        obtain ⟨hi1, hhi1⟩ : ∃ x, x = xvS2.heap.size := ⟨_, rfl⟩
        have ER0 : Hid (OwnEn xvS2 lo1 hi1 rg rj xs ys) := by rw [hlo1, hhi1]; exact o_
        clear o_ hlo1 hhi1
        refine hK.out _ _ (AF.out xvS2 BxvS2.out) (fun hHxvS2 => ?_)
        clear hK K b_
        refine wpAnyH_ready (rs := [6, 10]) (by kernel_rfl) (by simp) ?_
        refine AllReadyH.cons rfl (fun K hK => ?_) (AllReadyH.cons rfl (fun K hK => ?_) AllReadyH.nil)
        · skip
          go_simp
          refine ((CS.out) xvS2 _ _ _ R0 _ _ _ _ OR0.out VR0.out (by have := (bodies_eq YR0.out).1; omega) YR0.out ER0.out.sl.1 ER0.out.sl.2 (by omega) (by omega) (Nat.le_refl _) (Nat.le_refl _)).mono ?_
          rintro e xvS3 ⟨la, lc, us, rfl, o_, y_, b_⟩
          have LOW : Hid (u0.heap.size ≤ xvS2.heap.size) := BxvS2.out.size
          have BxvS3 : Hid (Below u0.heap.size u0 xvS3) := BxvS2.out.trans (b_.mono BxvS2.out.size)
          have OR0 : Hid (OwnR xvS3 lo0 hi0 r0 R0) := OR0.out.keep b_
          have ER0 : Hid (OwnEn xvS3 lo1 hi1 rg rj xs ys) := ER0.out.keep b_
          have OL2 : Hid (OwnR xvS3 xvS2.heap.size xvS3.heap.size (.slice la us.length lc) us) := o_
          have YL2 : Hid (bodies us = BB) := y_
          clear o_ y_
          refine hK.out _ _ (AF.out xvS3 BxvS3.out) (fun hHxvS3 => ?_)
          clear hK K b_
          refine wpAnyH_take (i := 7) (v := ?vvSccc7) rfl (by kernel_rfl) (by kernel_rfl) (by kernel_rfl) (fun _ _ _ h => h) (Or.inl ⟨by rfl, ?yvSccc7⟩) (by assumption) ?rvSccc7
          case yvSccc7 =>
            intro w' hSw
            try dsimp only at hSw
            go_simp
            try with_reducible rfl
          simp only [Act.put, List.getElem_toArray, List.getElem_cons_succ, List.getElem_cons_zero, List.setIfInBounds_toArray, List.set_cons_zero, List.set_cons_succ]
          refine wpAnyH_take (i := 8) (v := ?vvSccc8) rfl (by kernel_rfl) (by kernel_rfl) (by kernel_rfl) (fun _ _ _ h => h) (Or.inl ⟨by rfl, ?yvSccc8⟩) (by assumption) ?rvSccc8
          case yvSccc8 =>
            intro w' hSw
            try dsimp only at hSw
            go_simp
            try with_reducible rfl
          simp only [Act.put, List.getElem_toArray, List.getElem_cons_succ, List.getElem_cons_zero, List.setIfInBounds_toArray, List.set_cons_zero, List.set_cons_succ]
          refine wpAnyH_take (i := 9) (v := ?vvSccc9) rfl (by kernel_rfl) (by kernel_rfl) (by kernel_rfl) (fun _ _ _ h => h) (Or.inl ⟨by rfl, ?yvSccc9⟩) (by assumption) ?rvSccc9
          case yvSccc9 =>
            intro w' hSw
            try dsimp only at hSw
            go_simp
            try with_reducible rfl
          simp only [Act.put, List.getElem_toArray, List.getElem_cons_succ, List.getElem_cons_zero, List.setIfInBounds_toArray, List.set_cons_zero, List.set_cons_succ]
          refine wpAnyH_ready (rs := [10]) (by kernel_rfl) (by simp) ?_
          refine AllReadyH.cons rfl (fun K hK => ?_) AllReadyH.nil
          obtain ⟨zvS3, h_⟩ : ∃ x, x = xvS3.alloc (.cells #[.int .i64 0, .slice none 0 0] 24) := ⟨_, rfl⟩
          obtain ⟨C, hC⟩ : ∃ x, x = xvS3.heap.size := ⟨_, rfl⟩
          have b_ : Below xvS3.heap.size xvS3 zvS3 := by rw [h_]; exact (Below.refl _ _).alloc (Nat.le_refl _) _
          have ZC : Hid (Blk zvS3 C #[.int .i64 0, .slice none 0 0] 24) := by show Blk _ _ _ _; rw [h_, hC]; exact Blk.new _ _ _
          have BzvS3 : Hid (Below u0.heap.size u0 zvS3) := BxvS3.out.trans (b_.mono BxvS3.out.size)
          have CL : Hid (u0.heap.size ≤ C) := by show _ ≤ _; rw [hC]; exact BxvS3.out.size
          have OR0 : Hid (OwnR zvS3 lo0 hi0 r0 R0) := OR0.out.keep b_
          have ER0 : Hid (OwnEn zvS3 lo1 hi1 rg rj xs ys) := ER0.out.keep b_
          have OL2' : Hid (OwnR zvS3 xvS2.heap.size C (.slice la us.length lc) us) := by rw [hC]; exact OL2.out.keep b_
          go_simp
          rw [← h_, ← hC]
          refine hK.out _ _ (AF.out zvS3 BzvS3.out) (fun hHzvS3 => ?_)
          clear hK K h_ b_ hC
          obtain ⟨k0, k1⟩ := ZC.out.cells2
          have fz := ZC.out.frozen
          refine wpAnyH_ready (rs := [11]) (by kernel_rfl) (by simp) ?_
          refine AllReadyH.cons rfl (fun K hK => ?_) AllReadyH.nil
          go_simp
          obtain ⟨F, hF⟩ : ∃ x, x = (zvS3.setCell ⟨C, 0, none⟩ (.int .i64 M)).setCell ⟨C, 1, none⟩ (.slice la us.length lc) := ⟨_, rfl⟩
          rw [← hF]
          have on : Only C zvS3 F := by rw [hF]; exact ((Only.refl _ _).setCell _).setCell _
          have CF : Hid (Blk F C #[.int .i64 M, .slice la us.length lc] 24) := by show Blk _ _ _ _; rw [hF]; exact ((ZC.out.set 0 _).set 1 _).eq (by simp)
          have BF : Hid (Below u0.heap.size u0 F) := BzvS3.out.trans (on.below CL.out)
          have OF : Hid (OwnR F u0.heap.size F.heap.size (.slice la us.length lc) us) := ((OL2'.out.keepIn (Nat.le_of_eq on.size.symm) fun b h1 h2 => on.block b (by omega)).weaken LOW.out).raise (by have := CF.out.lt; omega) (Nat.le_refl _)
          clear hF on k0 k1 fz
          refine hK.out _ _ (AF.out F BF.out) (fun hHF => ?_)
          clear hK K
          refine wpAnyH_take (i := 12) (v := ?vvSccca12) rfl (by kernel_rfl) (by kernel_rfl) (by kernel_rfl) (fun _ _ _ h => h) (Or.inl ⟨by rfl, ?yvSccca12⟩) (by assumption) ?rvSccca12
          case yvSccca12 =>
            intro w' hSw
            try dsimp only at hSw
            go_simp
            try with_reducible rfl
          simp only [Act.put, List.getElem_toArray, List.getElem_cons_succ, List.getElem_cons_zero, List.setIfInBounds_toArray, List.set_cons_zero, List.set_cons_succ]
          refine wpAnyH_done (by kernel_rfl) ?_ _
          go_wp2_with fail
          go_meet
          exact ⟨C, la, lc, us, rfl, rfl, CF.out, OF.out, YL2.out, BF.out, CL.out⟩
        · skip
          obtain ⟨zvS2, h_⟩ : ∃ x, x = xvS2.alloc (.cells #[.int .i64 0, .slice none 0 0] 24) := ⟨_, rfl⟩
          obtain ⟨C, hC⟩ : ∃ x, x = xvS2.heap.size := ⟨_, rfl⟩
          have b_ : Below xvS2.heap.size xvS2 zvS2 := by rw [h_]; exact (Below.refl _ _).alloc (Nat.le_refl _) _
          have ZC : Hid (Blk zvS2 C #[.int .i64 0, .slice none 0 0] 24) := by show Blk _ _ _ _; rw [h_, hC]; exact Blk.new _ _ _
          have BzvS2 : Hid (Below u0.heap.size u0 zvS2) := BxvS2.out.trans (b_.mono BxvS2.out.size)
          have CL : Hid (u0.heap.size ≤ C) := by show _ ≤ _; rw [hC]; exact BxvS2.out.size
          have OR0 : Hid (OwnR zvS2 lo0 hi0 r0 R0) := OR0.out.keep b_
          have ER0 : Hid (OwnEn zvS2 lo1 hi1 rg rj xs ys) := ER0.out.keep b_
          go_simp
          rw [← h_, ← hC]
          refine hK.out _ _ (AF.out zvS2 BzvS2.out) (fun hHzvS2 => ?_)
          clear hK K h_ b_ hC
          refine wpAnyH_ready (rs := [6]) (by kernel_rfl) (by simp) ?_
          refine AllReadyH.cons rfl (fun K hK => ?_) AllReadyH.nil
          go_simp
          refine ((CS.out) zvS2 _ _ _ R0 _ _ _ _ OR0.out VR0.out (by have := (bodies_eq YR0.out).1; omega) YR0.out ER0.out.sl.1 ER0.out.sl.2 (by omega) (by omega) (Nat.le_refl _) (Nat.le_refl _)).mono ?_
          rintro e xvS4 ⟨la, lc, us, rfl, o_, y_, b_⟩
          have LOW : Hid (u0.heap.size ≤ zvS2.heap.size) := BzvS2.out.size
          have HIGH : Hid (C < zvS2.heap.size) := ZC.out.lt
          have BxvS4 : Hid (Below u0.heap.size u0 xvS4) := BzvS2.out.trans (b_.mono BzvS2.out.size)
          have OR0 : Hid (OwnR xvS4 lo0 hi0 r0 R0) := OR0.out.keep b_
          have ER0 : Hid (OwnEn xvS4 lo1 hi1 rg rj xs ys) := ER0.out.keep b_
          have OL2 : Hid (OwnR xvS4 zvS2.heap.size xvS4.heap.size (.slice la us.length lc) us) := o_
          have YL2 : Hid (bodies us = BB) := y_
          clear o_ y_
          have ZC : Hid (Blk xvS4 C #[.int .i64 0, .slice none 0 0] 24) := ZC.out.keep b_
          refine hK.out _ _ (AF.out xvS4 BxvS4.out) (fun hHxvS4 => ?_)
          clear hK K b_
          refine wpAnyH_take (i := 7) (v := ?vvSccac7) rfl (by kernel_rfl) (by kernel_rfl) (by kernel_rfl) (fun _ _ _ h => h) (Or.inl ⟨by rfl, ?yvSccac7⟩) (by assumption) ?rvSccac7
          case yvSccac7 =>
            intro w' hSw
            try dsimp only at hSw
            go_simp
            try with_reducible rfl
          simp only [Act.put, List.getElem_toArray, List.getElem_cons_succ, List.getElem_cons_zero, List.setIfInBounds_toArray, List.set_cons_zero, List.set_cons_succ]
          refine wpAnyH_take (i := 8) (v := ?vvSccac8) rfl (by kernel_rfl) (by kernel_rfl) (by kernel_rfl) (fun _ _ _ h => h) (Or.inl ⟨by rfl, ?yvSccac8⟩) (by assumption) ?rvSccac8
          case yvSccac8 =>
            intro w' hSw
            try dsimp only at hSw
            go_simp
            try with_reducible rfl
          simp only [Act.put, List.getElem_toArray, List.getElem_cons_succ, List.getElem_cons_zero, List.setIfInBounds_toArray, List.set_cons_zero, List.set_cons_succ]
          refine wpAnyH_take (i := 9) (v := ?vvSccac9) rfl (by kernel_rfl) (by kernel_rfl) (by kernel_rfl) (fun _ _ _ h => h) (Or.inl ⟨by rfl, ?yvSccac9⟩) (by assumption) ?rvSccac9
          case yvSccac9 =>
            intro w' hSw
            try dsimp only at hSw
            go_simp
            try with_reducible rfl
          simp only [Act.put, List.getElem_toArray, List.getElem_cons_succ, List.getElem_cons_zero, List.setIfInBounds_toArray, List.set_cons_zero, List.set_cons_succ]
          obtain ⟨k0, k1⟩ := ZC.out.cells2
          have fz := ZC.out.frozen
          refine wpAnyH_ready (rs := [11]) (by kernel_rfl) (by simp) ?_
          refine AllReadyH.cons rfl (fun K hK => ?_) AllReadyH.nil
          go_simp
          obtain ⟨F, hF⟩ : ∃ x, x = (xvS4.setCell ⟨C, 0, none⟩ (.int .i64 M)).setCell ⟨C, 1, none⟩ (.slice la us.length lc) := ⟨_, rfl⟩
          rw [← hF]
          have on : Only C xvS4 F := by rw [hF]; exact ((Only.refl _ _).setCell _).setCell _
          have CF : Hid (Blk F C #[.int .i64 M, .slice la us.length lc] 24) := by show Blk _ _ _ _; rw [hF]; exact ((ZC.out.set 0 _).set 1 _).eq (by simp)
          have BF : Hid (Below u0.heap.size u0 F) := BxvS4.out.trans (on.below CL.out)
          have OF : Hid (OwnR F u0.heap.size F.heap.size (.slice la us.length lc) us) := ((OL2.out.keepIn (Nat.le_of_eq on.size.symm) fun b h1 h2 => on.block b (by have := HIGH.out; omega)).weaken LOW.out).raise (by rw [on.size]; omega) (Nat.le_refl _)
          clear hF on k0 k1 fz
          refine hK.out _ _ (AF.out F BF.out) (fun hHF => ?_)
          clear hK K
          refine wpAnyH_take (i := 12) (v := ?vvSccac12) rfl (by kernel_rfl) (by kernel_rfl) (by kernel_rfl) (fun _ _ _ h => h) (Or.inl ⟨by rfl, ?yvSccac12⟩) (by assumption) ?rvSccac12
          case yvSccac12 =>
            intro w' hSw
            try dsimp only at hSw
            go_simp
            try with_reducible rfl
          simp only [Act.put, List.getElem_toArray, List.getElem_cons_succ, List.getElem_cons_zero, List.setIfInBounds_toArray, List.set_cons_zero, List.set_cons_succ]
          refine wpAnyH_done (by kernel_rfl) ?_ _
          go_wp2_with fail
          go_meet
          exact ⟨C, la, lc, us, rfl, rfl, CF.out, OF.out, YL2.out, BF.out, CL.out⟩
      · skip
        obtain ⟨zvS1, h_⟩ : ∃ x, x = xvS1.alloc (.cells #[.int .i64 0, .slice none 0 0] 24) := ⟨_, rfl⟩
        obtain ⟨C, hC⟩ : ∃ x, x = xvS1.heap.size := ⟨_, rfl⟩
        have b_ : Below xvS1.heap.size xvS1 zvS1 := by rw [h_]; exact (Below.refl _ _).alloc (Nat.le_refl _) _
        have ZC : Hid (Blk zvS1 C #[.int .i64 0, .slice none 0 0] 24) := by show Blk _ _ _ _; rw [h_, hC]; exact Blk.new _ _ _
        have BzvS1 : Hid (Below u0.heap.size u0 zvS1) := BxvS1.out.trans (b_.mono BxvS1.out.size)
        have CL : Hid (u0.heap.size ≤ C) := by show _ ≤ _; rw [hC]; exact BxvS1.out.size
        have OR0 : Hid (OwnR zvS1 lo0 hi0 r0 R0) := OR0.out.keep b_
        go_simp
        rw [← h_, ← hC]
        refine hK.out _ _ (AF.out zvS1 BzvS1.out) (fun hHzvS1 => ?_)
        clear hK K h_ b_ hC
        refine wpAnyH_ready (rs := [5]) (by kernel_rfl) (by simp) ?_
        refine AllReadyH.cons rfl (fun K hK => ?_) AllReadyH.nil
        go_simp
        refine (toER n p q a1 a2 c1 c2 xs ys v k zvS1 (HE1.out.below BzvS1.out) (HE2.out.below BzvS1.out) (by omega) (by omega)).mono ?_
        rintro e xvS3 ⟨rg, rj, rfl, o_, b_⟩
        have BxvS3 : Hid (Below u0.heap.size u0 xvS3) := BzvS1.out.trans (b_.mono BzvS1.out.size)
        have OR0 : Hid (OwnR xvS3 lo0 hi0 r0 R0) := OR0.out.keep b_
        obtain ⟨lo1, hlo1⟩ : ∃ x, x = zvS1.heap.size := ⟨_, rfl⟩
        obtain ⟨hi1, hhi1⟩ : ∃ x, x = xvS3.heap.size := ⟨_, rfl⟩
        have ER0 : Hid (OwnEn xvS3 lo1 hi1 rg rj xs ys) := by rw [hlo1, hhi1]; exact o_
        clear o_ hlo1 hhi1
        have ZC : Hid (Blk xvS3 C #[.int .i64 0, .slice none 0 0] 24) := ZC.out.keep b_
        refine hK.out _ _ (AF.out xvS3 BxvS3.out) (fun hHxvS3 => ?_)
        clear hK K b_
        refine wpAnyH_ready (rs := [6]) (by kernel_rfl) (by simp) ?_
        refine AllReadyH.cons rfl (fun K hK => ?_) AllReadyH.nil
        go_simp
        refine ((CS.out) xvS3 _ _ _ R0 _ _ _ _ OR0.out VR0.out (by have := (bodies_eq YR0.out).1; omega) YR0.out ER0.out.sl.1 ER0.out.sl.2 (by omega) (by omega) (Nat.le_refl _) (Nat.le_refl _)).mono ?_
        rintro e xvS4 ⟨la, lc, us, rfl, o_, y_, b_⟩
        have LOW : Hid (u0.heap.size ≤ xvS3.heap.size) := BxvS3.out.size
        have HIGH : Hid (C < xvS3.heap.size) := ZC.out.lt
        have BxvS4 : Hid (Below u0.heap.size u0 xvS4) := BxvS3.out.trans (b_.mono BxvS3.out.size)
        have OR0 : Hid (OwnR xvS4 lo0 hi0 r0 R0) := OR0.out.keep b_
        have ER0 : Hid (OwnEn xvS4 lo1 hi1 rg rj xs ys) := ER0.out.keep b_
        have OL2 : Hid (OwnR xvS4 xvS3.heap.size xvS4.heap.size (.slice la us.length lc) us) := o_
        have YL2 : Hid (bodies us = BB) := y_
        clear o_ y_
        have ZC : Hid (Blk xvS4 C #[.int .i64 0, .slice none 0 0] 24) := ZC.out.keep b_
        refine hK.out _ _ (AF.out xvS4 BxvS4.out) (fun hHxvS4 => ?_)
        clear hK K b_
        refine wpAnyH_take (i := 7) (v := ?vvScacc7) rfl (by kernel_rfl) (by kernel_rfl) (by kernel_rfl) (fun _ _ _ h => h) (Or.inl ⟨by rfl, ?yvScacc7⟩) (by assumption) ?rvScacc7
        case yvScacc7 =>
          intro w' hSw
          try dsimp only at hSw
          go_simp
          try with_reducible rfl
        simp only [Act.put, List.getElem_toArray, List.getElem_cons_succ, List.getElem_cons_zero, List.setIfInBounds_toArray, List.set_cons_zero, List.set_cons_succ]
        refine wpAnyH_take (i := 8) (v := ?vvScacc8) rfl (by kernel_rfl) (by kernel_rfl) (by kernel_rfl) (fun _ _ _ h => h) (Or.inl ⟨by rfl, ?yvScacc8⟩) (by assumption) ?rvScacc8
        case yvScacc8 =>
          intro w' hSw
          try dsimp only at hSw
          go_simp
          try with_reducible rfl
        simp only [Act.put, List.getElem_toArray, List.getElem_cons_succ, List.getElem_cons_zero, List.setIfInBounds_toArray, List.set_cons_zero, List.set_cons_succ]
        refine wpAnyH_take (i := 9) (v := ?vvScacc9) rfl (by kernel_rfl) (by kernel_rfl) (by kernel_rfl) (fun _ _ _ h => h) (Or.inl ⟨by rfl, ?yvScacc9⟩) (by assumption) ?rvScacc9
        case yvScacc9 =>
          intro w' hSw
          try dsimp only at hSw
          go_simp
          try with_reducible rfl
        simp only [Act.put, List.getElem_toArray, List.getElem_cons_succ, List.getElem_cons_zero, List.setIfInBounds_toArray, List.set_cons_zero, List.set_cons_succ]
        obtain ⟨k0, k1⟩ := ZC.out.cells2
        have fz := ZC.out.frozen
        refine wpAnyH_ready (rs := [11]) (by kernel_rfl) (by simp) ?_
        refine AllReadyH.cons rfl (fun K hK => ?_) AllReadyH.nil
        go_simp
        obtain ⟨F, hF⟩ : ∃ x, x = (xvS4.setCell ⟨C, 0, none⟩ (.int .i64 M)).setCell ⟨C, 1, none⟩ (.slice la us.length lc) := ⟨_, rfl⟩
        rw [← hF]
        have on : Only C xvS4 F := by rw [hF]; exact ((Only.refl _ _).setCell _).setCell _
        have CF : Hid (Blk F C #[.int .i64 M, .slice la us.length lc] 24) := by show Blk _ _ _ _; rw [hF]; exact ((ZC.out.set 0 _).set 1 _).eq (by simp)
        have BF : Hid (Below u0.heap.size u0 F) := BxvS4.out.trans (on.below CL.out)
        have OF : Hid (OwnR F u0.heap.size F.heap.size (.slice la us.length lc) us) := ((OL2.out.keepIn (Nat.le_of_eq on.size.symm) fun b h1 h2 => on.block b (by have := HIGH.out; omega)).weaken LOW.out).raise (by rw [on.size]; omega) (Nat.le_refl _)
        clear hF on k0 k1 fz
        refine hK.out _ _ (AF.out F BF.out) (fun hHF => ?_)
        clear hK K
        refine wpAnyH_take (i := 12) (v := ?vvScacc12) rfl (by kernel_rfl) (by kernel_rfl) (by kernel_rfl) (fun _ _ _ h => h) (Or.inl ⟨by rfl, ?yvScacc12⟩) (by assumption) ?rvScacc12
        case yvScacc12 =>
          intro w' hSw
          try dsimp only at hSw
          go_simp
          try with_reducible rfl
        simp only [Act.put, List.getElem_toArray, List.getElem_cons_succ, List.getElem_cons_zero, List.setIfInBounds_toArray, List.set_cons_zero, List.set_cons_succ]
        refine wpAnyH_done (by kernel_rfl) ?_ _
        go_wp2_with fail
        go_meet
        exact ⟨C, la, lc, us, rfl, rfl, CF.out, OF.out, YL2.out, BF.out, CL.out⟩
    · skip
      obtain ⟨zvS0, h_⟩ : ∃ x, x = V.alloc (.cells #[.int .i64 0, .slice none 0 0] 24) := ⟨_, rfl⟩
      obtain ⟨C, hC⟩ : ∃ x, x = V.heap.size := ⟨_, rfl⟩
      have b_ : Below V.heap.size V zvS0 := by rw [h_]; exact (Below.refl _ _).alloc (Nat.le_refl _) _
      have ZC : Hid (Blk zvS0 C #[.int .i64 0, .slice none 0 0] 24) := by show Blk _ _ _ _; rw [h_, hC]; exact Blk.new _ _ _
      have BzvS0 : Hid (Below u0.heap.size u0 zvS0) := BV.out.trans (b_.mono BV.out.size)
      have CL : Hid (u0.heap.size ≤ C) := by show _ ≤ _; rw [hC]; exact BV.out.size
      go_simp
      rw [← h_, ← hC]
      refine hK.out _ _ (AF.out zvS0 BzvS0.out) (fun hHzvS0 => ?_)
      clear hK K h_ b_ hC
      refine wpAnyH_ready (rs := [1]) (by kernel_rfl) (by simp) ?_
      refine AllReadyH.cons rfl (fun K hK => ?_) AllReadyH.nil
      go_simp
      refine (toAR m a c vs zvS0 (HA.out.below BzvS0.out) (by omega) (SA.out.mono (by decide))).mono ?_
      rintro e xvS2 ⟨r0, R0, rfl, o_, y_, l_, b_⟩
      have BxvS2 : Hid (Below u0.heap.size u0 xvS2) := BzvS0.out.trans (b_.mono BzvS0.out.size)
      obtain ⟨lo0, hlo0⟩ : ∃ x, x = zvS0.heap.size := ⟨_, rfl⟩
      obtain ⟨hi0, hhi0⟩ : ∃ x, x = xvS2.heap.size := ⟨_, rfl⟩
      have OR0 : Hid (OwnR xvS2 lo0 hi0 r0 R0) := by rw [hlo0, hhi0]; exact o_
      have YR0 : Hid (bodies R0 = bodies vs) := y_
      have VR0 : Hid (VLs R0) := l_
      clear o_ y_ l_ hlo0 hhi0
      have ZC : Hid (Blk xvS2 C #[.int .i64 0, .slice none 0 0] 24) := ZC.out.keep b_
      refine hK.out _ _ (AF.out xvS2 BxvS2.out) (fun hHxvS2 => ?_)
      clear hK K b_
      refine wpAnyH_ready (rs := [5]) (by kernel_rfl) (by simp) ?_
      refine AllReadyH.cons rfl (fun K hK => ?_) AllReadyH.nil
      go_simp
      refine (toER n p q a1 a2 c1 c2 xs ys v k xvS2 (HE1.out.below BxvS2.out) (HE2.out.below BxvS2.out) (by omega) (by omega)).mono ?_
      rintro e xvS3 ⟨rg, rj, rfl, o_, b_⟩
      have BxvS3 : Hid (Below u0.heap.size u0 xvS3) := BxvS2.out.trans (b_.mono BxvS2.out.size)
      have OR0 : Hid (OwnR xvS3 lo0 hi0 r0 R0) := OR0.out.keep b_
      obtain ⟨lo1, hlo1⟩ : ∃ x, x = xvS2.heap.size := ⟨_, rfl⟩
      obtain ⟨hi1, hhi1⟩ : ∃ x, x = xvS3.heap.size := ⟨_, rfl⟩
      have ER0 : Hid (OwnEn xvS3 lo1 hi1 rg rj xs ys) := by rw [hlo1, hhi1]; exact o_
      clear o_ hlo1 hhi1
      have ZC : Hid (Blk xvS3 C #[.int .i64 0, .slice none 0 0] 24) := ZC.out.keep b_
      refine hK.out _ _ (AF.out xvS3 BxvS3.out) (fun hHxvS3 => ?_)
      clear hK K b_
      refine wpAnyH_ready (rs := [6]) (by kernel_rfl) (by simp) ?_
      refine AllReadyH.cons rfl (fun K hK => ?_) AllReadyH.nil
      go_simp
      refine ((CS.out) xvS3 _ _ _ R0 _ _ _ _ OR0.out VR0.out (by have := (bodies_eq YR0.out).1; omega) YR0.out ER0.out.sl.1 ER0.out.sl.2 (by omega) (by omega) (Nat.le_refl _) (Nat.le_refl _)).mono ?_
      rintro e xvS4 ⟨la, lc, us, rfl, o_, y_, b_⟩
      have LOW : Hid (u0.heap.size ≤ xvS3.heap.size) := BxvS3.out.size
      have HIGH : Hid (C < xvS3.heap.size) := ZC.out.lt
      have BxvS4 : Hid (Below u0.heap.size u0 xvS4) := BxvS3.out.trans (b_.mono BxvS3.out.size)
      have OR0 : Hid (OwnR xvS4 lo0 hi0 r0 R0) := OR0.out.keep b_
      have ER0 : Hid (OwnEn xvS4 lo1 hi1 rg rj xs ys) := ER0.out.keep b_
      have OL2 : Hid (OwnR xvS4 xvS3.heap.size xvS4.heap.size (.slice la us.length lc) us) := o_
      have YL2 : Hid (bodies us = BB) := y_
      clear o_ y_
      have ZC : Hid (Blk xvS4 C #[.int .i64 0, .slice none 0 0] 24) := ZC.out.keep b_
      refine hK.out _ _ (AF.out xvS4 BxvS4.out) (fun hHxvS4 => ?_)
      clear hK K b_
      refine wpAnyH_take (i := 7) (v := ?vvSaccc7) rfl (by kernel_rfl) (by kernel_rfl) (by kernel_rfl) (fun _ _ _ h => h) (Or.inl ⟨by rfl, ?yvSaccc7⟩) (by assumption) ?rvSaccc7
      case yvSaccc7 =>
        intro w' hSw
        try dsimp only at hSw
        go_simp
        try with_reducible rfl
      simp only [Act.put, List.getElem_toArray, List.getElem_cons_succ, List.getElem_cons_zero, List.setIfInBounds_toArray, List.set_cons_zero, List.set_cons_succ]
      refine wpAnyH_take (i := 8) (v := ?vvSaccc8) rfl (by kernel_rfl) (by kernel_rfl) (by kernel_rfl) (fun _ _ _ h => h) (Or.inl ⟨by rfl, ?yvSaccc8⟩) (by assumption) ?rvSaccc8
      case yvSaccc8 =>
        intro w' hSw
        try dsimp only at hSw
        go_simp
        try with_reducible rfl
      simp only [Act.put, List.getElem_toArray, List.getElem_cons_succ, List.getElem_cons_zero, List.setIfInBounds_toArray, List.set_cons_zero, List.set_cons_succ]
      refine wpAnyH_take (i := 9) (v := ?vvSaccc9) rfl (by kernel_rfl) (by kernel_rfl) (by kernel_rfl) (fun _ _ _ h => h) (Or.inl ⟨by rfl, ?yvSaccc9⟩) (by assumption) ?rvSaccc9
      case yvSaccc9 =>
        intro w' hSw
        try dsimp only at hSw
        go_simp
        try with_reducible rfl
      simp only [Act.put, List.getElem_toArray, List.getElem_cons_succ, List.getElem_cons_zero, List.setIfInBounds_toArray, List.set_cons_zero, List.set_cons_succ]
      obtain ⟨k0, k1⟩ := ZC.out.cells2
      have fz := ZC.out.frozen
      refine wpAnyH_ready (rs := [11]) (by kernel_rfl) (by simp) ?_
      refine AllReadyH.cons rfl (fun K hK => ?_) AllReadyH.nil
      go_simp
      obtain ⟨F, hF⟩ : ∃ x, x = (xvS4.setCell ⟨C, 0, none⟩ (.int .i64 M)).setCell ⟨C, 1, none⟩ (.slice la us.length lc) := ⟨_, rfl⟩
      rw [← hF]
      have on : Only C xvS4 F := by rw [hF]; exact ((Only.refl _ _).setCell _).setCell _
      have CF : Hid (Blk F C #[.int .i64 M, .slice la us.length lc] 24) := by show Blk _ _ _ _; rw [hF]; exact ((ZC.out.set 0 _).set 1 _).eq (by simp)
      have BF : Hid (Below u0.heap.size u0 F) := BxvS4.out.trans (on.below CL.out)
      have OF : Hid (OwnR F u0.heap.size F.heap.size (.slice la us.length lc) us) := ((OL2.out.keepIn (Nat.le_of_eq on.size.symm) fun b h1 h2 => on.block b (by have := HIGH.out; omega)).weaken LOW.out).raise (by rw [on.size]; omega) (Nat.le_refl _)
      clear hF on k0 k1 fz
      refine hK.out _ _ (AF.out F BF.out) (fun hHF => ?_)
      clear hK K
      refine wpAnyH_take (i := 12) (v := ?vvSaccc12) rfl (by kernel_rfl) (by kernel_rfl) (by kernel_rfl) (fun _ _ _ h => h) (Or.inl ⟨by rfl, ?yvSaccc12⟩) (by assumption) ?rvSaccc12
      case yvSaccc12 =>
        intro w' hSw
        try dsimp only at hSw
        go_simp
        try with_reducible rfl
      simp only [Act.put, List.getElem_toArray, List.getElem_cons_succ, List.getElem_cons_zero, List.setIfInBounds_toArray, List.set_cons_zero, List.set_cons_succ]
      refine wpAnyH_done (by kernel_rfl) ?_ _
      go_wp2_with fail
      go_meet
      exact ⟨C, la, lc, us, rfl, rfl, CF.out, OF.out, YL2.out, BF.out, CL.out⟩
  case rest =>
  obtain ⟨u1, h_⟩ : ∃ x, x = wc := ⟨_, rfl⟩
  subst h_
  obtain ⟨CvS, avS, cvS, LvS, rfl, rfl, z_, o_, y_, b_, l_⟩ := hcut
  have ZZ : Hid (w.heap.size + 2 ≤ u0.heap.size ∧ u0.heap.size ≤ u1.heap.size) := by show w.heap.size + 2 ≤ u0.heap.size ∧ u0.heap.size ≤ u1.heap.size; have := ZZ.out; have := b_.size; omega
  have HA : Hid (SlV u1 a vs) := HA.out.below b_
  have HE1 : Hid (Sl u1 a1 xs) := HE1.out.below b_
  have HE2 : Hid (Sl u1 a2 ys) := HE2.out.below b_
  have PA : Hid (Blk u1 w.heap.size #[.int .i64 m, .slice a vs.length c] 44) := PA.out.keep b_
  have PE : Hid (Blk u1 (w.heap.size + 1) #[.bool n, .int .i64 p, .int .i64 q, .slice a1 xs.length c1, .slice a2 ys.length c2, .int .i64 v, .int .i64 k] 60) := PE.out.keep b_
  have BS : Hid (Blk u1 CvS #[.int .i64 M, .slice avS LvS.length cvS] 24) := z_
  have OvS : Hid (OwnR u1 u0.heap.size u1.heap.size (.slice avS LvS.length cvS) LvS) := o_
  have YvS : Hid (bodies LvS = BB) := y_
  have QvS : Hid (u0.heap.size ≤ CvS ∧ CvS < u1.heap.size) := ⟨l_, z_.lt⟩
  have BW : Hid (Below w.heap.size w u1) := BW.out.trans (b_.mono BW.out.size)
  clear b_ z_ o_ y_ l_
  obtain ⟨a_0, a_1⟩ := PA.out.cells2
  go_wp2_with fail
  refine (toAR m a c vs u1 HA.out (by omega) (SA.out.mono (by decide))).mono ?_
  rintro e u2 ⟨x0, Lx0, rfl, o_, y_, l_, b_⟩
  have ZZ : Hid (w.heap.size + 2 ≤ u0.heap.size ∧ u0.heap.size ≤ u1.heap.size ∧ u1.heap.size ≤ u2.heap.size) := by show w.heap.size + 2 ≤ u0.heap.size ∧ u0.heap.size ≤ u1.heap.size ∧ u1.heap.size ≤ u2.heap.size; have := ZZ.out; have := b_.size; omega
  have HA : Hid (SlV u2 a vs) := HA.out.below b_
  have HE1 : Hid (Sl u2 a1 xs) := HE1.out.below b_
  have HE2 : Hid (Sl u2 a2 ys) := HE2.out.below b_
  have PA : Hid (Blk u2 w.heap.size #[.int .i64 m, .slice a vs.length c] 44) := PA.out.keep b_
  have PE : Hid (Blk u2 (w.heap.size + 1) #[.bool n, .int .i64 p, .int .i64 q, .slice a1 xs.length c1, .slice a2 ys.length c2, .int .i64 v, .int .i64 k] 60) := PE.out.keep b_
  have BS : Hid (Blk u2 CvS #[.int .i64 M, .slice avS LvS.length cvS] 24) := BS.out.keep b_
  have OvS : Hid (OwnR u2 u0.heap.size u1.heap.size (.slice avS LvS.length cvS) LvS) := OvS.out.keep b_
  have Ox0 : Hid (OwnR u2 u1.heap.size u2.heap.size x0 Lx0) := o_
  have Yx0 : Hid (bodies Lx0 = bodies vs) := y_
  have Vx0 : Hid (VLs Lx0) := l_
  have BW : Hid (Below w.heap.size w u2) := BW.out.trans (b_.mono BW.out.size)
  clear b_ o_ y_ l_ a_0 a_1
  obtain ⟨ax0, cx0, rfl, _⟩ := Ox0.out.form
  go_upto_region 10 with fail
  obtain ⟨u3, h_⟩ : ∃ x, x = u2.alloc (.cells #[.int .i64 m, .slice ax0 Lx0.length cx0] 24) := ⟨_, rfl⟩
  rw [← h_]
  have b_ : Below u2.heap.size u2 u3 := by rw [h_]; exact (Below.refl _ _).alloc (Nat.le_refl _) _
  have n_ : Blk u3 u2.heap.size #[.int .i64 m, .slice ax0 Lx0.length cx0] 24 := by rw [h_]; exact Blk.new _ _ _
  clear h_
  have ZZ : Hid (w.heap.size + 2 ≤ u0.heap.size ∧ u0.heap.size ≤ u1.heap.size ∧ u1.heap.size ≤ u2.heap.size ∧ u2.heap.size + 1 ≤ u3.heap.size) := by show w.heap.size + 2 ≤ u0.heap.size ∧ u0.heap.size ≤ u1.heap.size ∧ u1.heap.size ≤ u2.heap.size ∧ u2.heap.size + 1 ≤ u3.heap.size; have := ZZ.out; have := n_.lt; omega
  have HA : Hid (SlV u3 a vs) := HA.out.below b_
  have HE1 : Hid (Sl u3 a1 xs) := HE1.out.below b_
  have HE2 : Hid (Sl u3 a2 ys) := HE2.out.below b_
  have PA : Hid (Blk u3 w.heap.size #[.int .i64 m, .slice a vs.length c] 44) := PA.out.keep b_
  have PE : Hid (Blk u3 (w.heap.size + 1) #[.bool n, .int .i64 p, .int .i64 q, .slice a1 xs.length c1, .slice a2 ys.length c2, .int .i64 v, .int .i64 k] 60) := PE.out.keep b_
  have BS : Hid (Blk u3 CvS #[.int .i64 M, .slice avS LvS.length cvS] 24) := BS.out.keep b_
  have OvS : Hid (OwnR u3 u0.heap.size u1.heap.size (.slice avS LvS.length cvS) LvS) := OvS.out.keep b_
  have Ox0 : Hid (OwnR u3 u1.heap.size u2.heap.size (.slice ax0 Lx0.length cx0) Lx0) := Ox0.out.keep b_
  have BX : Hid (Blk u3 u2.heap.size #[.int .i64 m, .slice ax0 Lx0.length cx0] 24) := n_
  have BW : Hid (Below w.heap.size w u3) := BW.out.trans (b_.mono BW.out.size)
  clear b_ n_
  obtain ⟨f_0, f_1, f_2, f_3, f_4, f_5, f_6⟩ := PE.out.cells7
  go_wp2_with fail
  refine (toER n p q a1 a2 c1 c2 xs ys v k u3 HE1.out HE2.out (by omega) (by omega)).mono ?_
  rintro e u4 ⟨gx3, jx3, rfl, o_, b_⟩
  have ZZ : Hid (w.heap.size + 2 ≤ u0.heap.size ∧ u0.heap.size ≤ u1.heap.size ∧ u1.heap.size ≤ u2.heap.size ∧ u2.heap.size + 1 ≤ u3.heap.size ∧ u3.heap.size ≤ u4.heap.size) := by show w.heap.size + 2 ≤ u0.heap.size ∧ u0.heap.size ≤ u1.heap.size ∧ u1.heap.size ≤ u2.heap.size ∧ u2.heap.size + 1 ≤ u3.heap.size ∧ u3.heap.size ≤ u4.heap.size; have := ZZ.out; have := b_.size; omega
  have HA : Hid (SlV u4 a vs) := HA.out.below b_
  have HE1 : Hid (Sl u4 a1 xs) := HE1.out.below b_
  have HE2 : Hid (Sl u4 a2 ys) := HE2.out.below b_
  have PA : Hid (Blk u4 w.heap.size #[.int .i64 m, .slice a vs.length c] 44) := PA.out.keep b_
  have PE : Hid (Blk u4 (w.heap.size + 1) #[.bool n, .int .i64 p, .int .i64 q, .slice a1 xs.length c1, .slice a2 ys.length c2, .int .i64 v, .int .i64 k] 60) := PE.out.keep b_
  have BS : Hid (Blk u4 CvS #[.int .i64 M, .slice avS LvS.length cvS] 24) := BS.out.keep b_
  have OvS : Hid (OwnR u4 u0.heap.size u1.heap.size (.slice avS LvS.length cvS) LvS) := OvS.out.keep b_
  have Ox0 : Hid (OwnR u4 u1.heap.size u2.heap.size (.slice ax0 Lx0.length cx0) Lx0) := Ox0.out.keep b_
  have BX : Hid (Blk u4 u2.heap.size #[.int .i64 m, .slice ax0 Lx0.length cx0] 24) := BX.out.keep b_
  have Ex3 : Hid (OwnEn u4 u3.heap.size u4.heap.size gx3 jx3 xs ys) := o_
  have BW : Hid (Below w.heap.size w u4) := BW.out.trans (b_.mono BW.out.size)
  clear b_ o_ f_0 f_1 f_2 f_3 f_4 f_5 f_6
  go_upto_region 11 with fail
  obtain ⟨u5, h_⟩ : ∃ x, x = u4.alloc (.cells #[.bool n, .int .i64 p, .int .i64 q, .slice (some ⟨gx3, 0, none⟩) xs.length xs.length, .slice (some ⟨jx3, 0, none⟩) ys.length ys.length, .int .i64 v, .int .i64 k] 34) := ⟨_, rfl⟩
  rw [← h_]
  have b_ : Below u4.heap.size u4 u5 := by rw [h_]; exact (Below.refl _ _).alloc (Nat.le_refl _) _
  have n_ : Blk u5 u4.heap.size #[.bool n, .int .i64 p, .int .i64 q, .slice (some ⟨gx3, 0, none⟩) xs.length xs.length, .slice (some ⟨jx3, 0, none⟩) ys.length ys.length, .int .i64 v, .int .i64 k] 34 := by rw [h_]; exact Blk.new _ _ _
  clear h_
  have ZZ : Hid (w.heap.size + 2 ≤ u0.heap.size ∧ u0.heap.size ≤ u1.heap.size ∧ u1.heap.size ≤ u2.heap.size ∧ u2.heap.size + 1 ≤ u3.heap.size ∧ u3.heap.size ≤ u4.heap.size ∧ u4.heap.size + 1 ≤ u5.heap.size) := by show w.heap.size + 2 ≤ u0.heap.size ∧ u0.heap.size ≤ u1.heap.size ∧ u1.heap.size ≤ u2.heap.size ∧ u2.heap.size + 1 ≤ u3.heap.size ∧ u3.heap.size ≤ u4.heap.size ∧ u4.heap.size + 1 ≤ u5.heap.size; have := ZZ.out; have := n_.lt; omega
  have HA : Hid (SlV u5 a vs) := HA.out.below b_
  have HE1 : Hid (Sl u5 a1 xs) := HE1.out.below b_
  have HE2 : Hid (Sl u5 a2 ys) := HE2.out.below b_
  have PA : Hid (Blk u5 w.heap.size #[.int .i64 m, .slice a vs.length c] 44) := PA.out.keep b_
  have PE : Hid (Blk u5 (w.heap.size + 1) #[.bool n, .int .i64 p, .int .i64 q, .slice a1 xs.length c1, .slice a2 ys.length c2, .int .i64 v, .int .i64 k] 60) := PE.out.keep b_
  have BS : Hid (Blk u5 CvS #[.int .i64 M, .slice avS LvS.length cvS] 24) := BS.out.keep b_
  have OvS : Hid (OwnR u5 u0.heap.size u1.heap.size (.slice avS LvS.length cvS) LvS) := OvS.out.keep b_
  have Ox0 : Hid (OwnR u5 u1.heap.size u2.heap.size (.slice ax0 Lx0.length cx0) Lx0) := Ox0.out.keep b_
  have BX : Hid (Blk u5 u2.heap.size #[.int .i64 m, .slice ax0 Lx0.length cx0] 24) := BX.out.keep b_
  have Ex3 : Hid (OwnEn u5 u3.heap.size u4.heap.size gx3 jx3 xs ys) := Ex3.out.keep b_
  have BE : Hid (Blk u5 u4.heap.size #[.bool n, .int .i64 p, .int .i64 q, .slice (some ⟨gx3, 0, none⟩) xs.length xs.length, .slice (some ⟨jx3, 0, none⟩) ys.length ys.length, .int .i64 v, .int .i64 k] 34) := n_
  have BW : Hid (Below w.heap.size w u5) := BW.out.trans (b_.mono BW.out.size)
  clear b_ n_
  obtain ⟨x_0, x_1⟩ := BX.out.cells2
  obtain ⟨y_0, y_1, y_2, y_3, y_4, y_5, y_6⟩ := BE.out.cells7
  go_wp2_with fail
  refine ((CI.out) u5 _ _ _ Lx0 _ _ _ _ Ox0.out Vx0.out (by have := (bodies_eq Yx0.out).1; omega) Yx0.out Ex3.out.sl.1 Ex3.out.sl.2 (by omega) (by omega) (Nat.le_refl _) (Nat.le_refl _)).mono ?_
  rintro e u6 ⟨avG, cvG, LvG, rfl, o_, y_, b_⟩
  have ZZ : Hid (w.heap.size + 2 ≤ u0.heap.size ∧ u0.heap.size ≤ u1.heap.size ∧ u1.heap.size ≤ u2.heap.size ∧ u2.heap.size + 1 ≤ u3.heap.size ∧ u3.heap.size ≤ u4.heap.size ∧ u4.heap.size + 1 ≤ u5.heap.size ∧ u5.heap.size ≤ u6.heap.size) := by show w.heap.size + 2 ≤ u0.heap.size ∧ u0.heap.size ≤ u1.heap.size ∧ u1.heap.size ≤ u2.heap.size ∧ u2.heap.size + 1 ≤ u3.heap.size ∧ u3.heap.size ≤ u4.heap.size ∧ u4.heap.size + 1 ≤ u5.heap.size ∧ u5.heap.size ≤ u6.heap.size; have := ZZ.out; have := b_.size; omega
  have HA : Hid (SlV u6 a vs) := HA.out.below b_
  have HE1 : Hid (Sl u6 a1 xs) := HE1.out.below b_
  have HE2 : Hid (Sl u6 a2 ys) := HE2.out.below b_
  have PA : Hid (Blk u6 w.heap.size #[.int .i64 m, .slice a vs.length c] 44) := PA.out.keep b_
  have PE : Hid (Blk u6 (w.heap.size + 1) #[.bool n, .int .i64 p, .int .i64 q, .slice a1 xs.length c1, .slice a2 ys.length c2, .int .i64 v, .int .i64 k] 60) := PE.out.keep b_
  have BS : Hid (Blk u6 CvS #[.int .i64 M, .slice avS LvS.length cvS] 24) := BS.out.keep b_
  have OvS : Hid (OwnR u6 u0.heap.size u1.heap.size (.slice avS LvS.length cvS) LvS) := OvS.out.keep b_
  have Ox0 : Hid (OwnR u6 u1.heap.size u2.heap.size (.slice ax0 Lx0.length cx0) Lx0) := Ox0.out.keep b_
  have BX : Hid (Blk u6 u2.heap.size #[.int .i64 m, .slice ax0 Lx0.length cx0] 24) := BX.out.keep b_
  have Ex3 : Hid (OwnEn u6 u3.heap.size u4.heap.size gx3 jx3 xs ys) := Ex3.out.keep b_
  have BE : Hid (Blk u6 u4.heap.size #[.bool n, .int .i64 p, .int .i64 q, .slice (some ⟨gx3, 0, none⟩) xs.length xs.length, .slice (some ⟨jx3, 0, none⟩) ys.length ys.length, .int .i64 v, .int .i64 k] 34) := BE.out.keep b_
  have OvG : Hid (OwnR u6 u5.heap.size u6.heap.size (.slice avG LvG.length cvG) LvG) := o_
  have YvG : Hid (bodies LvG = BB) := y_
  have BW : Hid (Below w.heap.size w u6) := BW.out.trans (b_.mono BW.out.size)
  clear b_ o_ y_ x_0 x_1 y_0 y_1 y_2 y_3 y_4 y_5 y_6
  go_upto_region 12 with fail
  obtain ⟨u7, h_⟩ : ∃ x, x = u6.alloc (.cells #[.int .i64 M, .slice avG LvG.length cvG] 24) := ⟨_, rfl⟩
  rw [← h_]
  have b_ : Below u6.heap.size u6 u7 := by rw [h_]; exact (Below.refl _ _).alloc (Nat.le_refl _) _
  have n_ : Blk u7 u6.heap.size #[.int .i64 M, .slice avG LvG.length cvG] 24 := by rw [h_]; exact Blk.new _ _ _
  clear h_
  have ZZ : Hid (w.heap.size + 2 ≤ u0.heap.size ∧ u0.heap.size ≤ u1.heap.size ∧ u1.heap.size ≤ u2.heap.size ∧ u2.heap.size + 1 ≤ u3.heap.size ∧ u3.heap.size ≤ u4.heap.size ∧ u4.heap.size + 1 ≤ u5.heap.size ∧ u5.heap.size ≤ u6.heap.size ∧ u6.heap.size + 1 ≤ u7.heap.size) := by show w.heap.size + 2 ≤ u0.heap.size ∧ u0.heap.size ≤ u1.heap.size ∧ u1.heap.size ≤ u2.heap.size ∧ u2.heap.size + 1 ≤ u3.heap.size ∧ u3.heap.size ≤ u4.heap.size ∧ u4.heap.size + 1 ≤ u5.heap.size ∧ u5.heap.size ≤ u6.heap.size ∧ u6.heap.size + 1 ≤ u7.heap.size; have := ZZ.out; have := n_.lt; omega
  have HA : Hid (SlV u7 a vs) := HA.out.below b_
  have HE1 : Hid (Sl u7 a1 xs) := HE1.out.below b_
  have HE2 : Hid (Sl u7 a2 ys) := HE2.out.below b_
  have PA : Hid (Blk u7 w.heap.size #[.int .i64 m, .slice a vs.length c] 44) := PA.out.keep b_
  have PE : Hid (Blk u7 (w.heap.size + 1) #[.bool n, .int .i64 p, .int .i64 q, .slice a1 xs.length c1, .slice a2 ys.length c2, .int .i64 v, .int .i64 k] 60) := PE.out.keep b_
  have BS : Hid (Blk u7 CvS #[.int .i64 M, .slice avS LvS.length cvS] 24) := BS.out.keep b_
  have OvS : Hid (OwnR u7 u0.heap.size u1.heap.size (.slice avS LvS.length cvS) LvS) := OvS.out.keep b_
  have Ox0 : Hid (OwnR u7 u1.heap.size u2.heap.size (.slice ax0 Lx0.length cx0) Lx0) := Ox0.out.keep b_
  have BX : Hid (Blk u7 u2.heap.size #[.int .i64 m, .slice ax0 Lx0.length cx0] 24) := BX.out.keep b_
  have Ex3 : Hid (OwnEn u7 u3.heap.size u4.heap.size gx3 jx3 xs ys) := Ex3.out.keep b_
  have BE : Hid (Blk u7 u4.heap.size #[.bool n, .int .i64 p, .int .i64 q, .slice (some ⟨gx3, 0, none⟩) xs.length xs.length, .slice (some ⟨jx3, 0, none⟩) ys.length ys.length, .int .i64 v, .int .i64 k] 34) := BE.out.keep b_
  have OvG : Hid (OwnR u7 u5.heap.size u6.heap.size (.slice avG LvG.length cvG) LvG) := OvG.out.keep b_
  have BG : Hid (Blk u7 u6.heap.size #[.int .i64 M, .slice avG LvG.length cvG] 24) := n_
  have BW : Hid (Below w.heap.size w u7) := BW.out.trans (b_.mono BW.out.size)
  clear b_ n_
  obtain ⟨x_0, x_1⟩ := BG.out.cells2
  obtain ⟨y_0, y_1⟩ := BS.out.cells2
  go_wp2_with fail
  refine (eqAR M _ _ _ _ _ _ LvG LvS u7 OvG.out OvS.out (YvG.out.trans YvS.out.symm) (by have := (steps40 YvG.out BL.out SB.out).1; omega) (vl0_short YvG.out SB.out)).mono ?_
  rintro e u8 ⟨rfl, b_⟩
  have ZZ : Hid (w.heap.size + 2 ≤ u0.heap.size ∧ u0.heap.size ≤ u1.heap.size ∧ u1.heap.size ≤ u2.heap.size ∧ u2.heap.size + 1 ≤ u3.heap.size ∧ u3.heap.size ≤ u4.heap.size ∧ u4.heap.size + 1 ≤ u5.heap.size ∧ u5.heap.size ≤ u6.heap.size ∧ u6.heap.size + 1 ≤ u7.heap.size ∧ u7.heap.size ≤ u8.heap.size) := by show w.heap.size + 2 ≤ u0.heap.size ∧ u0.heap.size ≤ u1.heap.size ∧ u1.heap.size ≤ u2.heap.size ∧ u2.heap.size + 1 ≤ u3.heap.size ∧ u3.heap.size ≤ u4.heap.size ∧ u4.heap.size + 1 ≤ u5.heap.size ∧ u5.heap.size ≤ u6.heap.size ∧ u6.heap.size + 1 ≤ u7.heap.size ∧ u7.heap.size ≤ u8.heap.size; have := ZZ.out; have := b_.size; omega
  have HA : Hid (SlV u8 a vs) := HA.out.below b_
  have HE1 : Hid (Sl u8 a1 xs) := HE1.out.below b_
  have HE2 : Hid (Sl u8 a2 ys) := HE2.out.below b_
  have PA : Hid (Blk u8 w.heap.size #[.int .i64 m, .slice a vs.length c] 44) := PA.out.keep b_
  have PE : Hid (Blk u8 (w.heap.size + 1) #[.bool n, .int .i64 p, .int .i64 q, .slice a1 xs.length c1, .slice a2 ys.length c2, .int .i64 v, .int .i64 k] 60) := PE.out.keep b_
  have BS : Hid (Blk u8 CvS #[.int .i64 M, .slice avS LvS.length cvS] 24) := BS.out.keep b_
  have OvS : Hid (OwnR u8 u0.heap.size u1.heap.size (.slice avS LvS.length cvS) LvS) := OvS.out.keep b_
  have Ox0 : Hid (OwnR u8 u1.heap.size u2.heap.size (.slice ax0 Lx0.length cx0) Lx0) := Ox0.out.keep b_
  have BX : Hid (Blk u8 u2.heap.size #[.int .i64 m, .slice ax0 Lx0.length cx0] 24) := BX.out.keep b_
  have Ex3 : Hid (OwnEn u8 u3.heap.size u4.heap.size gx3 jx3 xs ys) := Ex3.out.keep b_
  have BE : Hid (Blk u8 u4.heap.size #[.bool n, .int .i64 p, .int .i64 q, .slice (some ⟨gx3, 0, none⟩) xs.length xs.length, .slice (some ⟨jx3, 0, none⟩) ys.length ys.length, .int .i64 v, .int .i64 k] 34) := BE.out.keep b_
  have OvG : Hid (OwnR u8 u5.heap.size u6.heap.size (.slice avG LvG.length cvG) LvG) := OvG.out.keep b_
  have BG : Hid (Blk u8 u6.heap.size #[.int .i64 M, .slice avG LvG.length cvG] 24) := BG.out.keep b_
  have BW : Hid (Below w.heap.size w u8) := BW.out.trans (b_.mono BW.out.size)
  clear b_ x_0 x_1 y_0 y_1
  go_upto_region 14 with fail
  go_cut [66] from 62 to 66 (fun q wx => q = .bool false ∧ Below u8.heap.size u8 wx)
  case first =>
    have AF : Hid (∀ V, Below u8.heap.size u8 V → (V.cell? ⟨u2.heap.size, 0, none⟩ = some (.int .i64 m) ∧ V.cell? ⟨u2.heap.size, 1, none⟩ = some (.slice ax0 Lx0.length cx0)) ∧ (V.cell? ⟨w.heap.size, 0, none⟩ = some (.int .i64 m) ∧ V.cell? ⟨w.heap.size, 1, none⟩ = some (.slice a vs.length c))) := fun V hV => ⟨(BX.out.keep hV).cells2, (PA.out.keep hV).cells2⟩
    obtain ⟨V, hV⟩ : ∃ V, V = u8.drew := ⟨_, rfl⟩
    have HV : Hid (V = u8.drew) := hV
    have BV : Hid (Below u8.heap.size u8 V) := by show Below _ _ _; rw [hV]; exact (Below.refl _ _).drew
    have pv := AF.out V BV.out
    have pu := AF.out u8 (Below.refl _ _)
    clear hV
    refine wp_region_held_drew (S := (fun w' : World => (w'.cell? ⟨u2.heap.size, 0, none⟩ = some (.int .i64 m) ∧ w'.cell? ⟨u2.heap.size, 1, none⟩ = some (.slice ax0 Lx0.length cx0)) ∧ (w'.cell? ⟨w.heap.size, 0, none⟩ = some (.int .i64 m) ∧ w'.cell? ⟨w.heap.size, 1, none⟩ = some (.slice a vs.length c)))) (by kernel_rfl) pu (fun hHeld => ?_)
    rw [← HV.out]
    refine wpAnyH_take (i := 0) (v := ?vq140) rfl (by kernel_rfl) (by kernel_rfl) (by kernel_rfl) (fun _ _ _ h => h) (Or.inl ⟨by rfl, ?yq140⟩) (by assumption) ?rq140
    case yq140 =>
      intro w' hSw
      try dsimp only at hSw
      go_simp
      try with_reducible rfl
    simp only [Act.put, List.getElem_toArray, List.getElem_cons_succ, List.getElem_cons_zero, List.setIfInBounds_toArray, List.set_cons_zero, List.set_cons_succ]
    refine wpAnyH_take (i := 1) (v := ?vq141) rfl (by kernel_rfl) (by kernel_rfl) (by kernel_rfl) (fun _ _ _ h => h) (Or.inl ⟨by rfl, ?yq141⟩) (by assumption) ?rq141
    case yq141 =>
      intro w' hSw
      try dsimp only at hSw
      go_simp
      try with_reducible rfl
    simp only [Act.put, List.getElem_toArray, List.getElem_cons_succ, List.getElem_cons_zero, List.setIfInBounds_toArray, List.set_cons_zero, List.set_cons_succ]
    refine wpAnyH_ready (rs := [2]) (by kernel_rfl) (by simp) ?_
    refine AllReadyH.cons rfl (fun K hK => ?_) AllReadyH.nil
    go_simp
    refine (toAR m a c vs V (HA.out.below BV.out) (by omega) (SA.out.mono (by decide))).mono ?_
    rintro e w1 ⟨y0, Ly0, rfl, o_, y_, _, b_⟩
    have OY : Hid (OwnR w1 V.heap.size w1.heap.size y0 Ly0) := o_
    have YY : Hid (bodies Ly0 = bodies vs) := y_
    have OX1 : Hid (OwnR w1 u1.heap.size u2.heap.size (.slice ax0 Lx0.length cx0) Lx0) := Ox0.out.keep (BV.out.trans (b_.mono BV.out.size))
    clear o_ y_
    have B1 : Hid (Below u8.heap.size u8 w1) := BV.out.trans (b_.mono BV.out.size)
    refine hK.out _ _ (AF.out w1 B1.out) (fun hH1 => ?_)
    clear hK K b_
    refine wpAnyH_ready (rs := [3]) (by kernel_rfl) (by simp) ?_
    refine AllReadyH.cons rfl (fun K hK => ?_) AllReadyH.nil
    go_simp
    refine (eqAR m _ _ _ _ _ _ Lx0 Ly0 w1 OX1.out OY.out (Yx0.out.trans YY.out.symm) (by have := (bodies_eq Yx0.out).1; omega) (vl0_short Yx0.out SA.out)).mono ?_
    rintro e w2 ⟨rfl, b_⟩
    have B2 : Hid (Below u8.heap.size u8 w2) := B1.out.trans (b_.mono B1.out.size)
    refine hK.out _ _ (AF.out w2 B2.out) (fun hH2 => ?_)
    clear hK K b_
    refine wpAnyH_take (i := 4) (v := ?vq144) rfl (by kernel_rfl) (by kernel_rfl) (by kernel_rfl) (fun _ _ _ h => h) (Or.inl ⟨by rfl, ?yq144⟩) (by assumption) ?rq144
    case yq144 =>
      intro w' hSw
      try dsimp only at hSw
      go_simp
      try with_reducible rfl
    simp only [Act.put, List.getElem_toArray, List.getElem_cons_succ, List.getElem_cons_zero, List.setIfInBounds_toArray, List.set_cons_zero, List.set_cons_succ]
    refine wpAnyH_done (by kernel_rfl) ?_ _
    go_wp2_with fail
    go_meet
    exact ⟨rfl, B2.out⟩
  case rest =>
  obtain ⟨u9, h_⟩ : ∃ x, x = wc := ⟨_, rfl⟩
  subst h_
  obtain ⟨rfl, b_⟩ := hcut
  have ZZ : Hid (w.heap.size + 2 ≤ u0.heap.size ∧ u0.heap.size ≤ u1.heap.size ∧ u1.heap.size ≤ u2.heap.size ∧ u2.heap.size + 1 ≤ u3.heap.size ∧ u3.heap.size ≤ u4.heap.size ∧ u4.heap.size + 1 ≤ u5.heap.size ∧ u5.heap.size ≤ u6.heap.size ∧ u6.heap.size + 1 ≤ u7.heap.size ∧ u7.heap.size ≤ u8.heap.size ∧ u8.heap.size ≤ u9.heap.size) := by show w.heap.size + 2 ≤ u0.heap.size ∧ u0.heap.size ≤ u1.heap.size ∧ u1.heap.size ≤ u2.heap.size ∧ u2.heap.size + 1 ≤ u3.heap.size ∧ u3.heap.size ≤ u4.heap.size ∧ u4.heap.size + 1 ≤ u5.heap.size ∧ u5.heap.size ≤ u6.heap.size ∧ u6.heap.size + 1 ≤ u7.heap.size ∧ u7.heap.size ≤ u8.heap.size ∧ u8.heap.size ≤ u9.heap.size; have := ZZ.out; have := b_.size; omega
  have HA : Hid (SlV u9 a vs) := HA.out.below b_
  have HE1 : Hid (Sl u9 a1 xs) := HE1.out.below b_
  have HE2 : Hid (Sl u9 a2 ys) := HE2.out.below b_
  have PA : Hid (Blk u9 w.heap.size #[.int .i64 m, .slice a vs.length c] 44) := PA.out.keep b_
  have PE : Hid (Blk u9 (w.heap.size + 1) #[.bool n, .int .i64 p, .int .i64 q, .slice a1 xs.length c1, .slice a2 ys.length c2, .int .i64 v, .int .i64 k] 60) := PE.out.keep b_
  have BS : Hid (Blk u9 CvS #[.int .i64 M, .slice avS LvS.length cvS] 24) := BS.out.keep b_
  have OvS : Hid (OwnR u9 u0.heap.size u1.heap.size (.slice avS LvS.length cvS) LvS) := OvS.out.keep b_
  have Ox0 : Hid (OwnR u9 u1.heap.size u2.heap.size (.slice ax0 Lx0.length cx0) Lx0) := Ox0.out.keep b_
  have BX : Hid (Blk u9 u2.heap.size #[.int .i64 m, .slice ax0 Lx0.length cx0] 24) := BX.out.keep b_
  have Ex3 : Hid (OwnEn u9 u3.heap.size u4.heap.size gx3 jx3 xs ys) := Ex3.out.keep b_
  have BE : Hid (Blk u9 u4.heap.size #[.bool n, .int .i64 p, .int .i64 q, .slice (some ⟨gx3, 0, none⟩) xs.length xs.length, .slice (some ⟨jx3, 0, none⟩) ys.length ys.length, .int .i64 v, .int .i64 k] 34) := BE.out.keep b_
  have OvG : Hid (OwnR u9 u5.heap.size u6.heap.size (.slice avG LvG.length cvG) LvG) := OvG.out.keep b_
  have BG : Hid (Blk u9 u6.heap.size #[.int .i64 M, .slice avG LvG.length cvG] 24) := BG.out.keep b_
  have BW : Hid (Below w.heap.size w u9) := BW.out.trans (b_.mono BW.out.size)
  clear b_ 
  go_upto_region 16 with fail
  go_cut [71] from 67 to 71 (fun q wx => q = .bool false ∧ Below u9.heap.size u9 wx)
  case first =>
    have AF : Hid (∀ V, Below u9.heap.size u9 V → (V.cell? ⟨u4.heap.size, 0, none⟩ = some (.bool n) ∧ V.cell? ⟨u4.heap.size, 1, none⟩ = some (.int .i64 p) ∧ V.cell? ⟨u4.heap.size, 2, none⟩ = some (.int .i64 q) ∧ V.cell? ⟨u4.heap.size, 3, none⟩ = some (.slice (some ⟨gx3, 0, none⟩) xs.length xs.length) ∧ V.cell? ⟨u4.heap.size, 4, none⟩ = some (.slice (some ⟨jx3, 0, none⟩) ys.length ys.length) ∧ V.cell? ⟨u4.heap.size, 5, none⟩ = some (.int .i64 v) ∧ V.cell? ⟨u4.heap.size, 6, none⟩ = some (.int .i64 k)) ∧ (V.cell? ⟨w.heap.size + 1, 0, none⟩ = some (.bool n) ∧ V.cell? ⟨w.heap.size + 1, 1, none⟩ = some (.int .i64 p) ∧ V.cell? ⟨w.heap.size + 1, 2, none⟩ = some (.int .i64 q) ∧ V.cell? ⟨w.heap.size + 1, 3, none⟩ = some (.slice a1 xs.length c1) ∧ V.cell? ⟨w.heap.size + 1, 4, none⟩ = some (.slice a2 ys.length c2) ∧ V.cell? ⟨w.heap.size + 1, 5, none⟩ = some (.int .i64 v) ∧ V.cell? ⟨w.heap.size + 1, 6, none⟩ = some (.int .i64 k))) := fun V hV => ⟨(BE.out.keep hV).cells7, (PE.out.keep hV).cells7⟩
    obtain ⟨V, hV⟩ : ∃ V, V = u9.drew := ⟨_, rfl⟩
    have HV : Hid (V = u9.drew) := hV
    have BV : Hid (Below u9.heap.size u9 V) := by show Below _ _ _; rw [hV]; exact (Below.refl _ _).drew
    have pv := AF.out V BV.out
    have pu := AF.out u9 (Below.refl _ _)
    clear hV
    refine wp_region_held_drew (S := (fun w' : World => (w'.cell? ⟨u4.heap.size, 0, none⟩ = some (.bool n) ∧ w'.cell? ⟨u4.heap.size, 1, none⟩ = some (.int .i64 p) ∧ w'.cell? ⟨u4.heap.size, 2, none⟩ = some (.int .i64 q) ∧ w'.cell? ⟨u4.heap.size, 3, none⟩ = some (.slice (some ⟨gx3, 0, none⟩) xs.length xs.length) ∧ w'.cell? ⟨u4.heap.size, 4, none⟩ = some (.slice (some ⟨jx3, 0, none⟩) ys.length ys.length) ∧ w'.cell? ⟨u4.heap.size, 5, none⟩ = some (.int .i64 v) ∧ w'.cell? ⟨u4.heap.size, 6, none⟩ = some (.int .i64 k)) ∧ (w'.cell? ⟨w.heap.size + 1, 0, none⟩ = some (.bool n) ∧ w'.cell? ⟨w.heap.size + 1, 1, none⟩ = some (.int .i64 p) ∧ w'.cell? ⟨w.heap.size + 1, 2, none⟩ = some (.int .i64 q) ∧ w'.cell? ⟨w.heap.size + 1, 3, none⟩ = some (.slice a1 xs.length c1) ∧ w'.cell? ⟨w.heap.size + 1, 4, none⟩ = some (.slice a2 ys.length c2) ∧ w'.cell? ⟨w.heap.size + 1, 5, none⟩ = some (.int .i64 v) ∧ w'.cell? ⟨w.heap.size + 1, 6, none⟩ = some (.int .i64 k)))) (by kernel_rfl) pu (fun hHeld => ?_)
    rw [← HV.out]
    refine wpAnyH_take (i := 0) (v := ?vq160) rfl (by kernel_rfl) (by kernel_rfl) (by kernel_rfl) (fun _ _ _ h => h) (Or.inl ⟨by rfl, ?yq160⟩) (by assumption) ?rq160
    case yq160 =>
      intro w' hSw
      try dsimp only at hSw
      go_simp
      try with_reducible rfl
    simp only [Act.put, List.getElem_toArray, List.getElem_cons_succ, List.getElem_cons_zero, List.setIfInBounds_toArray, List.set_cons_zero, List.set_cons_succ]
    refine wpAnyH_take (i := 1) (v := ?vq161) rfl (by kernel_rfl) (by kernel_rfl) (by kernel_rfl) (fun _ _ _ h => h) (Or.inl ⟨by rfl, ?yq161⟩) (by assumption) ?rq161
    case yq161 =>
      intro w' hSw
      try dsimp only at hSw
      go_simp
      try with_reducible rfl
    simp only [Act.put, List.getElem_toArray, List.getElem_cons_succ, List.getElem_cons_zero, List.setIfInBounds_toArray, List.set_cons_zero, List.set_cons_succ]
    refine wpAnyH_ready (rs := [2]) (by kernel_rfl) (by simp) ?_
    refine AllReadyH.cons rfl (fun K hK => ?_) AllReadyH.nil
    go_simp
    refine (toER n p q a1 a2 c1 c2 xs ys v k V (HE1.out.below BV.out) (HE2.out.below BV.out) (by omega) (by omega)).mono ?_
    rintro e w1 ⟨rg, rj, rfl, o_, b_⟩
    have EY : Hid (OwnEn w1 V.heap.size w1.heap.size rg rj xs ys) := o_
    have EX1 : Hid (OwnEn w1 u3.heap.size u4.heap.size gx3 jx3 xs ys) := Ex3.out.keep (BV.out.trans (b_.mono BV.out.size))
    clear o_
    have B1 : Hid (Below u9.heap.size u9 w1) := BV.out.trans (b_.mono BV.out.size)
    refine hK.out _ _ (AF.out w1 B1.out) (fun hH1 => ?_)
    clear hK K b_
    refine wpAnyH_ready (rs := [3]) (by kernel_rfl) (by simp) ?_
    refine AllReadyH.cons rfl (fun K hK => ?_) AllReadyH.nil
    go_simp
    refine (eqEntry n p q _ _ _ _ _ _ _ _ xs ys v k w1 EX1.out.sl.1 EX1.out.sl.2 EY.out.sl.1 EY.out.sl.2 (by omega) (by omega)).mono ?_
    rintro e w2 ⟨rfl, b_⟩
    have B2 : Hid (Below u9.heap.size u9 w2) := B1.out.trans (b_.mono B1.out.size)
    refine hK.out _ _ (AF.out w2 B2.out) (fun hH2 => ?_)
    clear hK K b_
    refine wpAnyH_take (i := 4) (v := ?vq164) rfl (by kernel_rfl) (by kernel_rfl) (by kernel_rfl) (fun _ _ _ h => h) (Or.inl ⟨by rfl, ?yq164⟩) (by assumption) ?rq164
    case yq164 =>
      intro w' hSw
      try dsimp only at hSw
      go_simp
      try with_reducible rfl
    simp only [Act.put, List.getElem_toArray, List.getElem_cons_succ, List.getElem_cons_zero, List.setIfInBounds_toArray, List.set_cons_zero, List.set_cons_succ]
    refine wpAnyH_done (by kernel_rfl) ?_ _
    go_wp2_with fail
    go_meet
    exact ⟨rfl, B2.out⟩
  case rest =>
  obtain ⟨u10, h_⟩ : ∃ x, x = wc := ⟨_, rfl⟩
  subst h_
  obtain ⟨rfl, b_⟩ := hcut
  have ZZ : Hid (w.heap.size + 2 ≤ u0.heap.size ∧ u0.heap.size ≤ u1.heap.size ∧ u1.heap.size ≤ u2.heap.size ∧ u2.heap.size + 1 ≤ u3.heap.size ∧ u3.heap.size ≤ u4.heap.size ∧ u4.heap.size + 1 ≤ u5.heap.size ∧ u5.heap.size ≤ u6.heap.size ∧ u6.heap.size + 1 ≤ u7.heap.size ∧ u7.heap.size ≤ u8.heap.size ∧ u8.heap.size ≤ u9.heap.size ∧ u9.heap.size ≤ u10.heap.size) := by show w.heap.size + 2 ≤ u0.heap.size ∧ u0.heap.size ≤ u1.heap.size ∧ u1.heap.size ≤ u2.heap.size ∧ u2.heap.size + 1 ≤ u3.heap.size ∧ u3.heap.size ≤ u4.heap.size ∧ u4.heap.size + 1 ≤ u5.heap.size ∧ u5.heap.size ≤ u6.heap.size ∧ u6.heap.size + 1 ≤ u7.heap.size ∧ u7.heap.size ≤ u8.heap.size ∧ u8.heap.size ≤ u9.heap.size ∧ u9.heap.size ≤ u10.heap.size; have := ZZ.out; have := b_.size; omega
  have HA : Hid (SlV u10 a vs) := HA.out.below b_
  have HE1 : Hid (Sl u10 a1 xs) := HE1.out.below b_
  have HE2 : Hid (Sl u10 a2 ys) := HE2.out.below b_
  have PA : Hid (Blk u10 w.heap.size #[.int .i64 m, .slice a vs.length c] 44) := PA.out.keep b_
  have PE : Hid (Blk u10 (w.heap.size + 1) #[.bool n, .int .i64 p, .int .i64 q, .slice a1 xs.length c1, .slice a2 ys.length c2, .int .i64 v, .int .i64 k] 60) := PE.out.keep b_
  have BS : Hid (Blk u10 CvS #[.int .i64 M, .slice avS LvS.length cvS] 24) := BS.out.keep b_
  have OvS : Hid (OwnR u10 u0.heap.size u1.heap.size (.slice avS LvS.length cvS) LvS) := OvS.out.keep b_
  have Ox0 : Hid (OwnR u10 u1.heap.size u2.heap.size (.slice ax0 Lx0.length cx0) Lx0) := Ox0.out.keep b_
  have BX : Hid (Blk u10 u2.heap.size #[.int .i64 m, .slice ax0 Lx0.length cx0] 24) := BX.out.keep b_
  have Ex3 : Hid (OwnEn u10 u3.heap.size u4.heap.size gx3 jx3 xs ys) := Ex3.out.keep b_
  have BE : Hid (Blk u10 u4.heap.size #[.bool n, .int .i64 p, .int .i64 q, .slice (some ⟨gx3, 0, none⟩) xs.length xs.length, .slice (some ⟨jx3, 0, none⟩) ys.length ys.length, .int .i64 v, .int .i64 k] 34) := BE.out.keep b_
  have OvG : Hid (OwnR u10 u5.heap.size u6.heap.size (.slice avG LvG.length cvG) LvG) := OvG.out.keep b_
  have BG : Hid (Blk u10 u6.heap.size #[.int .i64 M, .slice avG LvG.length cvG] 24) := BG.out.keep b_
  have BW : Hid (Below w.heap.size w u10) := BW.out.trans (b_.mono BW.out.size)
  clear b_ 
  have MKx0 : Hid (stepsV Lx0 Lx0.length ≤ 2 ^ 24) := by show _ ≤ _; rw [stepsV_body Yx0.out, stepsV_sum]; omega
  have MNx0 : Hid (Lx0.length ≤ 2 ^ 30) := by show _ ≤ _; rw [(bodies_eq Yx0.out).1]; omega
  have MKvG : Hid (stepsV LvG LvG.length ≤ 2 ^ 30) := (steps40 YvG.out BL.out SB.out).2
  have MNvG : Hid (LvG.length ≤ 2 ^ 30) := (steps40 YvG.out BL.out SB.out).1
  have MP : Hid ((0 : Int) ≤ 1 + (stepsV Lx0 Lx0.length : Nat) ∧ (1 + (stepsV Lx0 Lx0.length : Nat) : Int) ≤ 2 ^ 30) := by show _ ∧ _; have := MKx0.out; omega
  have MR : Hid (¬ ((1 + (stepsV Lx0 Lx0.length : Nat) + 2 * (xs.length : Nat) + 2 * (ys.length : Nat) : Int) < 0)) := by show ¬ _; omega
  have MRG : Hid (¬ ((1 + (stepsV LvG LvG.length : Nat) : Int) < 0)) := by show ¬ _; omega
  obtain ⟨x_0, x_1⟩ := BX.out.cells2
  go_wp2_with fail
  refine (markAR m _ _ _ Lx0 1 u10 Ox0.out MNx0.out (by decide) (by decide) (by have := MKx0.out; omega)).mono ?_
  rintro e u11 ⟨rfl, h_, o_⟩
  have ZZ : Hid (w.heap.size + 2 ≤ u0.heap.size ∧ u0.heap.size ≤ u1.heap.size ∧ u1.heap.size ≤ u2.heap.size ∧ u2.heap.size + 1 ≤ u3.heap.size ∧ u3.heap.size ≤ u4.heap.size ∧ u4.heap.size + 1 ≤ u5.heap.size ∧ u5.heap.size ≤ u6.heap.size ∧ u6.heap.size + 1 ≤ u7.heap.size ∧ u7.heap.size ≤ u8.heap.size ∧ u8.heap.size ≤ u9.heap.size ∧ u9.heap.size ≤ u10.heap.size ∧ u10.heap.size ≤ u11.heap.size) := by show w.heap.size + 2 ≤ u0.heap.size ∧ u0.heap.size ≤ u1.heap.size ∧ u1.heap.size ≤ u2.heap.size ∧ u2.heap.size + 1 ≤ u3.heap.size ∧ u3.heap.size ≤ u4.heap.size ∧ u4.heap.size + 1 ≤ u5.heap.size ∧ u5.heap.size ≤ u6.heap.size ∧ u6.heap.size + 1 ≤ u7.heap.size ∧ u7.heap.size ≤ u8.heap.size ∧ u8.heap.size ≤ u9.heap.size ∧ u9.heap.size ≤ u10.heap.size ∧ u10.heap.size ≤ u11.heap.size; have := ZZ.out; have := o_.size; omega
  have PA : Hid (Blk u11 w.heap.size #[.int .i64 m, .slice a vs.length c] 44) := PA.out.outG o_ (by have := ZZ.out; have := QvS.out; omega)
  have PE : Hid (Blk u11 (w.heap.size + 1) #[.bool n, .int .i64 p, .int .i64 q, .slice a1 xs.length c1, .slice a2 ys.length c2, .int .i64 v, .int .i64 k] 60) := PE.out.outG o_ (by have := ZZ.out; have := QvS.out; omega)
  have BS : Hid (Blk u11 CvS #[.int .i64 M, .slice avS LvS.length cvS] 24) := BS.out.outG o_ (by have := ZZ.out; have := QvS.out; omega)
  have OvS : Hid (OwnR u11 u0.heap.size u1.heap.size (.slice avS LvS.length cvS) LvS) := OvS.out.outG o_ (by have := ZZ.out; have := QvS.out; omega)
  have BX : Hid (Blk u11 u2.heap.size #[.int .i64 m, .slice ax0 Lx0.length cx0] 24) := BX.out.outG o_ (by have := ZZ.out; have := QvS.out; omega)
  have Ex3 : Hid (OwnEn u11 u3.heap.size u4.heap.size gx3 jx3 xs ys) := Ex3.out.outG o_ (by have := ZZ.out; have := QvS.out; omega)
  have BE : Hid (Blk u11 u4.heap.size #[.bool n, .int .i64 p, .int .i64 q, .slice (some ⟨gx3, 0, none⟩) xs.length xs.length, .slice (some ⟨jx3, 0, none⟩) ys.length ys.length, .int .i64 v, .int .i64 k] 34) := BE.out.outG o_ (by have := ZZ.out; have := QvS.out; omega)
  have OvG : Hid (OwnR u11 u5.heap.size u6.heap.size (.slice avG LvG.length cvG) LvG) := OvG.out.outG o_ (by have := ZZ.out; have := QvS.out; omega)
  have BG : Hid (Blk u11 u6.heap.size #[.int .i64 M, .slice avG LvG.length cvG] 24) := BG.out.outG o_ (by have := ZZ.out; have := QvS.out; omega)
  have BW : Hid (Below w.heap.size w u11) := BW.out.trans (o_.below (show w.heap.size ≤ u1.heap.size by have := ZZ.out; omega) (by have := ZZ.out; omega))
  have HA : Hid (SlV u11 a vs) := HA0.out.below BW.out
  have HE1 : Hid (Sl u11 a1 xs) := HE10.out.below BW.out
  have HE2 : Hid (Sl u11 a2 ys) := HE20.out.below BW.out
  clear h_ o_ x_0 x_1
  obtain ⟨y_0, y_1, y_2, y_3, y_4, y_5, y_6⟩ := BE.out.cells7
  go_wp2_with fail
  refine (markER n p q _ _ gx3 jx3 xs.length ys.length xs ys v k (1 + (stepsV Lx0 Lx0.length : Nat)) u11 Ex3.out (by omega) (by omega) MP.out.1 MP.out.2).mono ?_
  rintro e u12 ⟨rfl, o_⟩
  have ZZ : Hid (w.heap.size + 2 ≤ u0.heap.size ∧ u0.heap.size ≤ u1.heap.size ∧ u1.heap.size ≤ u2.heap.size ∧ u2.heap.size + 1 ≤ u3.heap.size ∧ u3.heap.size ≤ u4.heap.size ∧ u4.heap.size + 1 ≤ u5.heap.size ∧ u5.heap.size ≤ u6.heap.size ∧ u6.heap.size + 1 ≤ u7.heap.size ∧ u7.heap.size ≤ u8.heap.size ∧ u8.heap.size ≤ u9.heap.size ∧ u9.heap.size ≤ u10.heap.size ∧ u10.heap.size ≤ u11.heap.size ∧ u11.heap.size ≤ u12.heap.size) := by show w.heap.size + 2 ≤ u0.heap.size ∧ u0.heap.size ≤ u1.heap.size ∧ u1.heap.size ≤ u2.heap.size ∧ u2.heap.size + 1 ≤ u3.heap.size ∧ u3.heap.size ≤ u4.heap.size ∧ u4.heap.size + 1 ≤ u5.heap.size ∧ u5.heap.size ≤ u6.heap.size ∧ u6.heap.size + 1 ≤ u7.heap.size ∧ u7.heap.size ≤ u8.heap.size ∧ u8.heap.size ≤ u9.heap.size ∧ u9.heap.size ≤ u10.heap.size ∧ u10.heap.size ≤ u11.heap.size ∧ u11.heap.size ≤ u12.heap.size; have := ZZ.out; have := o_.size; omega
  have PA : Hid (Blk u12 w.heap.size #[.int .i64 m, .slice a vs.length c] 44) := PA.out.outG o_ (by have := ZZ.out; have := QvS.out; omega)
  have PE : Hid (Blk u12 (w.heap.size + 1) #[.bool n, .int .i64 p, .int .i64 q, .slice a1 xs.length c1, .slice a2 ys.length c2, .int .i64 v, .int .i64 k] 60) := PE.out.outG o_ (by have := ZZ.out; have := QvS.out; omega)
  have BS : Hid (Blk u12 CvS #[.int .i64 M, .slice avS LvS.length cvS] 24) := BS.out.outG o_ (by have := ZZ.out; have := QvS.out; omega)
  have OvS : Hid (OwnR u12 u0.heap.size u1.heap.size (.slice avS LvS.length cvS) LvS) := OvS.out.outG o_ (by have := ZZ.out; have := QvS.out; omega)
  have BX : Hid (Blk u12 u2.heap.size #[.int .i64 m, .slice ax0 Lx0.length cx0] 24) := BX.out.outG o_ (by have := ZZ.out; have := QvS.out; omega)
  have BE : Hid (Blk u12 u4.heap.size #[.bool n, .int .i64 p, .int .i64 q, .slice (some ⟨gx3, 0, none⟩) xs.length xs.length, .slice (some ⟨jx3, 0, none⟩) ys.length ys.length, .int .i64 v, .int .i64 k] 34) := BE.out.outG o_ (by have := ZZ.out; have := QvS.out; omega)
  have OvG : Hid (OwnR u12 u5.heap.size u6.heap.size (.slice avG LvG.length cvG) LvG) := OvG.out.outG o_ (by have := ZZ.out; have := QvS.out; omega)
  have BG : Hid (Blk u12 u6.heap.size #[.int .i64 M, .slice avG LvG.length cvG] 24) := BG.out.outG o_ (by have := ZZ.out; have := QvS.out; omega)
  have BW : Hid (Below w.heap.size w u12) := BW.out.trans (o_.below (show w.heap.size ≤ u3.heap.size by have := ZZ.out; omega) (by have := ZZ.out; omega))
  have HA : Hid (SlV u12 a vs) := HA0.out.below BW.out
  have HE1 : Hid (Sl u12 a1 xs) := HE10.out.below BW.out
  have HE2 : Hid (Sl u12 a2 ys) := HE20.out.below BW.out
  clear o_ y_0 y_1 y_2 y_3 y_4 y_5 y_6
  generalize hq1 : (1 + (stepsV Lx0 Lx0.length : Nat) + 2 * (xs.length : Nat) + 2 * (ys.length : Nat) : Int) = q1 at MR ⊢
  have mr := MR.out
  obtain ⟨x_0, x_1⟩ := BG.out.cells2
  obtain ⟨y_0, y_1⟩ := BS.out.cells2
  go_wp2_with fail
  refine (eqAR M _ _ _ _ _ _ LvG LvS u12 OvG.out OvS.out (YvG.out.trans YvS.out.symm) (by have := (steps40 YvG.out BL.out SB.out).1; omega) (vl0_short YvG.out SB.out)).mono ?_
  rintro e u13 ⟨rfl, b_⟩
  have ZZ : Hid (w.heap.size + 2 ≤ u0.heap.size ∧ u0.heap.size ≤ u1.heap.size ∧ u1.heap.size ≤ u2.heap.size ∧ u2.heap.size + 1 ≤ u3.heap.size ∧ u3.heap.size ≤ u4.heap.size ∧ u4.heap.size + 1 ≤ u5.heap.size ∧ u5.heap.size ≤ u6.heap.size ∧ u6.heap.size + 1 ≤ u7.heap.size ∧ u7.heap.size ≤ u8.heap.size ∧ u8.heap.size ≤ u9.heap.size ∧ u9.heap.size ≤ u10.heap.size ∧ u10.heap.size ≤ u11.heap.size ∧ u11.heap.size ≤ u12.heap.size ∧ u12.heap.size ≤ u13.heap.size) := by show w.heap.size + 2 ≤ u0.heap.size ∧ u0.heap.size ≤ u1.heap.size ∧ u1.heap.size ≤ u2.heap.size ∧ u2.heap.size + 1 ≤ u3.heap.size ∧ u3.heap.size ≤ u4.heap.size ∧ u4.heap.size + 1 ≤ u5.heap.size ∧ u5.heap.size ≤ u6.heap.size ∧ u6.heap.size + 1 ≤ u7.heap.size ∧ u7.heap.size ≤ u8.heap.size ∧ u8.heap.size ≤ u9.heap.size ∧ u9.heap.size ≤ u10.heap.size ∧ u10.heap.size ≤ u11.heap.size ∧ u11.heap.size ≤ u12.heap.size ∧ u12.heap.size ≤ u13.heap.size; have := ZZ.out; have := b_.size; omega
  have HA : Hid (SlV u13 a vs) := HA.out.below b_
  have HE1 : Hid (Sl u13 a1 xs) := HE1.out.below b_
  have HE2 : Hid (Sl u13 a2 ys) := HE2.out.below b_
  have PA : Hid (Blk u13 w.heap.size #[.int .i64 m, .slice a vs.length c] 44) := PA.out.keep b_
  have PE : Hid (Blk u13 (w.heap.size + 1) #[.bool n, .int .i64 p, .int .i64 q, .slice a1 xs.length c1, .slice a2 ys.length c2, .int .i64 v, .int .i64 k] 60) := PE.out.keep b_
  have BS : Hid (Blk u13 CvS #[.int .i64 M, .slice avS LvS.length cvS] 24) := BS.out.keep b_
  have OvS : Hid (OwnR u13 u0.heap.size u1.heap.size (.slice avS LvS.length cvS) LvS) := OvS.out.keep b_
  have BX : Hid (Blk u13 u2.heap.size #[.int .i64 m, .slice ax0 Lx0.length cx0] 24) := BX.out.keep b_
  have BE : Hid (Blk u13 u4.heap.size #[.bool n, .int .i64 p, .int .i64 q, .slice (some ⟨gx3, 0, none⟩) xs.length xs.length, .slice (some ⟨jx3, 0, none⟩) ys.length ys.length, .int .i64 v, .int .i64 k] 34) := BE.out.keep b_
  have OvG : Hid (OwnR u13 u5.heap.size u6.heap.size (.slice avG LvG.length cvG) LvG) := OvG.out.keep b_
  have BG : Hid (Blk u13 u6.heap.size #[.int .i64 M, .slice avG LvG.length cvG] 24) := BG.out.keep b_
  have BW : Hid (Below w.heap.size w u13) := BW.out.trans (b_.mono BW.out.size)
  clear b_ x_0 x_1 y_0 y_1
  obtain ⟨x_0, x_1⟩ := BG.out.cells2
  go_wp2_with fail
  refine (markAR M _ _ _ LvG 1 u13 OvG.out MNvG.out (by decide) (by decide) (by have := MKvG.out; omega)).mono ?_
  rintro e u14 ⟨rfl, h_, o_⟩
  have ZZ : Hid (w.heap.size + 2 ≤ u0.heap.size ∧ u0.heap.size ≤ u1.heap.size ∧ u1.heap.size ≤ u2.heap.size ∧ u2.heap.size + 1 ≤ u3.heap.size ∧ u3.heap.size ≤ u4.heap.size ∧ u4.heap.size + 1 ≤ u5.heap.size ∧ u5.heap.size ≤ u6.heap.size ∧ u6.heap.size + 1 ≤ u7.heap.size ∧ u7.heap.size ≤ u8.heap.size ∧ u8.heap.size ≤ u9.heap.size ∧ u9.heap.size ≤ u10.heap.size ∧ u10.heap.size ≤ u11.heap.size ∧ u11.heap.size ≤ u12.heap.size ∧ u12.heap.size ≤ u13.heap.size ∧ u13.heap.size ≤ u14.heap.size) := by show w.heap.size + 2 ≤ u0.heap.size ∧ u0.heap.size ≤ u1.heap.size ∧ u1.heap.size ≤ u2.heap.size ∧ u2.heap.size + 1 ≤ u3.heap.size ∧ u3.heap.size ≤ u4.heap.size ∧ u4.heap.size + 1 ≤ u5.heap.size ∧ u5.heap.size ≤ u6.heap.size ∧ u6.heap.size + 1 ≤ u7.heap.size ∧ u7.heap.size ≤ u8.heap.size ∧ u8.heap.size ≤ u9.heap.size ∧ u9.heap.size ≤ u10.heap.size ∧ u10.heap.size ≤ u11.heap.size ∧ u11.heap.size ≤ u12.heap.size ∧ u12.heap.size ≤ u13.heap.size ∧ u13.heap.size ≤ u14.heap.size; have := ZZ.out; have := o_.size; omega
  have PA : Hid (Blk u14 w.heap.size #[.int .i64 m, .slice a vs.length c] 44) := PA.out.outG o_ (by have := ZZ.out; have := QvS.out; omega)
  have PE : Hid (Blk u14 (w.heap.size + 1) #[.bool n, .int .i64 p, .int .i64 q, .slice a1 xs.length c1, .slice a2 ys.length c2, .int .i64 v, .int .i64 k] 60) := PE.out.outG o_ (by have := ZZ.out; have := QvS.out; omega)
  have BS : Hid (Blk u14 CvS #[.int .i64 M, .slice avS LvS.length cvS] 24) := BS.out.outG o_ (by have := ZZ.out; have := QvS.out; omega)
  have OvS : Hid (OwnR u14 u0.heap.size u1.heap.size (.slice avS LvS.length cvS) LvS) := OvS.out.outG o_ (by have := ZZ.out; have := QvS.out; omega)
  have BX : Hid (Blk u14 u2.heap.size #[.int .i64 m, .slice ax0 Lx0.length cx0] 24) := BX.out.outG o_ (by have := ZZ.out; have := QvS.out; omega)
  have BE : Hid (Blk u14 u4.heap.size #[.bool n, .int .i64 p, .int .i64 q, .slice (some ⟨gx3, 0, none⟩) xs.length xs.length, .slice (some ⟨jx3, 0, none⟩) ys.length ys.length, .int .i64 v, .int .i64 k] 34) := BE.out.outG o_ (by have := ZZ.out; have := QvS.out; omega)
  have BG : Hid (Blk u14 u6.heap.size #[.int .i64 M, .slice avG LvG.length cvG] 24) := BG.out.outG o_ (by have := ZZ.out; have := QvS.out; omega)
  have BW : Hid (Below w.heap.size w u14) := BW.out.trans (o_.below (show w.heap.size ≤ u5.heap.size by have := ZZ.out; omega) (by have := ZZ.out; omega))
  have HA : Hid (SlV u14 a vs) := HA0.out.below BW.out
  have HE1 : Hid (Sl u14 a1 xs) := HE10.out.below BW.out
  have HE2 : Hid (Sl u14 a2 ys) := HE20.out.below BW.out
  have KvG : Hid (HeldR u14 u5.heap.size u6.heap.size (.slice avG LvG.length cvG) 1 LvG) := h_
  clear h_ o_ x_0 x_1
  generalize hq2 : (1 + (stepsV LvG LvG.length : Nat) : Int) = q2 at MRG ⊢
  have mrg := MRG.out
  obtain ⟨x_0, x_1⟩ := BG.out.cells2
  go_wp2_with fail
  refine (heldAR M _ _ _ LvG 1 u14 KvG.out MNvG.out (by decide) (by decide) MKvG.out).mono ?_
  rintro e u15 ⟨rfl, b_⟩
  rw [hq2]
  have ZZ : Hid (w.heap.size + 2 ≤ u0.heap.size ∧ u0.heap.size ≤ u1.heap.size ∧ u1.heap.size ≤ u2.heap.size ∧ u2.heap.size + 1 ≤ u3.heap.size ∧ u3.heap.size ≤ u4.heap.size ∧ u4.heap.size + 1 ≤ u5.heap.size ∧ u5.heap.size ≤ u6.heap.size ∧ u6.heap.size + 1 ≤ u7.heap.size ∧ u7.heap.size ≤ u8.heap.size ∧ u8.heap.size ≤ u9.heap.size ∧ u9.heap.size ≤ u10.heap.size ∧ u10.heap.size ≤ u11.heap.size ∧ u11.heap.size ≤ u12.heap.size ∧ u12.heap.size ≤ u13.heap.size ∧ u13.heap.size ≤ u14.heap.size ∧ u14.heap.size ≤ u15.heap.size) := by show w.heap.size + 2 ≤ u0.heap.size ∧ u0.heap.size ≤ u1.heap.size ∧ u1.heap.size ≤ u2.heap.size ∧ u2.heap.size + 1 ≤ u3.heap.size ∧ u3.heap.size ≤ u4.heap.size ∧ u4.heap.size + 1 ≤ u5.heap.size ∧ u5.heap.size ≤ u6.heap.size ∧ u6.heap.size + 1 ≤ u7.heap.size ∧ u7.heap.size ≤ u8.heap.size ∧ u8.heap.size ≤ u9.heap.size ∧ u9.heap.size ≤ u10.heap.size ∧ u10.heap.size ≤ u11.heap.size ∧ u11.heap.size ≤ u12.heap.size ∧ u12.heap.size ≤ u13.heap.size ∧ u13.heap.size ≤ u14.heap.size ∧ u14.heap.size ≤ u15.heap.size; have := ZZ.out; have := b_.size; omega
  have HA : Hid (SlV u15 a vs) := HA.out.below b_
  have HE1 : Hid (Sl u15 a1 xs) := HE1.out.below b_
  have HE2 : Hid (Sl u15 a2 ys) := HE2.out.below b_
  have PA : Hid (Blk u15 w.heap.size #[.int .i64 m, .slice a vs.length c] 44) := PA.out.keep b_
  have PE : Hid (Blk u15 (w.heap.size + 1) #[.bool n, .int .i64 p, .int .i64 q, .slice a1 xs.length c1, .slice a2 ys.length c2, .int .i64 v, .int .i64 k] 60) := PE.out.keep b_
  have BS : Hid (Blk u15 CvS #[.int .i64 M, .slice avS LvS.length cvS] 24) := BS.out.keep b_
  have OvS : Hid (OwnR u15 u0.heap.size u1.heap.size (.slice avS LvS.length cvS) LvS) := OvS.out.keep b_
  have BX : Hid (Blk u15 u2.heap.size #[.int .i64 m, .slice ax0 Lx0.length cx0] 24) := BX.out.keep b_
  have BE : Hid (Blk u15 u4.heap.size #[.bool n, .int .i64 p, .int .i64 q, .slice (some ⟨gx3, 0, none⟩) xs.length xs.length, .slice (some ⟨jx3, 0, none⟩) ys.length ys.length, .int .i64 v, .int .i64 k] 34) := BE.out.keep b_
  have BG : Hid (Blk u15 u6.heap.size #[.int .i64 M, .slice avG LvG.length cvG] 24) := BG.out.keep b_
  have KvG : Hid (HeldR u15 u5.heap.size u6.heap.size (.slice avG LvG.length cvG) 1 LvG) := KvG.out.keep b_
  have BW : Hid (Below w.heap.size w u15) := BW.out.trans (b_.mono BW.out.size)
  clear b_ x_0 x_1
  go_upto_region 31 with fail
  go_cut [19, 20] from 102 to 111 (fun pt t wx => ∃ C la lc us, pt = .pointer (some ⟨C, 0, none⟩) ∧ t = .bool OO ∧ Blk wx C #[.int .i64 M, .slice la (List.length (α := VM) us) lc] 24 ∧ OwnR wx u15.heap.size wx.heap.size (.slice la us.length lc) us ∧ bodies us = BB ∧ Below u15.heap.size u15 wx ∧ u15.heap.size ≤ C)
  case first =>
    have AF : Hid (∀ V, Below u15.heap.size u15 V → (V.cell? ⟨w.heap.size, 0, none⟩ = some (.int .i64 m) ∧ V.cell? ⟨w.heap.size, 1, none⟩ = some (.slice a vs.length c)) ∧ V.cell? ⟨w.heap.size + 1, 0, none⟩ = some (.bool n) ∧ V.cell? ⟨w.heap.size + 1, 1, none⟩ = some (.int .i64 p) ∧ V.cell? ⟨w.heap.size + 1, 2, none⟩ = some (.int .i64 q) ∧ V.cell? ⟨w.heap.size + 1, 3, none⟩ = some (.slice a1 xs.length c1) ∧ V.cell? ⟨w.heap.size + 1, 4, none⟩ = some (.slice a2 ys.length c2) ∧ V.cell? ⟨w.heap.size + 1, 5, none⟩ = some (.int .i64 v) ∧ V.cell? ⟨w.heap.size + 1, 6, none⟩ = some (.int .i64 k)) := fun V hV => ⟨(PA.out.keep hV).cells2, (PE.out.keep hV).cells7⟩
    obtain ⟨V, hV⟩ : ∃ V, V = u15.drew := ⟨_, rfl⟩
    have HV : Hid (V = u15.drew) := hV
    have BV : Hid (Below u15.heap.size u15 V) := by show Below _ _ _; rw [hV]; exact (Below.refl _ _).drew
    have pv := AF.out V BV.out
    have pu := AF.out u15 (Below.refl _ _)
    clear hV
    refine wp_region_held_drew (S := (fun w' : World => (w'.cell? ⟨w.heap.size, 0, none⟩ = some (.int .i64 m) ∧ w'.cell? ⟨w.heap.size, 1, none⟩ = some (.slice a vs.length c)) ∧ w'.cell? ⟨w.heap.size + 1, 0, none⟩ = some (.bool n) ∧ w'.cell? ⟨w.heap.size + 1, 1, none⟩ = some (.int .i64 p) ∧ w'.cell? ⟨w.heap.size + 1, 2, none⟩ = some (.int .i64 q) ∧ w'.cell? ⟨w.heap.size + 1, 3, none⟩ = some (.slice a1 xs.length c1) ∧ w'.cell? ⟨w.heap.size + 1, 4, none⟩ = some (.slice a2 ys.length c2) ∧ w'.cell? ⟨w.heap.size + 1, 5, none⟩ = some (.int .i64 v) ∧ w'.cell? ⟨w.heap.size + 1, 6, none⟩ = some (.int .i64 k))) (by kernel_rfl) pu (fun hHeld => ?_)
    rw [← HV.out]
    refine wpAnyH_take (i := 0) (v := ?vvH0) rfl (by kernel_rfl) (by kernel_rfl) (by kernel_rfl) (fun _ _ _ h => h) (Or.inl ⟨by rfl, ?yvH0⟩) (by assumption) ?rvH0
    case yvH0 =>
      intro w' hSw
      try dsimp only at hSw
      go_simp
      try with_reducible rfl
    simp only [Act.put, List.getElem_toArray, List.getElem_cons_succ, List.getElem_cons_zero, List.setIfInBounds_toArray, List.set_cons_zero, List.set_cons_succ]
    refine wpAnyH_take (i := 2) (v := ?vvH2) rfl (by kernel_rfl) (by kernel_rfl) (by kernel_rfl) (fun _ _ _ h => h) (Or.inl ⟨by rfl, ?yvH2⟩) (by assumption) ?rvH2
    case yvH2 =>
      intro w' hSw
      try dsimp only at hSw
      go_simp
      try with_reducible rfl
    simp only [Act.put, List.getElem_toArray, List.getElem_cons_succ, List.getElem_cons_zero, List.setIfInBounds_toArray, List.set_cons_zero, List.set_cons_succ]
    refine wpAnyH_take (i := 3) (v := ?vvH3) rfl (by kernel_rfl) (by kernel_rfl) (by kernel_rfl) (fun _ _ _ h => h) (Or.inl ⟨by rfl, ?yvH3⟩) (by assumption) ?rvH3
    case yvH3 =>
      intro w' hSw
      try dsimp only at hSw
      go_simp
      try with_reducible rfl
    simp only [Act.put, List.getElem_toArray, List.getElem_cons_succ, List.getElem_cons_zero, List.setIfInBounds_toArray, List.set_cons_zero, List.set_cons_succ]
    refine wpAnyH_take (i := 4) (v := ?vvH4) rfl (by kernel_rfl) (by kernel_rfl) (by kernel_rfl) (fun _ _ _ h => h) (Or.inl ⟨by rfl, ?yvH4⟩) (by assumption) ?rvH4
    case yvH4 =>
      intro w' hSw
      try dsimp only at hSw
      go_simp
      try with_reducible rfl
    simp only [Act.put, List.getElem_toArray, List.getElem_cons_succ, List.getElem_cons_zero, List.setIfInBounds_toArray, List.set_cons_zero, List.set_cons_succ]
    refine wpAnyH_ready (rs := [1, 10]) (by kernel_rfl) (by simp) ?_
    refine AllReadyH.cons rfl (fun K hK => ?_) (AllReadyH.cons rfl (fun K hK => ?_) AllReadyH.nil)
    · skip
      go_simp
      refine (toAR m a c vs V (HA.out.below BV.out) (by omega) (SA.out.mono (by decide))).mono ?_
      rintro e xvH1 ⟨r0, R0, rfl, o_, y_, l_, b_⟩
      have BxvH1 : Hid (Below u15.heap.size u15 xvH1) := BV.out.trans (b_.mono BV.out.size)
      obtain ⟨lo0, hlo0⟩ : ∃ x, x = V.heap.size := ⟨_, rfl⟩
      obtain ⟨hi0, hhi0⟩ : ∃ x, x = xvH1.heap.size := ⟨_, rfl⟩
      have OR0 : Hid (OwnR xvH1 lo0 hi0 r0 R0) := by rw [hlo0, hhi0]; exact o_
      have YR0 : Hid (bodies R0 = bodies vs) := y_
      have VR0 : Hid (VLs R0) := l_
      clear o_ y_ l_ hlo0 hhi0
      refine hK.out _ _ (AF.out xvH1 BxvH1.out) (fun hHxvH1 => ?_)
      clear hK K b_
      refine wpAnyH_ready (rs := [5, 10]) (by kernel_rfl) (by simp) ?_
      refine AllReadyH.cons rfl (fun K hK => ?_) (AllReadyH.cons rfl (fun K hK => ?_) AllReadyH.nil)
      · skip
        go_simp
        refine (toER n p q a1 a2 c1 c2 xs ys v k xvH1 (HE1.out.below BxvH1.out) (HE2.out.below BxvH1.out) (by omega) (by omega)).mono ?_
        rintro e xvH2 ⟨rg, rj, rfl, o_, b_⟩
        have BxvH2 : Hid (Below u15.heap.size u15 xvH2) := BxvH1.out.trans (b_.mono BxvH1.out.size)
        have OR0 : Hid (OwnR xvH2 lo0 hi0 r0 R0) := OR0.out.keep b_
        obtain ⟨lo1, hlo1⟩ : ∃ x, x = xvH1.heap.size := ⟨_, rfl⟩
        obtain ⟨hi1, hhi1⟩ : ∃ x, x = xvH2.heap.size := ⟨_, rfl⟩
        have ER0 : Hid (OwnEn xvH2 lo1 hi1 rg rj xs ys) := by rw [hlo1, hhi1]; exact o_
        clear o_ hlo1 hhi1
        refine hK.out _ _ (AF.out xvH2 BxvH2.out) (fun hHxvH2 => ?_)
        clear hK K b_
        refine wpAnyH_ready (rs := [6, 10]) (by kernel_rfl) (by simp) ?_
        refine AllReadyH.cons rfl (fun K hK => ?_) (AllReadyH.cons rfl (fun K hK => ?_) AllReadyH.nil)
        · skip
          go_simp
          refine ((CI.out) xvH2 _ _ _ R0 _ _ _ _ OR0.out VR0.out (by have := (bodies_eq YR0.out).1; omega) YR0.out ER0.out.sl.1 ER0.out.sl.2 (by omega) (by omega) (Nat.le_refl _) (Nat.le_refl _)).mono ?_
          rintro e xvH3 ⟨la, lc, us, rfl, o_, y_, b_⟩
          have LOW : Hid (u15.heap.size ≤ xvH2.heap.size) := BxvH2.out.size
          have BxvH3 : Hid (Below u15.heap.size u15 xvH3) := BxvH2.out.trans (b_.mono BxvH2.out.size)
          have OR0 : Hid (OwnR xvH3 lo0 hi0 r0 R0) := OR0.out.keep b_
          have ER0 : Hid (OwnEn xvH3 lo1 hi1 rg rj xs ys) := ER0.out.keep b_
          have OL2 : Hid (OwnR xvH3 xvH2.heap.size xvH3.heap.size (.slice la us.length lc) us) := o_
          have YL2 : Hid (bodies us = BB) := y_
          clear o_ y_
          refine hK.out _ _ (AF.out xvH3 BxvH3.out) (fun hHxvH3 => ?_)
          clear hK K b_
          refine wpAnyH_take (i := 7) (v := ?vvHccc7) rfl (by kernel_rfl) (by kernel_rfl) (by kernel_rfl) (fun _ _ _ h => h) (Or.inl ⟨by rfl, ?yvHccc7⟩) (by assumption) ?rvHccc7
          case yvHccc7 =>
            intro w' hSw
            try dsimp only at hSw
            go_simp
            try with_reducible rfl
          simp only [Act.put, List.getElem_toArray, List.getElem_cons_succ, List.getElem_cons_zero, List.setIfInBounds_toArray, List.set_cons_zero, List.set_cons_succ]
          refine wpAnyH_take (i := 8) (v := ?vvHccc8) rfl (by kernel_rfl) (by kernel_rfl) (by kernel_rfl) (fun _ _ _ h => h) (Or.inl ⟨by rfl, ?yvHccc8⟩) (by assumption) ?rvHccc8
          case yvHccc8 =>
            intro w' hSw
            try dsimp only at hSw
            go_simp
            try with_reducible rfl
          simp only [Act.put, List.getElem_toArray, List.getElem_cons_succ, List.getElem_cons_zero, List.setIfInBounds_toArray, List.set_cons_zero, List.set_cons_succ]
          refine wpAnyH_take (i := 9) (v := ?vvHccc9) rfl (by kernel_rfl) (by kernel_rfl) (by kernel_rfl) (fun _ _ _ h => h) (Or.inl ⟨by rfl, ?yvHccc9⟩) (by assumption) ?rvHccc9
          case yvHccc9 =>
            intro w' hSw
            try dsimp only at hSw
            go_simp
            try with_reducible rfl
          simp only [Act.put, List.getElem_toArray, List.getElem_cons_succ, List.getElem_cons_zero, List.setIfInBounds_toArray, List.set_cons_zero, List.set_cons_succ]
          refine wpAnyH_ready (rs := [10]) (by kernel_rfl) (by simp) ?_
          refine AllReadyH.cons rfl (fun K hK => ?_) AllReadyH.nil
          obtain ⟨zvH3, h_⟩ : ∃ x, x = xvH3.alloc (.cells #[.int .i64 0, .slice none 0 0] 24) := ⟨_, rfl⟩
          obtain ⟨C, hC⟩ : ∃ x, x = xvH3.heap.size := ⟨_, rfl⟩
          have b_ : Below xvH3.heap.size xvH3 zvH3 := by rw [h_]; exact (Below.refl _ _).alloc (Nat.le_refl _) _
          have ZC : Hid (Blk zvH3 C #[.int .i64 0, .slice none 0 0] 24) := by show Blk _ _ _ _; rw [h_, hC]; exact Blk.new _ _ _
          have BzvH3 : Hid (Below u15.heap.size u15 zvH3) := BxvH3.out.trans (b_.mono BxvH3.out.size)
          have CL : Hid (u15.heap.size ≤ C) := by show _ ≤ _; rw [hC]; exact BxvH3.out.size
          have OR0 : Hid (OwnR zvH3 lo0 hi0 r0 R0) := OR0.out.keep b_
          have ER0 : Hid (OwnEn zvH3 lo1 hi1 rg rj xs ys) := ER0.out.keep b_
          have OL2' : Hid (OwnR zvH3 xvH2.heap.size C (.slice la us.length lc) us) := by rw [hC]; exact OL2.out.keep b_
          go_simp
          rw [← h_, ← hC]
          refine hK.out _ _ (AF.out zvH3 BzvH3.out) (fun hHzvH3 => ?_)
          clear hK K h_ b_ hC
          obtain ⟨k0, k1⟩ := ZC.out.cells2
          have fz := ZC.out.frozen
          refine wpAnyH_ready (rs := [11]) (by kernel_rfl) (by simp) ?_
          refine AllReadyH.cons rfl (fun K hK => ?_) AllReadyH.nil
          go_simp
          obtain ⟨F, hF⟩ : ∃ x, x = (zvH3.setCell ⟨C, 0, none⟩ (.int .i64 M)).setCell ⟨C, 1, none⟩ (.slice la us.length lc) := ⟨_, rfl⟩
          rw [← hF]
          have on : Only C zvH3 F := by rw [hF]; exact ((Only.refl _ _).setCell _).setCell _
          have CF : Hid (Blk F C #[.int .i64 M, .slice la us.length lc] 24) := by show Blk _ _ _ _; rw [hF]; exact ((ZC.out.set 0 _).set 1 _).eq (by simp)
          have BF : Hid (Below u15.heap.size u15 F) := BzvH3.out.trans (on.below CL.out)
          have OF : Hid (OwnR F u15.heap.size F.heap.size (.slice la us.length lc) us) := ((OL2'.out.keepIn (Nat.le_of_eq on.size.symm) fun b h1 h2 => on.block b (by omega)).weaken LOW.out).raise (by have := CF.out.lt; omega) (Nat.le_refl _)
          clear hF on k0 k1 fz
          refine hK.out _ _ (AF.out F BF.out) (fun hHF => ?_)
          clear hK K
          refine wpAnyH_take (i := 12) (v := ?vvHccca12) rfl (by kernel_rfl) (by kernel_rfl) (by kernel_rfl) (fun _ _ _ h => h) (Or.inl ⟨by rfl, ?yvHccca12⟩) (by assumption) ?rvHccca12
          case yvHccca12 =>
            intro w' hSw
            try dsimp only at hSw
            go_simp
            try with_reducible rfl
          simp only [Act.put, List.getElem_toArray, List.getElem_cons_succ, List.getElem_cons_zero, List.setIfInBounds_toArray, List.set_cons_zero, List.set_cons_succ]
          refine wpAnyH_done (by kernel_rfl) ?_ _
          go_wp2_with fail
          go_meet
          exact ⟨C, la, lc, us, rfl, rfl, CF.out, OF.out, YL2.out, BF.out, CL.out⟩
        · skip
          obtain ⟨zvH2, h_⟩ : ∃ x, x = xvH2.alloc (.cells #[.int .i64 0, .slice none 0 0] 24) := ⟨_, rfl⟩
          obtain ⟨C, hC⟩ : ∃ x, x = xvH2.heap.size := ⟨_, rfl⟩
          have b_ : Below xvH2.heap.size xvH2 zvH2 := by rw [h_]; exact (Below.refl _ _).alloc (Nat.le_refl _) _
          have ZC : Hid (Blk zvH2 C #[.int .i64 0, .slice none 0 0] 24) := by show Blk _ _ _ _; rw [h_, hC]; exact Blk.new _ _ _
          have BzvH2 : Hid (Below u15.heap.size u15 zvH2) := BxvH2.out.trans (b_.mono BxvH2.out.size)
          have CL : Hid (u15.heap.size ≤ C) := by show _ ≤ _; rw [hC]; exact BxvH2.out.size
          have OR0 : Hid (OwnR zvH2 lo0 hi0 r0 R0) := OR0.out.keep b_
          have ER0 : Hid (OwnEn zvH2 lo1 hi1 rg rj xs ys) := ER0.out.keep b_
          go_simp
          rw [← h_, ← hC]
          refine hK.out _ _ (AF.out zvH2 BzvH2.out) (fun hHzvH2 => ?_)
          clear hK K h_ b_ hC
          refine wpAnyH_ready (rs := [6]) (by kernel_rfl) (by simp) ?_
          refine AllReadyH.cons rfl (fun K hK => ?_) AllReadyH.nil
          go_simp
          refine ((CI.out) zvH2 _ _ _ R0 _ _ _ _ OR0.out VR0.out (by have := (bodies_eq YR0.out).1; omega) YR0.out ER0.out.sl.1 ER0.out.sl.2 (by omega) (by omega) (Nat.le_refl _) (Nat.le_refl _)).mono ?_
          rintro e xvH4 ⟨la, lc, us, rfl, o_, y_, b_⟩
          have LOW : Hid (u15.heap.size ≤ zvH2.heap.size) := BzvH2.out.size
          have HIGH : Hid (C < zvH2.heap.size) := ZC.out.lt
          have BxvH4 : Hid (Below u15.heap.size u15 xvH4) := BzvH2.out.trans (b_.mono BzvH2.out.size)
          have OR0 : Hid (OwnR xvH4 lo0 hi0 r0 R0) := OR0.out.keep b_
          have ER0 : Hid (OwnEn xvH4 lo1 hi1 rg rj xs ys) := ER0.out.keep b_
          have OL2 : Hid (OwnR xvH4 zvH2.heap.size xvH4.heap.size (.slice la us.length lc) us) := o_
          have YL2 : Hid (bodies us = BB) := y_
          clear o_ y_
          have ZC : Hid (Blk xvH4 C #[.int .i64 0, .slice none 0 0] 24) := ZC.out.keep b_
          refine hK.out _ _ (AF.out xvH4 BxvH4.out) (fun hHxvH4 => ?_)
          clear hK K b_
          refine wpAnyH_take (i := 7) (v := ?vvHccac7) rfl (by kernel_rfl) (by kernel_rfl) (by kernel_rfl) (fun _ _ _ h => h) (Or.inl ⟨by rfl, ?yvHccac7⟩) (by assumption) ?rvHccac7
          case yvHccac7 =>
            intro w' hSw
            try dsimp only at hSw
            go_simp
            try with_reducible rfl
          simp only [Act.put, List.getElem_toArray, List.getElem_cons_succ, List.getElem_cons_zero, List.setIfInBounds_toArray, List.set_cons_zero, List.set_cons_succ]
          refine wpAnyH_take (i := 8) (v := ?vvHccac8) rfl (by kernel_rfl) (by kernel_rfl) (by kernel_rfl) (fun _ _ _ h => h) (Or.inl ⟨by rfl, ?yvHccac8⟩) (by assumption) ?rvHccac8
          case yvHccac8 =>
            intro w' hSw
            try dsimp only at hSw
            go_simp
            try with_reducible rfl
          simp only [Act.put, List.getElem_toArray, List.getElem_cons_succ, List.getElem_cons_zero, List.setIfInBounds_toArray, List.set_cons_zero, List.set_cons_succ]
          refine wpAnyH_take (i := 9) (v := ?vvHccac9) rfl (by kernel_rfl) (by kernel_rfl) (by kernel_rfl) (fun _ _ _ h => h) (Or.inl ⟨by rfl, ?yvHccac9⟩) (by assumption) ?rvHccac9
          case yvHccac9 =>
            intro w' hSw
            try dsimp only at hSw
            go_simp
            try with_reducible rfl
          simp only [Act.put, List.getElem_toArray, List.getElem_cons_succ, List.getElem_cons_zero, List.setIfInBounds_toArray, List.set_cons_zero, List.set_cons_succ]
          obtain ⟨k0, k1⟩ := ZC.out.cells2
          have fz := ZC.out.frozen
          refine wpAnyH_ready (rs := [11]) (by kernel_rfl) (by simp) ?_
          refine AllReadyH.cons rfl (fun K hK => ?_) AllReadyH.nil
          go_simp
          obtain ⟨F, hF⟩ : ∃ x, x = (xvH4.setCell ⟨C, 0, none⟩ (.int .i64 M)).setCell ⟨C, 1, none⟩ (.slice la us.length lc) := ⟨_, rfl⟩
          rw [← hF]
          have on : Only C xvH4 F := by rw [hF]; exact ((Only.refl _ _).setCell _).setCell _
          have CF : Hid (Blk F C #[.int .i64 M, .slice la us.length lc] 24) := by show Blk _ _ _ _; rw [hF]; exact ((ZC.out.set 0 _).set 1 _).eq (by simp)
          have BF : Hid (Below u15.heap.size u15 F) := BxvH4.out.trans (on.below CL.out)
          have OF : Hid (OwnR F u15.heap.size F.heap.size (.slice la us.length lc) us) := ((OL2.out.keepIn (Nat.le_of_eq on.size.symm) fun b h1 h2 => on.block b (by have := HIGH.out; omega)).weaken LOW.out).raise (by rw [on.size]; omega) (Nat.le_refl _)
          clear hF on k0 k1 fz
          refine hK.out _ _ (AF.out F BF.out) (fun hHF => ?_)
          clear hK K
          refine wpAnyH_take (i := 12) (v := ?vvHccac12) rfl (by kernel_rfl) (by kernel_rfl) (by kernel_rfl) (fun _ _ _ h => h) (Or.inl ⟨by rfl, ?yvHccac12⟩) (by assumption) ?rvHccac12
          case yvHccac12 =>
            intro w' hSw
            try dsimp only at hSw
            go_simp
            try with_reducible rfl
          simp only [Act.put, List.getElem_toArray, List.getElem_cons_succ, List.getElem_cons_zero, List.setIfInBounds_toArray, List.set_cons_zero, List.set_cons_succ]
          refine wpAnyH_done (by kernel_rfl) ?_ _
          go_wp2_with fail
          go_meet
          exact ⟨C, la, lc, us, rfl, rfl, CF.out, OF.out, YL2.out, BF.out, CL.out⟩
      · skip
        obtain ⟨zvH1, h_⟩ : ∃ x, x = xvH1.alloc (.cells #[.int .i64 0, .slice none 0 0] 24) := ⟨_, rfl⟩
        obtain ⟨C, hC⟩ : ∃ x, x = xvH1.heap.size := ⟨_, rfl⟩
        have b_ : Below xvH1.heap.size xvH1 zvH1 := by rw [h_]; exact (Below.refl _ _).alloc (Nat.le_refl _) _
        have ZC : Hid (Blk zvH1 C #[.int .i64 0, .slice none 0 0] 24) := by show Blk _ _ _ _; rw [h_, hC]; exact Blk.new _ _ _
        have BzvH1 : Hid (Below u15.heap.size u15 zvH1) := BxvH1.out.trans (b_.mono BxvH1.out.size)
        have CL : Hid (u15.heap.size ≤ C) := by show _ ≤ _; rw [hC]; exact BxvH1.out.size
        have OR0 : Hid (OwnR zvH1 lo0 hi0 r0 R0) := OR0.out.keep b_
        go_simp
        rw [← h_, ← hC]
        refine hK.out _ _ (AF.out zvH1 BzvH1.out) (fun hHzvH1 => ?_)
        clear hK K h_ b_ hC
        refine wpAnyH_ready (rs := [5]) (by kernel_rfl) (by simp) ?_
        refine AllReadyH.cons rfl (fun K hK => ?_) AllReadyH.nil
        go_simp
        refine (toER n p q a1 a2 c1 c2 xs ys v k zvH1 (HE1.out.below BzvH1.out) (HE2.out.below BzvH1.out) (by omega) (by omega)).mono ?_
        rintro e xvH3 ⟨rg, rj, rfl, o_, b_⟩
        have BxvH3 : Hid (Below u15.heap.size u15 xvH3) := BzvH1.out.trans (b_.mono BzvH1.out.size)
        have OR0 : Hid (OwnR xvH3 lo0 hi0 r0 R0) := OR0.out.keep b_
        obtain ⟨lo1, hlo1⟩ : ∃ x, x = zvH1.heap.size := ⟨_, rfl⟩
        obtain ⟨hi1, hhi1⟩ : ∃ x, x = xvH3.heap.size := ⟨_, rfl⟩
        have ER0 : Hid (OwnEn xvH3 lo1 hi1 rg rj xs ys) := by rw [hlo1, hhi1]; exact o_
        clear o_ hlo1 hhi1
        have ZC : Hid (Blk xvH3 C #[.int .i64 0, .slice none 0 0] 24) := ZC.out.keep b_
        refine hK.out _ _ (AF.out xvH3 BxvH3.out) (fun hHxvH3 => ?_)
        clear hK K b_
        refine wpAnyH_ready (rs := [6]) (by kernel_rfl) (by simp) ?_
        refine AllReadyH.cons rfl (fun K hK => ?_) AllReadyH.nil
        go_simp
        refine ((CI.out) xvH3 _ _ _ R0 _ _ _ _ OR0.out VR0.out (by have := (bodies_eq YR0.out).1; omega) YR0.out ER0.out.sl.1 ER0.out.sl.2 (by omega) (by omega) (Nat.le_refl _) (Nat.le_refl _)).mono ?_
        rintro e xvH4 ⟨la, lc, us, rfl, o_, y_, b_⟩
        have LOW : Hid (u15.heap.size ≤ xvH3.heap.size) := BxvH3.out.size
        have HIGH : Hid (C < xvH3.heap.size) := ZC.out.lt
        have BxvH4 : Hid (Below u15.heap.size u15 xvH4) := BxvH3.out.trans (b_.mono BxvH3.out.size)
        have OR0 : Hid (OwnR xvH4 lo0 hi0 r0 R0) := OR0.out.keep b_
        have ER0 : Hid (OwnEn xvH4 lo1 hi1 rg rj xs ys) := ER0.out.keep b_
        have OL2 : Hid (OwnR xvH4 xvH3.heap.size xvH4.heap.size (.slice la us.length lc) us) := o_
        have YL2 : Hid (bodies us = BB) := y_
        clear o_ y_
        have ZC : Hid (Blk xvH4 C #[.int .i64 0, .slice none 0 0] 24) := ZC.out.keep b_
        refine hK.out _ _ (AF.out xvH4 BxvH4.out) (fun hHxvH4 => ?_)
        clear hK K b_
        refine wpAnyH_take (i := 7) (v := ?vvHcacc7) rfl (by kernel_rfl) (by kernel_rfl) (by kernel_rfl) (fun _ _ _ h => h) (Or.inl ⟨by rfl, ?yvHcacc7⟩) (by assumption) ?rvHcacc7
        case yvHcacc7 =>
          intro w' hSw
          try dsimp only at hSw
          go_simp
          try with_reducible rfl
        simp only [Act.put, List.getElem_toArray, List.getElem_cons_succ, List.getElem_cons_zero, List.setIfInBounds_toArray, List.set_cons_zero, List.set_cons_succ]
        refine wpAnyH_take (i := 8) (v := ?vvHcacc8) rfl (by kernel_rfl) (by kernel_rfl) (by kernel_rfl) (fun _ _ _ h => h) (Or.inl ⟨by rfl, ?yvHcacc8⟩) (by assumption) ?rvHcacc8
        case yvHcacc8 =>
          intro w' hSw
          try dsimp only at hSw
          go_simp
          try with_reducible rfl
        simp only [Act.put, List.getElem_toArray, List.getElem_cons_succ, List.getElem_cons_zero, List.setIfInBounds_toArray, List.set_cons_zero, List.set_cons_succ]
        refine wpAnyH_take (i := 9) (v := ?vvHcacc9) rfl (by kernel_rfl) (by kernel_rfl) (by kernel_rfl) (fun _ _ _ h => h) (Or.inl ⟨by rfl, ?yvHcacc9⟩) (by assumption) ?rvHcacc9
        case yvHcacc9 =>
          intro w' hSw
          try dsimp only at hSw
          go_simp
          try with_reducible rfl
        simp only [Act.put, List.getElem_toArray, List.getElem_cons_succ, List.getElem_cons_zero, List.setIfInBounds_toArray, List.set_cons_zero, List.set_cons_succ]
        obtain ⟨k0, k1⟩ := ZC.out.cells2
        have fz := ZC.out.frozen
        refine wpAnyH_ready (rs := [11]) (by kernel_rfl) (by simp) ?_
        refine AllReadyH.cons rfl (fun K hK => ?_) AllReadyH.nil
        go_simp
        obtain ⟨F, hF⟩ : ∃ x, x = (xvH4.setCell ⟨C, 0, none⟩ (.int .i64 M)).setCell ⟨C, 1, none⟩ (.slice la us.length lc) := ⟨_, rfl⟩
        rw [← hF]
        have on : Only C xvH4 F := by rw [hF]; exact ((Only.refl _ _).setCell _).setCell _
        have CF : Hid (Blk F C #[.int .i64 M, .slice la us.length lc] 24) := by show Blk _ _ _ _; rw [hF]; exact ((ZC.out.set 0 _).set 1 _).eq (by simp)
        have BF : Hid (Below u15.heap.size u15 F) := BxvH4.out.trans (on.below CL.out)
        have OF : Hid (OwnR F u15.heap.size F.heap.size (.slice la us.length lc) us) := ((OL2.out.keepIn (Nat.le_of_eq on.size.symm) fun b h1 h2 => on.block b (by have := HIGH.out; omega)).weaken LOW.out).raise (by rw [on.size]; omega) (Nat.le_refl _)
        clear hF on k0 k1 fz
        refine hK.out _ _ (AF.out F BF.out) (fun hHF => ?_)
        clear hK K
        refine wpAnyH_take (i := 12) (v := ?vvHcacc12) rfl (by kernel_rfl) (by kernel_rfl) (by kernel_rfl) (fun _ _ _ h => h) (Or.inl ⟨by rfl, ?yvHcacc12⟩) (by assumption) ?rvHcacc12
        case yvHcacc12 =>
          intro w' hSw
          try dsimp only at hSw
          go_simp
          try with_reducible rfl
        simp only [Act.put, List.getElem_toArray, List.getElem_cons_succ, List.getElem_cons_zero, List.setIfInBounds_toArray, List.set_cons_zero, List.set_cons_succ]
        refine wpAnyH_done (by kernel_rfl) ?_ _
        go_wp2_with fail
        go_meet
        exact ⟨C, la, lc, us, rfl, rfl, CF.out, OF.out, YL2.out, BF.out, CL.out⟩
    · skip
      obtain ⟨zvH0, h_⟩ : ∃ x, x = V.alloc (.cells #[.int .i64 0, .slice none 0 0] 24) := ⟨_, rfl⟩
      obtain ⟨C, hC⟩ : ∃ x, x = V.heap.size := ⟨_, rfl⟩
      have b_ : Below V.heap.size V zvH0 := by rw [h_]; exact (Below.refl _ _).alloc (Nat.le_refl _) _
      have ZC : Hid (Blk zvH0 C #[.int .i64 0, .slice none 0 0] 24) := by show Blk _ _ _ _; rw [h_, hC]; exact Blk.new _ _ _
      have BzvH0 : Hid (Below u15.heap.size u15 zvH0) := BV.out.trans (b_.mono BV.out.size)
      have CL : Hid (u15.heap.size ≤ C) := by show _ ≤ _; rw [hC]; exact BV.out.size
      go_simp
      rw [← h_, ← hC]
      refine hK.out _ _ (AF.out zvH0 BzvH0.out) (fun hHzvH0 => ?_)
      clear hK K h_ b_ hC
      refine wpAnyH_ready (rs := [1]) (by kernel_rfl) (by simp) ?_
      refine AllReadyH.cons rfl (fun K hK => ?_) AllReadyH.nil
      go_simp
      refine (toAR m a c vs zvH0 (HA.out.below BzvH0.out) (by omega) (SA.out.mono (by decide))).mono ?_
      rintro e xvH2 ⟨r0, R0, rfl, o_, y_, l_, b_⟩
      have BxvH2 : Hid (Below u15.heap.size u15 xvH2) := BzvH0.out.trans (b_.mono BzvH0.out.size)
      obtain ⟨lo0, hlo0⟩ : ∃ x, x = zvH0.heap.size := ⟨_, rfl⟩
      obtain ⟨hi0, hhi0⟩ : ∃ x, x = xvH2.heap.size := ⟨_, rfl⟩
      have OR0 : Hid (OwnR xvH2 lo0 hi0 r0 R0) := by rw [hlo0, hhi0]; exact o_
      have YR0 : Hid (bodies R0 = bodies vs) := y_
      have VR0 : Hid (VLs R0) := l_
      clear o_ y_ l_ hlo0 hhi0
      have ZC : Hid (Blk xvH2 C #[.int .i64 0, .slice none 0 0] 24) := ZC.out.keep b_
      refine hK.out _ _ (AF.out xvH2 BxvH2.out) (fun hHxvH2 => ?_)
      clear hK K b_
      refine wpAnyH_ready (rs := [5]) (by kernel_rfl) (by simp) ?_
      refine AllReadyH.cons rfl (fun K hK => ?_) AllReadyH.nil
      go_simp
      refine (toER n p q a1 a2 c1 c2 xs ys v k xvH2 (HE1.out.below BxvH2.out) (HE2.out.below BxvH2.out) (by omega) (by omega)).mono ?_
      rintro e xvH3 ⟨rg, rj, rfl, o_, b_⟩
      have BxvH3 : Hid (Below u15.heap.size u15 xvH3) := BxvH2.out.trans (b_.mono BxvH2.out.size)
      have OR0 : Hid (OwnR xvH3 lo0 hi0 r0 R0) := OR0.out.keep b_
      obtain ⟨lo1, hlo1⟩ : ∃ x, x = xvH2.heap.size := ⟨_, rfl⟩
      obtain ⟨hi1, hhi1⟩ : ∃ x, x = xvH3.heap.size := ⟨_, rfl⟩
      have ER0 : Hid (OwnEn xvH3 lo1 hi1 rg rj xs ys) := by rw [hlo1, hhi1]; exact o_
      clear o_ hlo1 hhi1
      have ZC : Hid (Blk xvH3 C #[.int .i64 0, .slice none 0 0] 24) := ZC.out.keep b_
      refine hK.out _ _ (AF.out xvH3 BxvH3.out) (fun hHxvH3 => ?_)
      clear hK K b_
      refine wpAnyH_ready (rs := [6]) (by kernel_rfl) (by simp) ?_
      refine AllReadyH.cons rfl (fun K hK => ?_) AllReadyH.nil
      go_simp
      refine ((CI.out) xvH3 _ _ _ R0 _ _ _ _ OR0.out VR0.out (by have := (bodies_eq YR0.out).1; omega) YR0.out ER0.out.sl.1 ER0.out.sl.2 (by omega) (by omega) (Nat.le_refl _) (Nat.le_refl _)).mono ?_
      rintro e xvH4 ⟨la, lc, us, rfl, o_, y_, b_⟩
      have LOW : Hid (u15.heap.size ≤ xvH3.heap.size) := BxvH3.out.size
      have HIGH : Hid (C < xvH3.heap.size) := ZC.out.lt
      have BxvH4 : Hid (Below u15.heap.size u15 xvH4) := BxvH3.out.trans (b_.mono BxvH3.out.size)
      have OR0 : Hid (OwnR xvH4 lo0 hi0 r0 R0) := OR0.out.keep b_
      have ER0 : Hid (OwnEn xvH4 lo1 hi1 rg rj xs ys) := ER0.out.keep b_
      have OL2 : Hid (OwnR xvH4 xvH3.heap.size xvH4.heap.size (.slice la us.length lc) us) := o_
      have YL2 : Hid (bodies us = BB) := y_
      clear o_ y_
      have ZC : Hid (Blk xvH4 C #[.int .i64 0, .slice none 0 0] 24) := ZC.out.keep b_
      refine hK.out _ _ (AF.out xvH4 BxvH4.out) (fun hHxvH4 => ?_)
      clear hK K b_
      refine wpAnyH_take (i := 7) (v := ?vvHaccc7) rfl (by kernel_rfl) (by kernel_rfl) (by kernel_rfl) (fun _ _ _ h => h) (Or.inl ⟨by rfl, ?yvHaccc7⟩) (by assumption) ?rvHaccc7
      case yvHaccc7 =>
        intro w' hSw
        try dsimp only at hSw
        go_simp
        try with_reducible rfl
      simp only [Act.put, List.getElem_toArray, List.getElem_cons_succ, List.getElem_cons_zero, List.setIfInBounds_toArray, List.set_cons_zero, List.set_cons_succ]
      refine wpAnyH_take (i := 8) (v := ?vvHaccc8) rfl (by kernel_rfl) (by kernel_rfl) (by kernel_rfl) (fun _ _ _ h => h) (Or.inl ⟨by rfl, ?yvHaccc8⟩) (by assumption) ?rvHaccc8
      case yvHaccc8 =>
        intro w' hSw
        try dsimp only at hSw
        go_simp
        try with_reducible rfl
      simp only [Act.put, List.getElem_toArray, List.getElem_cons_succ, List.getElem_cons_zero, List.setIfInBounds_toArray, List.set_cons_zero, List.set_cons_succ]
      refine wpAnyH_take (i := 9) (v := ?vvHaccc9) rfl (by kernel_rfl) (by kernel_rfl) (by kernel_rfl) (fun _ _ _ h => h) (Or.inl ⟨by rfl, ?yvHaccc9⟩) (by assumption) ?rvHaccc9
      case yvHaccc9 =>
        intro w' hSw
        try dsimp only at hSw
        go_simp
        try with_reducible rfl
      simp only [Act.put, List.getElem_toArray, List.getElem_cons_succ, List.getElem_cons_zero, List.setIfInBounds_toArray, List.set_cons_zero, List.set_cons_succ]
      obtain ⟨k0, k1⟩ := ZC.out.cells2
      have fz := ZC.out.frozen
      refine wpAnyH_ready (rs := [11]) (by kernel_rfl) (by simp) ?_
      refine AllReadyH.cons rfl (fun K hK => ?_) AllReadyH.nil
      go_simp
      obtain ⟨F, hF⟩ : ∃ x, x = (xvH4.setCell ⟨C, 0, none⟩ (.int .i64 M)).setCell ⟨C, 1, none⟩ (.slice la us.length lc) := ⟨_, rfl⟩
      rw [← hF]
      have on : Only C xvH4 F := by rw [hF]; exact ((Only.refl _ _).setCell _).setCell _
      have CF : Hid (Blk F C #[.int .i64 M, .slice la us.length lc] 24) := by show Blk _ _ _ _; rw [hF]; exact ((ZC.out.set 0 _).set 1 _).eq (by simp)
      have BF : Hid (Below u15.heap.size u15 F) := BxvH4.out.trans (on.below CL.out)
      have OF : Hid (OwnR F u15.heap.size F.heap.size (.slice la us.length lc) us) := ((OL2.out.keepIn (Nat.le_of_eq on.size.symm) fun b h1 h2 => on.block b (by have := HIGH.out; omega)).weaken LOW.out).raise (by rw [on.size]; omega) (Nat.le_refl _)
      clear hF on k0 k1 fz
      refine hK.out _ _ (AF.out F BF.out) (fun hHF => ?_)
      clear hK K
      refine wpAnyH_take (i := 12) (v := ?vvHaccc12) rfl (by kernel_rfl) (by kernel_rfl) (by kernel_rfl) (fun _ _ _ h => h) (Or.inl ⟨by rfl, ?yvHaccc12⟩) (by assumption) ?rvHaccc12
      case yvHaccc12 =>
        intro w' hSw
        try dsimp only at hSw
        go_simp
        try with_reducible rfl
      simp only [Act.put, List.getElem_toArray, List.getElem_cons_succ, List.getElem_cons_zero, List.setIfInBounds_toArray, List.set_cons_zero, List.set_cons_succ]
      refine wpAnyH_done (by kernel_rfl) ?_ _
      go_wp2_with fail
      go_meet
      exact ⟨C, la, lc, us, rfl, rfl, CF.out, OF.out, YL2.out, BF.out, CL.out⟩
  case rest =>
  obtain ⟨u16, h_⟩ : ∃ x, x = wc := ⟨_, rfl⟩
  subst h_
  obtain ⟨CvH, avH, cvH, LvH, rfl, rfl, z_, o_, y_, b_, l_⟩ := hcut
  have ZZ : Hid (w.heap.size + 2 ≤ u0.heap.size ∧ u0.heap.size ≤ u1.heap.size ∧ u1.heap.size ≤ u2.heap.size ∧ u2.heap.size + 1 ≤ u3.heap.size ∧ u3.heap.size ≤ u4.heap.size ∧ u4.heap.size + 1 ≤ u5.heap.size ∧ u5.heap.size ≤ u6.heap.size ∧ u6.heap.size + 1 ≤ u7.heap.size ∧ u7.heap.size ≤ u8.heap.size ∧ u8.heap.size ≤ u9.heap.size ∧ u9.heap.size ≤ u10.heap.size ∧ u10.heap.size ≤ u11.heap.size ∧ u11.heap.size ≤ u12.heap.size ∧ u12.heap.size ≤ u13.heap.size ∧ u13.heap.size ≤ u14.heap.size ∧ u14.heap.size ≤ u15.heap.size ∧ u15.heap.size ≤ u16.heap.size) := by show w.heap.size + 2 ≤ u0.heap.size ∧ u0.heap.size ≤ u1.heap.size ∧ u1.heap.size ≤ u2.heap.size ∧ u2.heap.size + 1 ≤ u3.heap.size ∧ u3.heap.size ≤ u4.heap.size ∧ u4.heap.size + 1 ≤ u5.heap.size ∧ u5.heap.size ≤ u6.heap.size ∧ u6.heap.size + 1 ≤ u7.heap.size ∧ u7.heap.size ≤ u8.heap.size ∧ u8.heap.size ≤ u9.heap.size ∧ u9.heap.size ≤ u10.heap.size ∧ u10.heap.size ≤ u11.heap.size ∧ u11.heap.size ≤ u12.heap.size ∧ u12.heap.size ≤ u13.heap.size ∧ u13.heap.size ≤ u14.heap.size ∧ u14.heap.size ≤ u15.heap.size ∧ u15.heap.size ≤ u16.heap.size; have := ZZ.out; have := b_.size; omega
  have HA : Hid (SlV u16 a vs) := HA.out.below b_
  have HE1 : Hid (Sl u16 a1 xs) := HE1.out.below b_
  have HE2 : Hid (Sl u16 a2 ys) := HE2.out.below b_
  have PA : Hid (Blk u16 w.heap.size #[.int .i64 m, .slice a vs.length c] 44) := PA.out.keep b_
  have PE : Hid (Blk u16 (w.heap.size + 1) #[.bool n, .int .i64 p, .int .i64 q, .slice a1 xs.length c1, .slice a2 ys.length c2, .int .i64 v, .int .i64 k] 60) := PE.out.keep b_
  have BS : Hid (Blk u16 CvS #[.int .i64 M, .slice avS LvS.length cvS] 24) := BS.out.keep b_
  have OvS : Hid (OwnR u16 u0.heap.size u1.heap.size (.slice avS LvS.length cvS) LvS) := OvS.out.keep b_
  have BX : Hid (Blk u16 u2.heap.size #[.int .i64 m, .slice ax0 Lx0.length cx0] 24) := BX.out.keep b_
  have BE : Hid (Blk u16 u4.heap.size #[.bool n, .int .i64 p, .int .i64 q, .slice (some ⟨gx3, 0, none⟩) xs.length xs.length, .slice (some ⟨jx3, 0, none⟩) ys.length ys.length, .int .i64 v, .int .i64 k] 34) := BE.out.keep b_
  have BG : Hid (Blk u16 u6.heap.size #[.int .i64 M, .slice avG LvG.length cvG] 24) := BG.out.keep b_
  have KvG : Hid (HeldR u16 u5.heap.size u6.heap.size (.slice avG LvG.length cvG) 1 LvG) := KvG.out.keep b_
  have BH : Hid (Blk u16 CvH #[.int .i64 M, .slice avH LvH.length cvH] 24) := z_
  have OvH : Hid (OwnR u16 u15.heap.size u16.heap.size (.slice avH LvH.length cvH) LvH) := o_
  have YvH : Hid (bodies LvH = BB) := y_
  have QvH : Hid (u15.heap.size ≤ CvH ∧ CvH < u16.heap.size) := ⟨l_, z_.lt⟩
  have BW : Hid (Below w.heap.size w u16) := BW.out.trans (b_.mono BW.out.size)
  clear b_ z_ o_ y_ l_
  obtain ⟨x_0, x_1⟩ := BH.out.cells2
  obtain ⟨y_0, y_1⟩ := BS.out.cells2
  go_wp2_with fail
  refine (eqAR M _ _ _ _ _ _ LvH LvS u16 OvH.out OvS.out (YvH.out.trans YvS.out.symm) (by have := (steps40 YvH.out BL.out SB.out).1; omega) (vl0_short YvH.out SB.out)).mono ?_
  rintro e u17 ⟨rfl, b_⟩
  have ZZ : Hid (w.heap.size + 2 ≤ u0.heap.size ∧ u0.heap.size ≤ u1.heap.size ∧ u1.heap.size ≤ u2.heap.size ∧ u2.heap.size + 1 ≤ u3.heap.size ∧ u3.heap.size ≤ u4.heap.size ∧ u4.heap.size + 1 ≤ u5.heap.size ∧ u5.heap.size ≤ u6.heap.size ∧ u6.heap.size + 1 ≤ u7.heap.size ∧ u7.heap.size ≤ u8.heap.size ∧ u8.heap.size ≤ u9.heap.size ∧ u9.heap.size ≤ u10.heap.size ∧ u10.heap.size ≤ u11.heap.size ∧ u11.heap.size ≤ u12.heap.size ∧ u12.heap.size ≤ u13.heap.size ∧ u13.heap.size ≤ u14.heap.size ∧ u14.heap.size ≤ u15.heap.size ∧ u15.heap.size ≤ u16.heap.size ∧ u16.heap.size ≤ u17.heap.size) := by show w.heap.size + 2 ≤ u0.heap.size ∧ u0.heap.size ≤ u1.heap.size ∧ u1.heap.size ≤ u2.heap.size ∧ u2.heap.size + 1 ≤ u3.heap.size ∧ u3.heap.size ≤ u4.heap.size ∧ u4.heap.size + 1 ≤ u5.heap.size ∧ u5.heap.size ≤ u6.heap.size ∧ u6.heap.size + 1 ≤ u7.heap.size ∧ u7.heap.size ≤ u8.heap.size ∧ u8.heap.size ≤ u9.heap.size ∧ u9.heap.size ≤ u10.heap.size ∧ u10.heap.size ≤ u11.heap.size ∧ u11.heap.size ≤ u12.heap.size ∧ u12.heap.size ≤ u13.heap.size ∧ u13.heap.size ≤ u14.heap.size ∧ u14.heap.size ≤ u15.heap.size ∧ u15.heap.size ≤ u16.heap.size ∧ u16.heap.size ≤ u17.heap.size; have := ZZ.out; have := b_.size; omega
  have HA : Hid (SlV u17 a vs) := HA.out.below b_
  have HE1 : Hid (Sl u17 a1 xs) := HE1.out.below b_
  have HE2 : Hid (Sl u17 a2 ys) := HE2.out.below b_
  have PA : Hid (Blk u17 w.heap.size #[.int .i64 m, .slice a vs.length c] 44) := PA.out.keep b_
  have PE : Hid (Blk u17 (w.heap.size + 1) #[.bool n, .int .i64 p, .int .i64 q, .slice a1 xs.length c1, .slice a2 ys.length c2, .int .i64 v, .int .i64 k] 60) := PE.out.keep b_
  have BS : Hid (Blk u17 CvS #[.int .i64 M, .slice avS LvS.length cvS] 24) := BS.out.keep b_
  have OvS : Hid (OwnR u17 u0.heap.size u1.heap.size (.slice avS LvS.length cvS) LvS) := OvS.out.keep b_
  have BX : Hid (Blk u17 u2.heap.size #[.int .i64 m, .slice ax0 Lx0.length cx0] 24) := BX.out.keep b_
  have BE : Hid (Blk u17 u4.heap.size #[.bool n, .int .i64 p, .int .i64 q, .slice (some ⟨gx3, 0, none⟩) xs.length xs.length, .slice (some ⟨jx3, 0, none⟩) ys.length ys.length, .int .i64 v, .int .i64 k] 34) := BE.out.keep b_
  have BG : Hid (Blk u17 u6.heap.size #[.int .i64 M, .slice avG LvG.length cvG] 24) := BG.out.keep b_
  have KvG : Hid (HeldR u17 u5.heap.size u6.heap.size (.slice avG LvG.length cvG) 1 LvG) := KvG.out.keep b_
  have BH : Hid (Blk u17 CvH #[.int .i64 M, .slice avH LvH.length cvH] 24) := BH.out.keep b_
  have OvH : Hid (OwnR u17 u15.heap.size u16.heap.size (.slice avH LvH.length cvH) LvH) := OvH.out.keep b_
  have BW : Hid (Below w.heap.size w u17) := BW.out.trans (b_.mono BW.out.size)
  clear b_ x_0 x_1 y_0 y_1
  obtain ⟨x_0, x_1⟩ := BG.out.cells2
  go_wp2_with fail
  refine (heldAR M _ _ _ LvG 1 u17 KvG.out MNvG.out (by decide) (by decide) MKvG.out).mono ?_
  rintro e u18 ⟨rfl, b_⟩
  rw [hq2]
  have ZZ : Hid (w.heap.size + 2 ≤ u0.heap.size ∧ u0.heap.size ≤ u1.heap.size ∧ u1.heap.size ≤ u2.heap.size ∧ u2.heap.size + 1 ≤ u3.heap.size ∧ u3.heap.size ≤ u4.heap.size ∧ u4.heap.size + 1 ≤ u5.heap.size ∧ u5.heap.size ≤ u6.heap.size ∧ u6.heap.size + 1 ≤ u7.heap.size ∧ u7.heap.size ≤ u8.heap.size ∧ u8.heap.size ≤ u9.heap.size ∧ u9.heap.size ≤ u10.heap.size ∧ u10.heap.size ≤ u11.heap.size ∧ u11.heap.size ≤ u12.heap.size ∧ u12.heap.size ≤ u13.heap.size ∧ u13.heap.size ≤ u14.heap.size ∧ u14.heap.size ≤ u15.heap.size ∧ u15.heap.size ≤ u16.heap.size ∧ u16.heap.size ≤ u17.heap.size ∧ u17.heap.size ≤ u18.heap.size) := by show w.heap.size + 2 ≤ u0.heap.size ∧ u0.heap.size ≤ u1.heap.size ∧ u1.heap.size ≤ u2.heap.size ∧ u2.heap.size + 1 ≤ u3.heap.size ∧ u3.heap.size ≤ u4.heap.size ∧ u4.heap.size + 1 ≤ u5.heap.size ∧ u5.heap.size ≤ u6.heap.size ∧ u6.heap.size + 1 ≤ u7.heap.size ∧ u7.heap.size ≤ u8.heap.size ∧ u8.heap.size ≤ u9.heap.size ∧ u9.heap.size ≤ u10.heap.size ∧ u10.heap.size ≤ u11.heap.size ∧ u11.heap.size ≤ u12.heap.size ∧ u12.heap.size ≤ u13.heap.size ∧ u13.heap.size ≤ u14.heap.size ∧ u14.heap.size ≤ u15.heap.size ∧ u15.heap.size ≤ u16.heap.size ∧ u16.heap.size ≤ u17.heap.size ∧ u17.heap.size ≤ u18.heap.size; have := ZZ.out; have := b_.size; omega
  have HA : Hid (SlV u18 a vs) := HA.out.below b_
  have HE1 : Hid (Sl u18 a1 xs) := HE1.out.below b_
  have HE2 : Hid (Sl u18 a2 ys) := HE2.out.below b_
  have PA : Hid (Blk u18 w.heap.size #[.int .i64 m, .slice a vs.length c] 44) := PA.out.keep b_
  have PE : Hid (Blk u18 (w.heap.size + 1) #[.bool n, .int .i64 p, .int .i64 q, .slice a1 xs.length c1, .slice a2 ys.length c2, .int .i64 v, .int .i64 k] 60) := PE.out.keep b_
  have BS : Hid (Blk u18 CvS #[.int .i64 M, .slice avS LvS.length cvS] 24) := BS.out.keep b_
  have OvS : Hid (OwnR u18 u0.heap.size u1.heap.size (.slice avS LvS.length cvS) LvS) := OvS.out.keep b_
  have BX : Hid (Blk u18 u2.heap.size #[.int .i64 m, .slice ax0 Lx0.length cx0] 24) := BX.out.keep b_
  have BE : Hid (Blk u18 u4.heap.size #[.bool n, .int .i64 p, .int .i64 q, .slice (some ⟨gx3, 0, none⟩) xs.length xs.length, .slice (some ⟨jx3, 0, none⟩) ys.length ys.length, .int .i64 v, .int .i64 k] 34) := BE.out.keep b_
  have BG : Hid (Blk u18 u6.heap.size #[.int .i64 M, .slice avG LvG.length cvG] 24) := BG.out.keep b_
  have KvG : Hid (HeldR u18 u5.heap.size u6.heap.size (.slice avG LvG.length cvG) 1 LvG) := KvG.out.keep b_
  have BH : Hid (Blk u18 CvH #[.int .i64 M, .slice avH LvH.length cvH] 24) := BH.out.keep b_
  have OvH : Hid (OwnR u18 u15.heap.size u16.heap.size (.slice avH LvH.length cvH) LvH) := OvH.out.keep b_
  have BW : Hid (Below w.heap.size w u18) := BW.out.trans (b_.mono BW.out.size)
  clear b_ x_0 x_1
  go_wp2_with fail
  go_ret
  exact ⟨rfl, BW.out⟩
theorem lawAccVoteF (m : Int) (a : Option Addr) (c : Nat) (vs : List VM) (bal slot : Int) (n : Bool) (p q : Int) (a1 a2 : Option Addr) (c1 c2 : Nat) (xs ys : List P2) (v k : Int) (w : World) (h1 : SlV w a vs) (n1 : vs.length ≤ maxLen) (m1 : ∀ i, i < vs.length → (vs.getD i v0).b.xs.length ≤ maxLen ∧ (vs.getD i v0).b.ys.length ≤ maxLen) (hb : (Lit.int IntKind.i64 bal).wf = true) (hs : (Lit.int IntKind.i64 slot).wf = true) (h2 : Sl w a1 xs) (h3 : Sl w a2 ys) (k1 : xs.length ≤ c1) (k2 : ys.length ≤ c2) (n2 : c1 ≤ maxLen) (n3 : c2 ≤ maxLen) :
    Calls Try.prog 6 #[.agg #[.int .i64 m, .slice a vs.length c], .int .i64 bal, .int .i64 slot, .agg #[.bool n, .int .i64 p, .int .i64 q, .slice a1 xs.length c1, .slice a2 ys.length c2, .int .i64 v, .int .i64 k]] w fun e w' => e = .returned (.bool true) ∧ Below w.heap.size w w' := lawAccVote m a c vs bal slot n p q a1 a2 c1 c2 xs ys v k w h1 n1 m1 h2 h3 (Nat.le_trans k1 n2) (Nat.le_trans k2 n3)
end Go.Proofs.Ytbbbfnfpmaogoaa.Own

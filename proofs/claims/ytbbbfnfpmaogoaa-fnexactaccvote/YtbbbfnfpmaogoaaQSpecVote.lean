/-
  Own text, by program (gen_specvote.py): what spec.AccVote does.
-/
import Derived.Test.YtbbbfnfpmaogoaaQSpecCast
import Derived.Test.YtbbbfnfpmaogoaaQVoteMath
namespace Go.Proofs.Ytbbbfnfpmaogoaa.Own
open Go.RowKit
set_option linter.unusedVariables false
set_option linter.unusedSimpArgs false

set_option maxRecDepth 100000 in
set_option maxHeartbeats 1500000 in
theorem specAccVote (m : Int) (a : Option Addr) (c : Nat) (vs : List VM) (bal slot : Int) (n : Bool) (p q : Int) (a1 a2 : Option Addr) (c1 c2 : Nat) (xs ys : List P2) (v k : Int) (w : World) (h1 : SlV w a vs) (l1 : VLs vs) (nn : vs.length ≤ 2 ^ 30) (s1 : Sl w a1 xs) (s2 : Sl w a2 ys) (n1 : xs.length ≤ 2 ^ 40) (n2 : ys.length ≤ 2 ^ 40) (hc1 : xs.length ≤ c1) (hc2 : ys.length ≤ c2) :
    Calls Try.prog 29 #[.agg #[.int .i64 m, .slice a vs.length c], .int .i64 bal, .int .i64 slot, .agg #[.bool n, .int .i64 p, .int .i64 q, .slice a1 xs.length c1, .slice a2 ys.length c2, .int .i64 v, .int .i64 k]] w fun e w' => ∃ lv us, e = .returned (.tuple #[.agg #[.int .i64 (voM m bal slot ⟨n, p, q, xs, ys, v, k⟩ (bodies vs)), lv], .bool (voO m bal slot ⟨n, p, q, xs, ys, v, k⟩ (bodies vs))]) ∧ OwnR w' w.heap.size w'.heap.size lv us ∧ bodies us = voB m bal slot ⟨n, p, q, xs, ys, v, k⟩ (bodies vs) ∧ Below w.heap.size w w' := by
  have H1 : Hid (SlV w a vs) := h1
  have L1 : Hid (VLs vs) := l1
  obtain ⟨W, hW⟩ : ∃ W, W = ((w.alloc (.cells #[.int .i64 m, .slice a vs.length c] 24)).alloc (.cells #[.bool n, .int .i64 p, .int .i64 q, .slice a1 xs.length c1, .slice a2 ys.length c2, .int .i64 v, .int .i64 k] 34)).alloc (.cells #[.int .i64 0, .slice none 0 0] 24) := ⟨_, rfl⟩
  have BW : Hid (Below w.heap.size w W) := by show Below _ _ _; rw [hW]; exact (((Below.refl _ _).alloc (Nat.le_refl _) _).alloc (by simp) _).alloc (by rw [size_new, size_new]; omega) _
  have PW : Hid (Blk W w.heap.size #[.int .i64 m, .slice a vs.length c] 24) := by show Blk _ _ _ _; rw [hW]; exact ((Blk.new _ _ _).alloc _).alloc _
  have EW : Hid (Blk W (w.heap.size + 1) #[.bool n, .int .i64 p, .int .i64 q, .slice a1 xs.length c1, .slice a2 ys.length c2, .int .i64 v, .int .i64 k] 34) := by show Blk _ _ _ _; rw [hW]; exact (Blk.new2 _ _ _ _).alloc _
  have ZW : Hid (Blk W (w.heap.size + 2) #[.int .i64 0, .slice none 0 0] 24) := by show Blk _ _ _ _; rw [hW]; exact Blk.new3 _ _ _ _ _
  have SW : Hid (W.heap.size = w.heap.size + 3) := by show _ = _; rw [hW]; simp
  have HW : Hid (W = _) := hW
  have SW1 : Hid (Sl W a1 xs ∧ Sl W a2 ys) := ⟨s1.below BW.out, s2.below BW.out⟩
  have CO : Hid _ := specAccOk m a c vs W (H1.out.below BW.out) (by omega) L1.out
  have E1 : Hid (voM m bal slot ⟨n, p, q, xs, ys, v, k⟩ (bodies vs) = if accOk m (bodies vs) then (if castOk m bal slot ⟨n, p, q, xs, ys, v, k⟩ then bal else m) else 0) := rfl
  have E2 : Hid (voB m bal slot ⟨n, p, q, xs, ys, v, k⟩ (bodies vs) = if accOk m (bodies vs) then (if castOk m bal slot ⟨n, p, q, xs, ys, v, k⟩ then castB (bodies vs) slot.toNat (bal, ⟨n, p, q, xs, ys, v, k⟩) else bodies vs) else []) := rfl
  have EO : Hid (voO m bal slot ⟨n, p, q, xs, ys, v, k⟩ (bodies vs) = (accOk m (bodies vs) && castOk m bal slot ⟨n, p, q, xs, ys, v, k⟩)) := rfl
  have L4 : Hid (accOk m (bodies vs) = true → vs.length ≤ 40) := fun h => by have := accOk_len h; rw [bodies_len] at this; exact this
  generalize voM m bal slot ⟨n, p, q, xs, ys, v, k⟩ (bodies vs) = M at E1 ⊢
  generalize voB m bal slot ⟨n, p, q, xs, ys, v, k⟩ (bodies vs) = BB at E2 ⊢
  generalize voO m bal slot ⟨n, p, q, xs, ys, v, k⟩ (bodies vs) = OO at EO ⊢
  generalize accOk m (bodies vs) = KK at CO E1 E2 EO L4
  obtain ⟨p0, p1⟩ := PW.out.cells2
  clear h1 l1 s1 s2 hW
  go_enter Try.func29, Try.ntmps29
  go_upto_region 1 with fail
  rw [← HW.out]
  go_wp2_with fail
  refine Calls.mono CO.out ?_
  rintro e w1 ⟨rfl, b1⟩
  have B1 : Hid (Below W.heap.size W w1) := b1
  have P1 : Hid (Blk w1 w.heap.size #[.int .i64 m, .slice a vs.length c] 24) := PW.out.keep b1
  have R1 : Hid (Blk w1 (w.heap.size + 1) #[.bool n, .int .i64 p, .int .i64 q, .slice a1 xs.length c1, .slice a2 ys.length c2, .int .i64 v, .int .i64 k] 34) := EW.out.keep b1
  have Z1 : Hid (Blk w1 (w.heap.size + 2) #[.int .i64 0, .slice none 0 0] 24) := ZW.out.keep b1
  have K1 : Hid (Below w.heap.size w w1) := BW.out.trans (b1.mono BW.out.size)
  have S1 : Hid (w.heap.size + 3 ≤ w1.heap.size) := by show _ ≤ _; have := SW.out; have := b1.size; omega
  have SE : Hid (Sl w1 a1 xs ∧ Sl w1 a2 ys) := ⟨SW1.out.1.below b1, SW1.out.2.below b1⟩
  clear b1 p0 p1 CO SW1
  cases KK with
  | false =>
    obtain ⟨z0, z1⟩ := Z1.out.cells2
    have fz := Z1.out.frozen
    go_wp2_with fail
    have zb := (((Z1.out.set 0 (.int .i64 0)).set 1 (.slice none 0 0)).eq (C' := #[.int .i64 0, .slice none 0 0]) (by simp)).cells2
    obtain ⟨y0, y1⟩ := zb
    refine bodyPost_ret (v := .tuple #[.agg #[.int .i64 0, .slice none 0 0], .bool false]) (by simp [results, Try.results29, go_sem, y0, y1]) rfl ?_
    exact ⟨_, [], by rw [E1.out, EO.out]; rfl, OwnR.nil _ _ _ _, E2.out.symm, (K1.out.setCell (by show w.heap.size ≤ w.heap.size + 2; omega) _).setCell (by show w.heap.size ≤ w.heap.size + 2; omega) _⟩
  | true =>
    have L40 : Hid (vs.length ≤ 40) := L4.out (by first | rfl | trivial)
    have CL : Hid (∀ V, Below w1.heap.size w1 V → Calls Try.prog 71 #[.agg #[.int .i64 m, .slice a vs.length c]] V fun e w' => ∃ lv us, e = .returned (.agg #[.int .i64 m, lv]) ∧ OwnL w' V.heap.size lv us ∧ bodies us = bodies vs ∧ Below V.heap.size V w') := fun V hV => l6Copy m a c vs V ((H1.out.below K1.out).below hV) L1.out nn
    have AF : Hid (∀ V, Below w1.heap.size w1 V → (V.cell? ⟨w.heap.size, 0, none⟩ = some (.int .i64 m) ∧ V.cell? ⟨w.heap.size, 1, none⟩ = some (.slice a vs.length c)) ∧ V.cell? ⟨w.heap.size + 1, 0, none⟩ = some (.bool n) ∧ V.cell? ⟨w.heap.size + 1, 1, none⟩ = some (.int .i64 p) ∧ V.cell? ⟨w.heap.size + 1, 2, none⟩ = some (.int .i64 q) ∧ V.cell? ⟨w.heap.size + 1, 3, none⟩ = some (.slice a1 xs.length c1) ∧ V.cell? ⟨w.heap.size + 1, 4, none⟩ = some (.slice a2 ys.length c2) ∧ V.cell? ⟨w.heap.size + 1, 5, none⟩ = some (.int .i64 v) ∧ V.cell? ⟨w.heap.size + 1, 6, none⟩ = some (.int .i64 k)) := fun V hV => ⟨(P1.out.keep hV).cells2, (R1.out.keep hV).cells7⟩
    obtain ⟨V, hV⟩ : ∃ V, V = w1.drew := ⟨_, rfl⟩
    have HV : Hid (V = w1.drew) := hV
    have BV : Hid (Below w1.heap.size w1 V) := by show Below _ _ _; rw [hV]; exact (Below.refl _ _).drew
    have FAR : Hid (∀ (w3 : World) (la : Option Addr) (nl lc : Nat) {us : List VM}, OwnL w3 V.heap.size (.slice la nl lc) us → ∀ (a' : Option Addr) (zs : List (Int × Int)), Sl w1 a' zs → ∀ x, a' = some x → zs ≠ [] → (Value.slice la nl lc).ownBlock ≠ some x.block) := fun w3 la nl lc us ho a' zs hs x ex hz e => by
      have h1 := ho.from x.block e
      rcases hs with h | ⟨b, off, hb, hat⟩
      · exact hz h
      · rw [hb] at ex
        injection ex with ex
        have h2 := hat.1
        have h3 := BV.out.size
        rw [← ex] at h1
        simp only at h1
        omega
    have pv := AF.out V BV.out
    have pu := AF.out w1 (Below.refl _ _)
    clear hV
    go_upto_region 3 with fail
    refine wp_region_held_drew (S := (fun w' : World => (w'.cell? ⟨w.heap.size, 0, none⟩ = some (.int .i64 m) ∧ w'.cell? ⟨w.heap.size, 1, none⟩ = some (.slice a vs.length c)) ∧ w'.cell? ⟨w.heap.size + 1, 0, none⟩ = some (.bool n) ∧ w'.cell? ⟨w.heap.size + 1, 1, none⟩ = some (.int .i64 p) ∧ w'.cell? ⟨w.heap.size + 1, 2, none⟩ = some (.int .i64 q) ∧ w'.cell? ⟨w.heap.size + 1, 3, none⟩ = some (.slice a1 xs.length c1) ∧ w'.cell? ⟨w.heap.size + 1, 4, none⟩ = some (.slice a2 ys.length c2) ∧ w'.cell? ⟨w.heap.size + 1, 5, none⟩ = some (.int .i64 v) ∧ w'.cell? ⟨w.heap.size + 1, 6, none⟩ = some (.int .i64 k))) (by kernel_rfl) pu (fun hHeld => ?_)
    rw [← HV.out]
    refine wpAnyH_take (i := 0) (v := ?vt0) rfl (by kernel_rfl) (by kernel_rfl) (by kernel_rfl) (fun _ _ _ h => h) (Or.inl ⟨by rfl, ?yt0⟩) (by assumption) ?rt0
    case yt0 =>
      intro w' hSw
      try dsimp only at hSw
      go_simp
      try with_reducible rfl
    simp only [Act.put, List.getElem_toArray, List.getElem_cons_succ, List.getElem_cons_zero, List.setIfInBounds_toArray, List.set_cons_zero, List.set_cons_succ]
    refine wpAnyH_take (i := 2) (v := ?vt2) rfl (by kernel_rfl) (by kernel_rfl) (by kernel_rfl) (fun _ _ _ h => h) (Or.inl ⟨by rfl, ?yt2⟩) (by assumption) ?rt2
    case yt2 =>
      intro w' hSw
      try dsimp only at hSw
      go_simp
      try with_reducible rfl
    simp only [Act.put, List.getElem_toArray, List.getElem_cons_succ, List.getElem_cons_zero, List.setIfInBounds_toArray, List.set_cons_zero, List.set_cons_succ]
    refine wpAnyH_take (i := 3) (v := ?vt3) rfl (by kernel_rfl) (by kernel_rfl) (by kernel_rfl) (fun _ _ _ h => h) (Or.inl ⟨by rfl, ?yt3⟩) (by assumption) ?rt3
    case yt3 =>
      intro w' hSw
      try dsimp only at hSw
      go_simp
      try with_reducible rfl
    simp only [Act.put, List.getElem_toArray, List.getElem_cons_succ, List.getElem_cons_zero, List.setIfInBounds_toArray, List.set_cons_zero, List.set_cons_succ]
    refine wpAnyH_take (i := 4) (v := ?vt4) rfl (by kernel_rfl) (by kernel_rfl) (by kernel_rfl) (fun _ _ _ h => h) (Or.inl ⟨by rfl, ?yt4⟩) (by assumption) ?rt4
    case yt4 =>
      intro w' hSw
      try dsimp only at hSw
      go_simp
      try with_reducible rfl
    simp only [Act.put, List.getElem_toArray, List.getElem_cons_succ, List.getElem_cons_zero, List.setIfInBounds_toArray, List.set_cons_zero, List.set_cons_succ]
    refine wpAnyH_ready (rs := [1]) (by kernel_rfl) (by simp) ?_
    refine AllReadyH.cons rfl (fun K hK => ?_) AllReadyH.nil
    go_simp
    refine Calls.mono (CL.out V BV.out) ?_
    rintro e w3 ⟨lv, us, rfl, o3, e3, b3⟩
    obtain ⟨la, lc, rfl⟩ := o3.form
    have O3 : Hid (OwnL w3 V.heap.size (.slice la us.length lc) us) := o3
    have E3 : Hid (bodies us = bodies vs) := e3
    have B3 : Hid (Below w1.heap.size w1 w3) := BV.out.trans (b3.mono BV.out.size)
    have S3 : Hid (V.heap.size ≤ w3.heap.size) := b3.size
    refine hK.out _ _ (AF.out w3 B3.out) (fun hH3 => ?_)
    clear hK K o3 e3 b3
    refine wpAnyH_ready (rs := [5]) (by kernel_rfl) (by simp) ?_
    refine AllReadyH.cons rfl (fun K hK => ?_) AllReadyH.nil
    have ul : us.length ≤ 2 ^ 29 := by have := congrArg List.length E3.out; rw [bodies_len, bodies_len] at this; have := L40.out; omega
    go_simp
    refine (l6Cast m la lc us bal slot n p q a1 a2 c1 c2 xs ys v k V.heap.size w3 O3.out S3.out ul (SE.out.1.below B3.out) (SE.out.2.below B3.out) n1 n2 hc1 hc2 (FAR.out w3 la us.length lc O3.out a1 xs SE.out.1) (FAR.out w3 la us.length lc O3.out a2 ys SE.out.2)).mono ?_
    rintro e w4 ⟨lv4, us4, rfl, o4, e4, b4⟩
    obtain ⟨la4, lc4, rfl⟩ := o4.form
    have O4 : Hid (OwnL w4 V.heap.size (.slice la4 us4.length lc4) us4) := o4
    have E4 : Hid (bodies us4 = if castOk m bal slot ⟨n, p, q, xs, ys, v, k⟩ then castB (bodies vs) slot.toNat (bal, ⟨n, p, q, xs, ys, v, k⟩) else bodies vs) := by show _ = _; rw [e4, E3.out]
    have B4 : Hid (Below w1.heap.size w1 w4) := B3.out.trans (b4.mono BV.out.size)
    refine hK.out _ _ (AF.out w4 B4.out) (fun hH4 => ?_)
    clear hK K o4 e4 b4
    have M4 : Hid (M = if castOk m bal slot ⟨n, p, q, xs, ys, v, k⟩ then bal else m) := E1.out
    have T4 : Hid (OO = castOk m bal slot ⟨n, p, q, xs, ys, v, k⟩) := EO.out
    have F4 : Hid (BB = if castOk m bal slot ⟨n, p, q, xs, ys, v, k⟩ then castB (bodies vs) slot.toNat (bal, ⟨n, p, q, xs, ys, v, k⟩) else bodies vs) := E2.out
    generalize (if castOk m bal slot ⟨n, p, q, xs, ys, v, k⟩ then castB (bodies vs) slot.toNat (bal, ⟨n, p, q, xs, ys, v, k⟩) else bodies vs) = BQ at E4 F4
    generalize (if castOk m bal slot ⟨n, p, q, xs, ys, v, k⟩ then bal else m) = PM at M4 ⊢
    generalize castOk m bal slot ⟨n, p, q, xs, ys, v, k⟩ = PO at T4 ⊢
    refine wpAnyH_take (i := 6) (v := ?vt6) rfl (by kernel_rfl) (by kernel_rfl) (by kernel_rfl) (fun _ _ _ h => h) (Or.inl ⟨by rfl, ?yt6⟩) (by assumption) ?rt6
    case yt6 =>
      intro w' hSw
      try dsimp only at hSw
      go_simp
      try with_reducible rfl
    simp only [Act.put, List.getElem_toArray, List.getElem_cons_succ, List.getElem_cons_zero, List.setIfInBounds_toArray, List.set_cons_zero, List.set_cons_succ]
    refine wpAnyH_take (i := 7) (v := ?vt7) rfl (by kernel_rfl) (by kernel_rfl) (by kernel_rfl) (fun _ _ _ h => h) (Or.inl ⟨by rfl, ?yt7⟩) (by assumption) ?rt7
    case yt7 =>
      intro w' hSw
      try dsimp only at hSw
      go_simp
      try with_reducible rfl
    simp only [Act.put, List.getElem_toArray, List.getElem_cons_succ, List.getElem_cons_zero, List.setIfInBounds_toArray, List.set_cons_zero, List.set_cons_succ]
    refine wpAnyH_ready (rs := [8]) (by kernel_rfl) (by simp) ?_
    refine AllReadyH.cons rfl (fun K hK => ?_) AllReadyH.nil
    have Z4 : Hid (Blk w4 (w.heap.size + 2) #[.int .i64 0, .slice none 0 0] 24) := Z1.out.keep B4.out
    obtain ⟨z0, z1⟩ := Z4.out.cells2
    have fz := Z4.out.frozen
    go_simp
    have on : Only (w.heap.size + 2) w4 ((w4.setCell ⟨w.heap.size + 2, 0, none⟩ (.int .i64 PM)).setCell ⟨w.heap.size + 2, 1, none⟩ (.slice la4 us4.length lc4)) := ((Only.refl _ _).setCell _).setCell _
    have ON : Hid (Only (w.heap.size + 2) w4 ((w4.setCell ⟨w.heap.size + 2, 0, none⟩ (.int .i64 PM)).setCell ⟨w.heap.size + 2, 1, none⟩ (.slice la4 us4.length lc4))) := on
    have C5 : Hid ((((w4.setCell ⟨w.heap.size + 2, 0, none⟩ (.int .i64 PM)).setCell ⟨w.heap.size + 2, 1, none⟩ (.slice la4 us4.length lc4)).cell? ⟨w.heap.size, 0, none⟩ = some (.int .i64 m) ∧ ((w4.setCell ⟨w.heap.size + 2, 0, none⟩ (.int .i64 PM)).setCell ⟨w.heap.size + 2, 1, none⟩ (.slice la4 us4.length lc4)).cell? ⟨w.heap.size, 1, none⟩ = some (.slice a vs.length c)) ∧ ((w4.setCell ⟨w.heap.size + 2, 0, none⟩ (.int .i64 PM)).setCell ⟨w.heap.size + 2, 1, none⟩ (.slice la4 us4.length lc4)).cell? ⟨w.heap.size + 1, 0, none⟩ = some (.bool n) ∧ ((w4.setCell ⟨w.heap.size + 2, 0, none⟩ (.int .i64 PM)).setCell ⟨w.heap.size + 2, 1, none⟩ (.slice la4 us4.length lc4)).cell? ⟨w.heap.size + 1, 1, none⟩ = some (.int .i64 p) ∧ ((w4.setCell ⟨w.heap.size + 2, 0, none⟩ (.int .i64 PM)).setCell ⟨w.heap.size + 2, 1, none⟩ (.slice la4 us4.length lc4)).cell? ⟨w.heap.size + 1, 2, none⟩ = some (.int .i64 q) ∧ ((w4.setCell ⟨w.heap.size + 2, 0, none⟩ (.int .i64 PM)).setCell ⟨w.heap.size + 2, 1, none⟩ (.slice la4 us4.length lc4)).cell? ⟨w.heap.size + 1, 3, none⟩ = some (.slice a1 xs.length c1) ∧ ((w4.setCell ⟨w.heap.size + 2, 0, none⟩ (.int .i64 PM)).setCell ⟨w.heap.size + 2, 1, none⟩ (.slice la4 us4.length lc4)).cell? ⟨w.heap.size + 1, 4, none⟩ = some (.slice a2 ys.length c2) ∧ ((w4.setCell ⟨w.heap.size + 2, 0, none⟩ (.int .i64 PM)).setCell ⟨w.heap.size + 2, 1, none⟩ (.slice la4 us4.length lc4)).cell? ⟨w.heap.size + 1, 5, none⟩ = some (.int .i64 v) ∧ ((w4.setCell ⟨w.heap.size + 2, 0, none⟩ (.int .i64 PM)).setCell ⟨w.heap.size + 2, 1, none⟩ (.slice la4 us4.length lc4)).cell? ⟨w.heap.size + 1, 6, none⟩ = some (.int .i64 k)) := by
      have h4 := AF.out w4 B4.out
      show (_ ∧ _) ∧ _
      rw [on.cell (by simp), on.cell (by simp), on.cell (by simp), on.cell (by simp), on.cell (by simp), on.cell (by simp), on.cell (by simp), on.cell (by simp), on.cell (by simp)]
      exact h4
    have zb : Hid (Blk ((w4.setCell ⟨w.heap.size + 2, 0, none⟩ (.int .i64 PM)).setCell ⟨w.heap.size + 2, 1, none⟩ (.slice la4 us4.length lc4)) (w.heap.size + 2) #[.int .i64 PM, .slice la4 us4.length lc4] 24) := ((Z4.out.set 0 (.int .i64 PM)).set 1 (.slice la4 us4.length lc4)).eq (by simp)
    refine hK.out _ _ C5.out (fun hH5 => ?_)
    clear hK K on
    obtain ⟨W5, hW5⟩ : ∃ W5, W5 = ((w4.setCell ⟨w.heap.size + 2, 0, none⟩ (.int .i64 PM)).setCell ⟨w.heap.size + 2, 1, none⟩ (.slice la4 us4.length lc4)) := ⟨_, rfl⟩
    rw [← hW5] at ON C5 zb hH5 ⊢
    clear hW5
    refine wpAnyH_ready (rs := [9]) (by kernel_rfl) (by simp) ?_
    refine AllReadyH.cons rfl (fun K hK => ?_) AllReadyH.nil
    go_simp
    refine hK.out _ _ C5.out (fun hHx => ?_)
    refine wpAnyH_done (by kernel_rfl) ?_ _
    have y01 := zb.out.cells2
    obtain ⟨y0, y1⟩ := y01
    clear hK K hHx hH5 hHeld hH3 hH4 z0 z1 fz
    go_wp2_with fail
    refine bodyPost_ret (v := .tuple #[.agg #[.int .i64 PM, .slice la4 us4.length lc4], .bool PO]) (by simp [results, Try.results29, go_sem, y0, y1]) rfl ?_
    have s1 := S1.out
    have sv := BV.out.size
    exact ⟨_, us4, by rw [M4.out, T4.out], OwnR.ofL ((O4.out.high (Nat.le_of_eq ON.out.size.symm) fun b hb => ON.out.block b (by omega)).low (by omega)), E4.out.trans F4.out.symm, K1.out.trans ((B4.out.mono (by omega)).trans (ON.out.below (by omega)))⟩
end Go.Proofs.Ytbbbfnfpmaogoaa.Own

/-
  Own text: what spec.SerialAll does.
-/
import Derived.Test.YtgcencilgpilaaaQSerAllI
import Derived.Test.YtgcencilgpilaaaPk8
namespace Go.Proofs.Ytgcencilgpilaaa.Own
open Go.RowKit
set_option linter.unusedVariables false
set_option linter.unusedSimpArgs false

theorem own_emptyI (w w' : World) (B : Nat) {o : Obj} (ho : o = .cells #[] 3) (hB : B ≤ w.heap.size) (hh : w'.heap[w.heap.size]? = some o) : OwnI w' B (.slice (some ⟨w.heap.size, 0, none⟩) 0 0) [] := by
  subst ho
  exact ⟨rfl, .inr ⟨w.heap.size, 0, #[], rfl, hB, hh, Nat.le_refl _, by unfold maxLen; omega, rfl, rfl⟩⟩
theorem SAPost.two (w : World) (B : Nat) (hB : B ≤ w.heap.size) : SAPost ([], []) B (.returned (.tuple #[.slice (some ⟨w.heap.size, 0, none⟩) 0 0, .slice (some ⟨w.heap.size + 1, 0, none⟩) 0 0])) ((w.alloc (.cells #[] 38)).alloc (.cells #[] 3)) := by
  refine ⟨some ⟨w.heap.size, 0, none⟩, 0, .slice (some ⟨w.heap.size + 1, 0, none⟩) 0 0, rfl, Nat.le_refl _, .inl rfl, ?_, .inl rfl⟩
  have h := own_emptyI (w.alloc (.cells #[] 38)) ((w.alloc (.cells #[] 38)).alloc (.cells #[] 3)) B rfl (by rw [size_new]; omega) (heap_new _ _)
  rwa [size_new] at h
theorem range_all {ps : List PS} {k : Nat} (hk : k ≤ ps.length) (h : ps.length ≤ k) (ha : ∀ i, i < k → progOk (ps.getD i p0).2.2 = true) (h100 : ps.length ≤ 100) : allProgs ps = true := allProgs_yes h100 (fun i hi => ha i (by simp at hi; omega))

set_option maxRecDepth 100000 in
set_option maxHeartbeats 4000000 in
theorem specSerialAll (la pa : Option Addr) (lc pc : Nat) (bs : List P2) (ps : List PS) (w : World) (hb : Sl w la bs) (hp : SlP w pa ps) (l1 : bs.length ≤ 2 ^ 40) (hlen : ps.length ≤ 2 ^ 40) :
    Calls Try.prog 28 #[.slice la bs.length lc, .slice pa ps.length pc] w fun e w' => SAPost (serialAll bs (progsOf ps)) w.heap.size e w' ∧ Below w.heap.size w w' := by
  have HB : Hid (Sl w la bs) := hb
  have HP : Hid (SlP w pa ps) := hp
  clear hb hp
  have CB := specOk la lc bs w HB.out l1
  cases hbo : boxOk bs with
  | false =>
    rw [hbo] at CB
    have HCB : Hid _ := CB
    have E : Hid (serialAll bs (progsOf ps) = ([], [])) := serialAll_no (by rw [hbo]; rfl)
    clear CB
    go_enter Try.func28, Try.ntmps28
    go_wp2_with fail
    refine Calls.mono HCB.out ?_
    rintro e w1 ⟨rfl, hw⟩
    subst hw
    go_wp2_with fail
    refine bodyPost_ret (v := .tuple #[.slice (some ⟨w1.heap.size, 0, none⟩) 0 0, .slice (some ⟨w1.heap.size + 1, 0, none⟩) 0 0]) (by simp [results, Try.results28, go_sem]) rfl ?_
    rw [E.out]
    exact ⟨SAPost.two _ _ (Nat.le_refl _), ((Below.refl _ _).alloc (Nat.le_refl _) _).alloc (by simp) _⟩
  | true =>
    rw [hbo] at CB
    have HCB : Hid _ := CB
    have HBO : Hid (boxOk bs = true) := hbo
    have L4 : Hid (bs.length = 4) := boxOk_len hbo
    clear CB
    by_cases h100 : ps.length ≤ 100
    · have d100 : decide ((100 : Int) < (ps.length : Int)) = false := by simp; omega
      have E : Hid (allProgs ps = true → serialAll bs (progsOf ps) = runTo bs ps (List.range ps.length)) := fun h => by rw [serialAll_yes hbo h, progsOf_range]; rfl
      have EN : Hid (∀ i, i < ps.length → progOk (ps.getD i p0).2.2 = false → serialAll bs (progsOf ps) = ([], [])) := fun i hi h => serialAll_no (by rw [allProgs_no hi h, Bool.and_false])
      clear hbo
      obtain ⟨i0, hi, hz0, hz1, hz2⟩ := info_parts infoIntZ
      have HI : Hid (Try.prog.info? 3 = some i0 ∧ i0.zero = some (.int .i64 0) ∧ i0.size = 1 ∧ i0.bytes = 8) := ⟨hi, hz0, hz1, hz2⟩
      clear hi hz0 hz1 hz2
      have CPY : Hid (∀ W, Below w.heap.size w W → Calls Try.prog 67 #[.slice la bs.length lc] W fun e w' => ∃ g cap, e = .returned (.slice (some ⟨g, 0, none⟩) 4 cap) ∧ 4 ≤ cap ∧ W.heap.size ≤ g ∧ BoxAt w' g 0 bs ∧ (∀ o, w'.frozen? ⟨g, o, none⟩ = false) ∧ Below W.heap.size W w') := fun W h => by
        have := l1CopyCap la lc bs W (HB.out.below h) L4.out
        rw [L4.out] at this ⊢; exact this
      go_enter Try.func28, Try.ntmps28
      go_wp2_with fail
      refine Calls.mono HCB.out ?_
      rintro e w1 ⟨rfl, hw⟩
      subst hw
      obtain ⟨W2, hW2⟩ : ∃ W, W = w1.alloc (.cells #[] 3) := ⟨_, rfl⟩
      have B2 : Hid (Below w1.heap.size w1 W2) := by show Below _ _ _; rw [hW2]; exact below_new _ _
      have O2 : Hid (OwnI W2 w1.heap.size (.slice (some ⟨w1.heap.size, 0, none⟩) 0 0) []) := by show OwnI _ _ _ _; rw [hW2]; exact own_emptyI w1 _ _ rfl (Nat.le_refl _) (heap_new _ _)
      have HW2 : Hid (W2 = _) := hW2
      have S2 : Hid (W2.heap.size = w1.heap.size + 1) := by show _ = _; rw [hW2]; simp
      clear hW2
      go_wp2_with fail
      rw [← HW2.out]
      refine Calls.mono (CPY.out _ B2.out) ?_
      rintro e w3 ⟨g0, cap0, rfl, hc0, hg0, hat0, hfr0, hb0⟩
      have P3 : Hid (4 ≤ cap0 ∧ W2.heap.size ≤ g0 ∧ BoxAt w3 g0 0 bs ∧ (∀ o, w3.frozen? ⟨g0, o, none⟩ = false) ∧ Below W2.heap.size W2 w3) := ⟨hc0, hg0, hat0, hfr0, hb0⟩
      clear hc0 hg0 hat0 hfr0 hb0
      go_wp2_with fail
      go_loopw [6, 7, 8] (fun v6 v7 i wr => ∃ (k g cap : Nat) (vv : Value), k ≤ ps.length ∧ i = .int .i64 k ∧ v7 = .slice (some ⟨g, 0, none⟩) 4 cap ∧ vv = v6 ∧ Hid (4 ≤ cap ∧ w1.heap.size ≤ g ∧ BoxAt wr g 0 (runTo bs ps (List.range k)).1 ∧ (∀ o, wr.frozen? ⟨g, o, none⟩ = false) ∧ OwnI wr w1.heap.size vv (runTo bs ps (List.range k)).2 ∧ vv.ownBlock ≠ some g ∧ Below w1.heap.size w1 wr ∧ ∀ i, i < k → progOk (ps.getD i p0).2.2 = true)) (fun _ _ i _ => ps.length - (intOf i).toNat)
      case atStart =>
        have p3 := P3.out
        have s2 := S2.out
        refine ⟨0, g0, cap0, _, Nat.zero_le _, rfl, rfl, rfl, p3.1, by omega, p3.2.2.1, p3.2.2.2.1, O2.out.keep p3.2.2.2.2, ?_, B2.out.trans (p3.2.2.2.2.mono B2.out.size), fun i hi => by omega⟩
        intro e
        simp only [Value.ownBlock] at e
        injection e with e
        omega
      case round =>
        clear P3 O2 HW2
        obtain ⟨k, g, cap, vv, hk, rfl, rfl, rfl, IV⟩ := hrel
        by_cases hlt : k < ps.length
        · have hki : (k : Int) < (ps.length : Int) := by omega
          obtain ⟨hcap, hg, hat, hfr, hown, hne, hbl, hall⟩ := IV.out
          have R4 := runTo_four ps (List.range k) HBO.out
          rcases HP.out.below hbl with hh | ⟨b, off, rfl, hh⟩
          · rw [hh] at hlt; simp at hlt
          obtain ⟨cx, sx, lx⟩ := hh.2 k hlt
          have SO := specSerialOne (some ⟨g, 0, none⟩) (ps.getD k p0).1 cap (ps.getD k p0).2.1 (runTo bs ps (List.range k)).1 (ps.getD k p0).2.2 wr (.inr ⟨g, 0, rfl, hat⟩) sx (by rw [R4.2.1]; omega) lx
          rw [R4.2.1] at SO
          have K1 : Hid (Below w1.heap.size w1 wr) := hbl
          have OV : Hid (OwnI wr w1.heap.size vv (runTo bs ps (List.range k)).2) := hown
          have HAL : Hid (∀ i, i < k → progOk (ps.getD i p0).2.2 = true) := hall
          have LR : Hid ((runTo bs ps (List.range k)).2.length = k) := by have := R4.2.2; show _ = _; rw [this]; simp
          have hxc : execRun (runTo bs ps (List.range k)).1 (ps.getD k p0).2.2 = execRun (runTo bs ps (List.range k)).1 (ps.getD k p0).2.2 := rfl
          cases hpo : progOk (ps.getD k p0).2.2 with
          | false =>
            have hcd : (execRun (runTo bs ps (List.range k)).1 (ps.getD k p0).2.2).code = 3 := by rw [execRun_code, hpo]; simp
            have E0 : Hid (serialAll bs (progsOf ps) = ([], [])) := EN.out k hlt hpo
            rw [hcd] at SO
            have HSO : Hid (Calls Try.prog 85 #[.slice (some ⟨g, 0, none⟩) 4 cap, psV (ps.getD k p0)] wr fun e w' => ∃ ad n1 cap1 vl, e = .returned (.tuple #[.slice ad n1 cap1, .int .i64 vl, .int .i64 3]) ∧ Below wr.heap.size wr w') := SO.mono (fun e w' ⟨⟨ad, cap1, h1, _, _⟩, h4⟩ => ⟨ad, _, cap1, _, h1, h4⟩)
            clear SO hat hfr hown hne hbl hall hh sx hxc IV
            unfold psV at HSO cx
            generalize ps.getD k p0 = q at HSO cx lx
            obtain ⟨pxa, pxc, px⟩ := q
            simp only at HSO cx lx
            go_wp2_with fail
            refine Calls.mono HSO.out ?_
            rintro e w2 ⟨ad, n1, cap1, vl, rfl, hb2⟩
            have K2 : Hid (Below w1.heap.size w1 w2) := K1.out.trans (hb2.mono K1.out.size)
            clear hb2
            go_wp2_with fail
            refine bodyPost_ret (v := .tuple #[.slice (some ⟨w2.heap.size, 0, none⟩) 0 0, .slice (some ⟨w2.heap.size + 1, 0, none⟩) 0 0]) (by simp [results, Try.results28, go_sem]) rfl ?_
            rw [E0.out]
            exact ⟨SAPost.two _ _ K2.out.size, (K2.out.alloc K2.out.size _).alloc (by have := K2.out.size; simp; omega) _⟩
          | true =>
            have hcd : ¬ (execRun (runTo bs ps (List.range k)).1 (ps.getD k p0).2.2).code = 3 := by rw [execRun_code, R4.1, hpo]; simp
            have hdo := (serialOne_do hcd).2.2.1
            have NXT := runTo_snoc bs ps (List.range k) k
            rw [← List.range_succ] at NXT
            have N4 := runTo_four ps (List.range (k + 1)) HBO.out
            have e1 : (runTo bs ps (List.range (k + 1))).1 = serialOne (runTo bs ps (List.range k)).1 (ps.getD k p0).2.2 := by rw [NXT, hdo]; rfl
            have e2 : (runTo bs ps (List.range (k + 1))).2 = (runTo bs ps (List.range k)).2 ++ [(execRun (runTo bs ps (List.range k)).1 (ps.getD k p0).2.2).val] := by rw [NXT]; rfl
            have HSO : Hid (Calls Try.prog 85 #[.slice (some ⟨g, 0, none⟩) 4 cap, psV (ps.getD k p0)] wr fun e w' => ∃ g1 cap1 vl cd, e = .returned (.tuple #[.slice (some ⟨g1, 0, none⟩) 4 cap1, .int .i64 vl, .int .i64 cd]) ∧ (cd == 3) = false ∧ Hid (4 ≤ cap1 ∧ wr.heap.size ≤ g1 ∧ BoxAt w' g1 0 (runTo bs ps (List.range (k + 1))).1 ∧ (∀ o, w'.frozen? ⟨g1, o, none⟩ = false) ∧ (runTo bs ps (List.range (k + 1))).2 = (runTo bs ps (List.range k)).2 ++ [vl] ∧ Below wr.heap.size wr w')) := by
              refine SO.mono ?_
              rintro e w' ⟨⟨ad, cap1, rfl, hc1, ho⟩, hb⟩
              rw [← e1] at hc1 ho ⊢
              rcases ho with h | ⟨g1, rfl, hg, ha, hf⟩
              · have := N4.2.1; rw [h] at this; simp at this
              · rw [N4.2.1] at hc1 ⊢
                exact ⟨g1, cap1, _, _, rfl, by simpa using hcd, hc1, hg, ha, hf, e2, hb⟩
            have HA2 : Hid (∀ i, i < k + 1 → progOk (ps.getD i p0).2.2 = true) := fun i hi => by
              by_cases e : i = k
              · subst e; exact hpo
              · exact hall i (by omega)
            clear SO hat hfr hown hne hbl hall hh sx hxc IV hpo hcd hdo NXT N4 e1 e2 HAL
            unfold psV at HSO cx
            generalize ps.getD k p0 = q at HSO cx lx
            obtain ⟨pxa, pxc, px⟩ := q
            simp only at HSO cx lx
            go_wp2_with fail
            refine Calls.mono HSO.out ?_
            rintro e w2 ⟨g1, cap1, vl, cd, rfl, hcd, P2'⟩
            have hb2 := P2'.out.2.2.2.2.2
            have O2 : Hid (OwnI w2 w1.heap.size vv (runTo bs ps (List.range k)).2) := OV.out.keep hb2
            have K2 : Hid (Below w1.heap.size w1 w2) := K1.out.trans (hb2.mono K1.out.size)
            have HL : Hid (k ≤ 100) := by show _ ≤ _; omega
            clear hb2
            go_wp2_with (at_builtin; refine wpList_append_own_at _ rfl (.tmp 46) (.tmp 48) 48 rfl w1.heap.size 3 i0 (.int .i64 0) 1 8 Try.underlying48 HI.out.1 HI.out.2.1 HI.out.2.2.1 HI.out.2.2.2 rfl (by decide) vv (runTo bs ps (List.range k)).2.length ((runTo bs ps (List.range k)).2.map (Value.int .i64)) rfl (World.ownsRow.alloc O2.out _) ⟨w2.heap.size, 0, none⟩ 1 1 [.int .i64 vl] rfl rfl (cell_one_new _ _ _) (by simp [Value.oneCell']) (by have := HL.out; have := LR.out; unfold maxLen; omega) (by have := HL.out; have := LR.out; omega) (by have := K2.out.size; simp; omega) ?_; intro v' w9 hown' hgrow _ hat9; obtain ⟨g', cap', rfl⟩ := ownsRow_succ hown'; have HGR : Hid _ := hgrow; have HOW : Hid _ := hown'; have HAT : Hid _ := hat9; clear hgrow hown' hat9)
            go_roundw
            case rel =>
              have p2 := P2'.out
              have hgrow := HGR.out
              have hown' := HOW.out
              have hat9 := HAT.out
              rw [LR.out] at hown' hat9
              have vlt : ∀ b, vv.ownBlock = some b → w1.heap.size ≤ b ∧ b < wr.heap.size := fun b h => World.ownsRow.lt OV.out b h
              have ga := World.grownBy_alloc w2 (.cells #[.int .i64 vl] 3) none
              have ne2 : some g1 ≠ vv.ownBlock := fun e => by have := vlt _ e.symm; omega
              have hba := Nat.lt_of_lt_of_le p2.2.2.1.1 ga.size
              have szk := K1.out.size
              refine ⟨k + 1, g1, cap1, _, by omega, by go_num, rfl, rfl, p2.1, by omega, (p2.2.2.1.grown ga (by simp)).grown hgrow ne2, fun o => ?_, ?_, ?_, ?_, HA2.out⟩
              · rw [frozen_grown hba hgrow ne2, frozen_grown p2.2.2.1.1 ga (by simp)]
                exact p2.2.2.2.1 o
              · show World.ownsRow _ _ _ _ _ _ _
                rw [p2.2.2.2.2.1, List.map_append, List.length_append, LR.out]
                exact hown'
              · intro e
                rcases hat9 with h | h
                · rw [h] at e; have := vlt _ e; omega
                · rw [h] at e; injection e with e; rw [size_new] at e; have := p2.2.2.1.1; omega
              · exact (K2.out.alloc K2.out.size _).grown hgrow (by have := K2.out.size; simp; omega) (fun b e => (vlt b e).1)
            case measure => simp [intOf]; omega
        · have hki : ¬ (k : Int) < (ps.length : Int) := by omega
          obtain rfl : k = ps.length := by omega
          have R4 := runTo_four ps (List.range ps.length) HBO.out
          have FIN : Hid (SAPost (serialAll bs (progsOf ps)) w1.heap.size (.returned (.tuple #[.slice (some ⟨g, 0, none⟩) 4 cap, vv])) wr ∧ Below w1.heap.size w1 wr) := by
            obtain ⟨hcap, hg, hat, hfr, hown, hne, hbl, hall⟩ := IV.out
            rw [E.out (allProgs_yes h100 (fun i hi => hall i (by simpa using hi)))]
            exact ⟨⟨some ⟨g, 0, none⟩, cap, vv, by rw [R4.2.1], by rw [R4.2.1]; exact hcap, .inr ⟨g, rfl, hg, hat, hfr⟩, hown, .inr fun g' e => by injection e with e; injection e with e; subst e; exact hne⟩, hbl⟩
          clear IV R4
          go_wp2_with fail
          refine bodyPost_ret (v := .tuple #[.slice (some ⟨g, 0, none⟩) 4 cap, vv]) (by simp [results, Try.results28, go_sem]) rfl FIN.out
    · have d100 : decide ((100 : Int) < (ps.length : Int)) = true := by simp; omega
      have E : Hid (serialAll bs (progsOf ps) = ([], [])) := serialAll_no (by unfold allProgs; simp; omega)
      clear hbo
      go_enter Try.func28, Try.ntmps28
      go_wp2_with fail
      refine Calls.mono HCB.out ?_
      rintro e w1 ⟨rfl, hw⟩
      subst hw
      go_wp2_with fail
      refine bodyPost_ret (v := .tuple #[.slice (some ⟨w1.heap.size, 0, none⟩) 0 0, .slice (some ⟨w1.heap.size + 1, 0, none⟩) 0 0]) (by simp [results, Try.results28, go_sem]) rfl ?_
      rw [E.out]
      exact ⟨SAPost.two _ _ (Nat.le_refl _), ((Below.refl _ _).alloc (Nat.le_refl _) _).alloc (by simp) _⟩
end Go.Proofs.Ytgcencilgpilaaa.Own

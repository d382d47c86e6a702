/-
  Own text: what spec.SerialOne does.
-/
import Derived.Test.YtiibonnchmphcaaQSerOne
import Derived.Deep.RegionHeld
namespace Go.Proofs.Ytiibonnchmphcaa.Own
open Go.RowKit
set_option linter.unusedVariables false
set_option linter.unusedSimpArgs false

set_option maxHeartbeats 1000000 in
theorem l1CopyCap (a : Option Addr) (c : Nat) (bs : List P2) (w : World) (h : Sl w a bs) (h4 : bs.length = 4) :
    Calls Try.prog 87 #[.slice a bs.length c] w fun e w' => ∃ g cap, e = .returned (.slice (some ⟨g, 0, none⟩) bs.length cap) ∧ bs.length ≤ cap ∧ w.heap.size ≤ g ∧ BoxAt w' g 0 bs ∧ (∀ o, w'.frozen? ⟨g, o, none⟩ = false) ∧ Below w.heap.size w w' := by
  rcases h with h | ⟨b, off, rfl, h⟩
  · subst h; simp at h4
  have A : Hid (BoxAt w b off bs) := h
  have L : Hid (bs.length = 4) := h4
  clear h h4
  obtain ⟨i0, hi, hz0, hz1, hz2⟩ := info_parts infoBoxO
  have I0 : Hid (Try.prog.info? 40 = some i0 ∧ i0.zero = some (.agg #[.int .i64 0, .int .i64 0]) ∧ i0.size = 2 ∧ i0.bytes = 16) := ⟨hi, hz0, hz1, hz2⟩
  clear hi hz0 hz1 hz2
  go_enter Try.func87, Try.ntmps87
  go_wp2_with (at_builtin; refine wpList_append_own _ rfl (.tmp 3) (.tmp 4) 23 rfl w.heap.size 40 i0 (.agg #[.int .i64 0, .int .i64 0]) 2 16 Try.underlying23 I0.out.1 I0.out.2.1 I0.out.2.2.1 I0.out.2.2.2 rfl (by decide) (.slice (some ⟨w.heap.size, 0, none⟩) 0 0) 0 [] rfl (own_empty w w.heap.size rfl) ⟨b, off, none⟩ bs.length c (flat bs) rfl (flat_length bs) (flat_atO (A.out.below ((Below.refl _ _).alloc (Nat.le_refl _) _))) (flat_one bs) (small_max (by rw [L.out]; omega)) (by rw [L.out]; omega) (by rw [size_new]; omega) ?_)
  intro v1 w6 hown hgr _
  obtain ⟨g1, cap1, rfl, hg1, hcap1, hat1, hfr1, hb6⟩ := grown_box rfl (by rw [L.out]; omega) hown hgr
  have F : Hid (bs.length ≤ cap1 ∧ w.heap.size ≤ g1 ∧ BoxAt w6 g1 0 bs ∧ (∀ o, w6.frozen? ⟨g1, o, none⟩ = false) ∧ Below w.heap.size w w6) := ⟨hcap1, hg1, hat1, hfr1, hb6⟩
  clear hown hgr hat1 hfr1 hb6 hg1 hcap1
  go_wp2
  go_ret
  exact ⟨g1, cap1, rfl, F.out⟩

set_option maxRecDepth 100000 in
set_option maxHeartbeats 4000000 in
theorem specSerialOne (la pa : Option Addr) (lc pc : Nat) (bs : List P2) (xs : List Q4) (w : World) (hb : Sl w la bs) (hx : Sl4 w pa xs) (l1 : bs.length ≤ 2 ^ 40) (l2 : xs.length ≤ 2 ^ 40) :
    Calls Try.prog 43 #[.slice la bs.length lc, .slice pa xs.length pc] w fun e w' => (∃ ad cap, e = .returned (.tuple #[.slice ad (serialOne bs xs).length cap, .int .i64 (execRun bs xs).val, .int .i64 (execRun bs xs).code]) ∧ (serialOne bs xs).length ≤ cap ∧ OwnB w' w.heap.size ad (serialOne bs xs)) ∧ Below w.heap.size w w' := by
  have SB : Hid (Sl w la bs) := hb
  have SX : Hid (Sl4 w pa xs) := hx
  clear hb hx
  obtain ⟨f1, f2⟩ := execRun_four bs xs
  have EF : Hid ((execRun bs xs).code = 3 → serialOne bs xs = [] ∧ (execRun bs xs).val = 0) := serialOne_form
  have ED : Hid (¬ (execRun bs xs).code = 3 → boxOk bs = true ∧ serialOne bs xs = doPuts bs (execRun bs xs).puts) := fun h => ⟨(serialOne_do h).1, (serialOne_do h).2.2.1⟩
  have EP : Hid (okAll numOk (execRun bs xs).puts = true) := execOk_puts (execRun_ok bs xs)
  have IR : Hid (Calls Try.prog 18 #[.slice la bs.length lc, .slice pa xs.length pc] w fun e w' => RunPost (execRun bs xs) w.heap.size e w' ∧ Below w.heap.size w w') := specRun la pa lc pc bs xs w SB.out SX.out l1 l2
  generalize execRun bs xs = o at f1 f2 EF ED EP IR ⊢
  generalize serialOne bs xs = R at EF ED ⊢
  go_enter Try.func43, Try.ntmps43
  go_wp2_with fail
  refine Calls.mono IR.out ?_
  rintro e w1 ⟨hp1, b1⟩
  obtain ⟨g1, e1, g2, e2, rfl, hr1⟩ := hp1.open
  obtain ⟨X, hX⟩ : ∃ X, X = w1.alloc (.cells #[.slice g1 o.reads.length e1, .slice g2 o.puts.length e2, .int .i64 o.val, .int .i64 o.code] 30) := ⟨_, rfl⟩
  have bX : Below w1.heap.size w1 X := by rw [hX]; exact below_new _ _
  have CX : Hid (C4 X w1.heap.size (.slice g1 o.reads.length e1) (.slice g2 o.puts.length e2) (.int .i64 o.val) (.int .i64 o.code)) := by show C4 _ _ _ _ _ _; rw [hX]; exact C4.new _ _ _ _ _ _
  have RX : Hid (RunB o w.heap.size X g1 g2) := hr1.below bX
  have BX : Hid (Below w.heap.size w X) := b1.trans (bX.mono b1.size)
  have HX : Hid (X = _) := hX
  clear hX bX hr1 b1 hp1
  obtain ⟨_, q0, q1, q2, q3⟩ := CX.out
  go_upto_region 2 with fail
  rw [← HX.out]
  by_cases hc : o.code = 3
  · obtain ⟨r1, r2⟩ := EF.out hc
    have hcb : (o.code == 3) = true := by simpa using hc
    go_wp2_with fail
    refine bodyPost_ret (v := .tuple #[.slice (some ⟨X.heap.size, 0, none⟩) 0 0, .int .i64 0, .int .i64 3]) (by simp [results, Try.results43, go_sem]) rfl ⟨?_, BX.out.alloc BX.out.size _⟩
    rw [r1, r2, hc]
    exact ⟨_, 0, rfl, Nat.le_refl _, .inl rfl⟩
  · have hcb : (o.code == 3) = false := by simpa using hc
    obtain ⟨hbo, RE⟩ := ED.out hc
    have L4 : bs.length = 4 := boxOk_len hbo
    have CP : Hid (∀ W, Turned [] X W → Calls Try.prog 87 #[.slice la bs.length lc] W fun e w' => ∃ g cap, e = .returned (.slice (some ⟨g, 0, none⟩) 4 cap) ∧ (4 ≤ cap ∧ X.heap.size ≤ g ∧ BoxAt w' g 0 bs ∧ (∀ o, w'.frozen? ⟨g, o, none⟩ = false) ∧ Below X.heap.size X w') ∧ w'.cell? ⟨w1.heap.size, 0, none⟩ = some (.slice g1 o.reads.length e1) ∧ w'.cell? ⟨w1.heap.size, 1, none⟩ = some (.slice g2 o.puts.length e2) ∧ w'.cell? ⟨w1.heap.size, 2, none⟩ = some (.int .i64 o.val) ∧ w'.cell? ⟨w1.heap.size, 3, none⟩ = some (.int .i64 o.code)) := by
      intro W hW
      have hb : Below X.heap.size X W := ⟨hW.os, hW.tape, hW.output, hW.size, fun k hk => hW.block k hk (by simp)⟩
      refine (l1CopyCap la lc bs W ((SB.out.below BX.out).below hb) L4).mono ?_
      rintro e w' ⟨g, cap, rfl, hcap, h1, h2, h3, h4⟩
      have h5 : Below X.heap.size X w' := hb.trans (h4.mono hb.size)
      obtain ⟨_, c0, c1, c2, c3⟩ := CX.out.below h5
      exact ⟨g, cap, by rw [L4], ⟨by rw [L4] at hcap; exact hcap, Nat.le_trans hb.size h1, h2, h3, h5⟩, c0, c1, c2, c3⟩
    have DO : Hid (∀ (g cap : Nat) (W : World), X.heap.size ≤ g ∧ BoxAt W g 0 bs ∧ (∀ o, W.frozen? ⟨g, o, none⟩ = false) ∧ Below X.heap.size X W → Calls Try.prog 86 #[.slice (some ⟨g, 0, none⟩) 4 cap, .agg #[.slice g1 o.reads.length e1, .slice g2 o.puts.length e2, .int .i64 o.val, .int .i64 o.code]] W fun e w' => e = .returned (.slice (some ⟨g, 0, none⟩) 4 cap) ∧ (OwnB w' w.heap.size (some ⟨g, 0, none⟩) R ∧ Below w.heap.size w w') ∧ w'.cell? ⟨w1.heap.size, 0, none⟩ = some (.slice g1 o.reads.length e1) ∧ w'.cell? ⟨w1.heap.size, 1, none⟩ = some (.slice g2 o.puts.length e2) ∧ w'.cell? ⟨w1.heap.size, 2, none⟩ = some (.int .i64 o.val) ∧ w'.cell? ⟨w1.heap.size, 3, none⟩ = some (.int .i64 o.code)) := by
      rintro g cap W ⟨h1, h2, h3, h4⟩
      have r := RX.out.below h4
      refine (l3Do g cap bs g1 g2 o.reads.length e1 e2 o.puts o.val o.code W hbo h2 h3 r.puts.sl (.inr fun x e => ?_) (by omega) EP.out).mono ?_
      · have := (RX.out.far2 x e).2; omega
      · rintro e w' ⟨rfl, k1, k2, k3⟩
        have t : Turned [g] W w' := ⟨k3.os, k3.tape, k3.output, k3.size, fun k hk hn => k3.block k hk (by simpa using hn)⟩
        have hx1 : w1.heap.size < X.heap.size := CX.out.1
        obtain ⟨_, c0, c1, c2, c3⟩ := (CX.out.below h4).turned t (by simp; omega)
        refine ⟨rfl, ⟨.inr ⟨g, rfl, by have := BX.out.size; omega, by rw [RE]; exact k1, k2⟩, ?_⟩, c0, c1, c2, c3⟩
        exact (BX.out.trans (h4.mono BX.out.size)).trans (t.below (fun x hx => by have := BX.out.size; simp at hx; omega) (by have := BX.out.size; have := h4.size; omega))
    have RL : Hid (R.length = 4) := by show _ = _; rw [RE, doPuts_length]; exact L4
    clear RE ED EF hbo
    have HL4 : Hid (bs.length = 4) := L4
    clear L4
    go_upto_region 4 with fail
    refine wp_region_held_drew (S := (fun w' : World => w'.cell? ⟨w1.heap.size, 0, none⟩ = some (.slice g1 o.reads.length e1) ∧ w'.cell? ⟨w1.heap.size, 1, none⟩ = some (.slice g2 o.puts.length e2) ∧ w'.cell? ⟨w1.heap.size, 2, none⟩ = some (.int .i64 o.val) ∧ w'.cell? ⟨w1.heap.size, 3, none⟩ = some (.int .i64 o.code))) (by kernel_rfl) ⟨q0, q1, q2, q3⟩ (fun hHeld => ?_)
    refine wpAnyH_take (i := 0) (v := ?v0) rfl (by kernel_rfl) (by kernel_rfl) (by kernel_rfl) (fun _ _ _ h => h) (Or.inl ⟨by rfl, ?y0⟩) (by assumption) ?r0
    case y0 =>
      intro w' hSw
      try dsimp only at hSw
      go_simp
      try with_reducible rfl
    simp only [Act.put, List.getElem_toArray, List.getElem_cons_succ, List.getElem_cons_zero, List.setIfInBounds_toArray, List.set_cons_zero, List.set_cons_succ]
    refine wpAnyH_take (i := 2) (v := ?v2) rfl (by kernel_rfl) (by kernel_rfl) (by kernel_rfl) (fun _ _ _ h => h) (Or.inl ⟨by rfl, ?y2⟩) (by assumption) ?r2
    case y2 =>
      intro w' hSw
      try dsimp only at hSw
      go_simp
      try with_reducible rfl
    simp only [Act.put, List.getElem_toArray, List.getElem_cons_succ, List.getElem_cons_zero, List.setIfInBounds_toArray, List.set_cons_zero, List.set_cons_succ]
    refine wpAnyH_take (i := 4) (v := ?v4) rfl (by kernel_rfl) (by kernel_rfl) (by kernel_rfl) (fun _ _ _ h => h) (Or.inl ⟨by rfl, ?y4⟩) (by assumption) ?r4
    case y4 =>
      intro w' hSw
      try dsimp only at hSw
      go_simp
      try with_reducible rfl
    simp only [Act.put, List.getElem_toArray, List.getElem_cons_succ, List.getElem_cons_zero, List.setIfInBounds_toArray, List.set_cons_zero, List.set_cons_succ]
    refine wpAnyH_take (i := 5) (v := ?v5) rfl (by kernel_rfl) (by kernel_rfl) (by kernel_rfl) (fun _ _ _ h => h) (Or.inl ⟨by rfl, ?y5⟩) (by assumption) ?r5
    case y5 =>
      intro w' hSw
      try dsimp only at hSw
      go_simp
      try with_reducible rfl
    simp only [Act.put, List.getElem_toArray, List.getElem_cons_succ, List.getElem_cons_zero, List.setIfInBounds_toArray, List.set_cons_zero, List.set_cons_succ]
    refine wpAnyH_take (i := 6) (v := ?v6) rfl (by kernel_rfl) (by kernel_rfl) (by kernel_rfl) (fun _ _ _ h => h) (Or.inl ⟨by rfl, ?y6⟩) (by assumption) ?r6
    case y6 =>
      intro w' hSw
      try dsimp only at hSw
      go_simp
      try with_reducible rfl
    simp only [Act.put, List.getElem_toArray, List.getElem_cons_succ, List.getElem_cons_zero, List.setIfInBounds_toArray, List.set_cons_zero, List.set_cons_succ]
    refine wpAnyH_take (i := 7) (v := ?v7) rfl (by kernel_rfl) (by kernel_rfl) (by kernel_rfl) (fun _ _ _ h => h) (Or.inl ⟨by rfl, ?y7⟩) (by assumption) ?r7
    case y7 =>
      intro w' hSw
      try dsimp only at hSw
      go_simp
      try with_reducible rfl
    simp only [Act.put, List.getElem_toArray, List.getElem_cons_succ, List.getElem_cons_zero, List.setIfInBounds_toArray, List.set_cons_zero, List.set_cons_succ]
    refine wpAnyH_ready (rs := [1]) (by kernel_rfl) (by simp) ?_
    refine AllReadyH.cons rfl (fun K hK => ?_) AllReadyH.nil
    go_simp
    refine Calls.mono (CP.out _ (Turned.refl _ _).drew) ?_
    rintro e w2 ⟨g, cap, rfl, hD, hS⟩
    have DD : Hid (Calls Try.prog 86 #[.slice (some ⟨g, 0, none⟩) 4 cap, .agg #[.slice g1 o.reads.length e1, .slice g2 o.puts.length e2, .int .i64 o.val, .int .i64 o.code]] w2 _) := DO.out g cap w2 hD.2
    have HC : Hid (4 ≤ cap) := hD.1
    refine hK.out _ _ hS (fun hHeld2 => ?_)
    clear hK K hHeld hD hS
    refine wpAnyH_ready (rs := [3]) (by kernel_rfl) (by simp) ?_
    refine AllReadyH.cons rfl (fun K hK => ?_) AllReadyH.nil
    go_simp
    refine Calls.mono DD.out ?_
    rintro e w3 ⟨rfl, hD3, hS3⟩
    have HD3 : Hid (OwnB w3 w.heap.size (some ⟨g, 0, none⟩) R ∧ Below w.heap.size w w3) := hD3
    refine hK.out _ _ hS3 (fun hHeld3 => ?_)
    clear hK K hHeld2 hD3 hS3
    refine wpAnyH_take (i := 8) (v := ?v8) rfl (by kernel_rfl) (by kernel_rfl) (by kernel_rfl) (fun _ _ _ h => h) (Or.inl ⟨by rfl, ?y8⟩) (by assumption) ?r8
    case y8 =>
      intro w' hSw
      try dsimp only at hSw
      go_simp
      try with_reducible rfl
    simp only [Act.put, List.getElem_toArray, List.getElem_cons_succ, List.getElem_cons_zero, List.setIfInBounds_toArray, List.set_cons_zero, List.set_cons_succ]
    refine wpAnyH_take (i := 9) (v := ?v9) rfl (by kernel_rfl) (by kernel_rfl) (by kernel_rfl) (fun _ _ _ h => h) (Or.inl ⟨by rfl, ?y9⟩) (by assumption) ?r9
    case y9 =>
      intro w' hSw
      try dsimp only at hSw
      go_simp
      try with_reducible rfl
    simp only [Act.put, List.getElem_toArray, List.getElem_cons_succ, List.getElem_cons_zero, List.setIfInBounds_toArray, List.set_cons_zero, List.set_cons_succ]
    refine wpAnyH_take (i := 10) (v := ?v10) rfl (by kernel_rfl) (by kernel_rfl) (by kernel_rfl) (fun _ _ _ h => h) (Or.inl ⟨by rfl, ?y10⟩) (by assumption) ?r10
    case y10 =>
      intro w' hSw
      try dsimp only at hSw
      go_simp
      try with_reducible rfl
    simp only [Act.put, List.getElem_toArray, List.getElem_cons_succ, List.getElem_cons_zero, List.setIfInBounds_toArray, List.set_cons_zero, List.set_cons_succ]
    refine wpAnyH_done (by kernel_rfl) ?_ _
    go_wp2_with fail
    refine bodyPost_ret (v := .tuple #[.slice (some ⟨g, 0, none⟩) 4 cap, .int .i64 o.val, .int .i64 o.code]) (by simp [results, Try.results43, go_sem]) rfl ⟨?_, HD3.out.2⟩
    exact ⟨_, cap, by rw [RL.out], by rw [RL.out]; exact HC.out, HD3.out.1⟩
end Go.Proofs.Ytiibonnchmphcaa.Own

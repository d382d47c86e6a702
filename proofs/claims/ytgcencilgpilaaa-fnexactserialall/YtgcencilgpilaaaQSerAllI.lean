/-
  Own text: what impl.SerialAll does.
-/
import Derived.Test.YtgcencilgpilaaaQSerOkI
import Derived.Test.YtgcencilgpilaaaPk8
import Derived.Test.YtgcencilgpilaaaPk6
import Derived.Test.YtgcencilgpilaaaPk1
import Derived.Test.YtgcencilgpilaaaPk5
import Derived.Maps.OwnIn
namespace Go.Proofs.Ytgcencilgpilaaa.Own
open Go.RowKit Go.Shelf
set_option linter.unusedVariables false
set_option linter.unusedSimpArgs false
attribute [local go_sem] Oper.semAt_some

/-- What programs that run one behind the other leave and say, each list in memory of its own. -/
def SAPost (R : List P2 × List Int) (B : Nat) (e : Ending) (w' : World) : Prop :=
  ∃ ad cap vv, e = .returned (.tuple #[.slice ad R.1.length cap, vv]) ∧ R.1.length ≤ cap ∧ OwnB w' B ad R.1 ∧ OwnI w' B vv R.2 ∧ (R.1 = [] ∨ ∀ g, ad = some ⟨g, 0, none⟩ → vv.ownBlock ≠ some g)
theorem SAPost.empty (B : Nat) (w' : World) : SAPost ([], []) B (.returned (.tuple #[.slice none 0 0, .slice none 0 0])) w' :=
  ⟨none, 0, .slice none 0 0, rfl, Nat.le_refl _, .inl rfl, World.ownsRow_nil _ _ _ _, .inl rfl⟩

theorem infoIntZ : (Try.prog.info? 3).map (fun i => (i.zero, i.size, i.bytes)) = some (some (.int .i64 0), 1, 8) := by kernel_rfl

theorem serialAll_no {bs : List P2} {ps : List PS} (h : (boxOk bs && allProgs ps) = false) : serialAll bs (progsOf ps) = ([], []) := by
  unfold serialAll
  rw [if_neg]
  intro e
  simp only [allOk, Bool.and_eq_true, decide_eq_true_eq] at e
  rw [Bool.eq_false_iff] at h
  apply h
  unfold allProgs
  simp only [Bool.and_eq_true, decide_eq_true_eq]
  exact ⟨e.1.1, by have := e.1.2; unfold progsOf at this; simpa using this, e.2⟩
theorem serialAll_yes {bs : List P2} {ps : List PS} (h1 : boxOk bs = true) (h2 : allProgs ps = true) : serialAll bs (progsOf ps) = runAll bs (progsOf ps) := by
  unfold serialAll
  rw [if_pos]
  unfold allProgs at h2
  simp only [Bool.and_eq_true, decide_eq_true_eq] at h2
  simp only [allOk, Bool.and_eq_true, decide_eq_true_eq]
  exact ⟨⟨h1, by unfold progsOf; simpa using h2.1⟩, h2.2⟩
theorem allProgs_at {ps : List PS} (h : allProgs ps = true) (i : Nat) : progOk (ps.getD i p0).2.2 = true := by
  unfold allProgs at h
  simp only [Bool.and_eq_true, decide_eq_true_eq, List.all_eq_true] at h
  by_cases hi : i < ps.length
  · refine h.2 _ ?_
    unfold progsOf
    exact List.mem_map.2 ⟨ps[i], List.getElem_mem hi, by simp [List.getD, hi]⟩
  · rw [show ps.getD i p0 = p0 by simp [List.getD, List.getElem?_eq_none (by omega : ps.length ≤ i)]]
    rfl

/-- What the first programs leave. -/
def runTo (bs : List P2) (ps : List PS) (pre : List Nat) : List P2 × List Int := runAll bs (pre.map fun i => (ps.getD i p0).2.2)
theorem runTo_snoc (bs : List P2) (ps : List PS) (pre : List Nat) (x : Nat) : runTo bs ps (pre ++ [x]) = allStep (runTo bs ps pre) (ps.getD x p0).2.2 := by
  unfold runTo
  rw [List.map_append, List.map_cons, List.map_nil, runAll_snoc]
theorem runTo_four {bs : List P2} (ps : List PS) (pre : List Nat) (h : boxOk bs = true) : boxOk (runTo bs ps pre).1 = true ∧ (runTo bs ps pre).1.length = 4 ∧ (runTo bs ps pre).2.length = pre.length := by
  have h1 := runAll_ok (pre.map fun i => (ps.getD i p0).2.2) h
  exact ⟨h1, boxOk_len h1, by unfold runTo; rw [runAll_len]; simp⟩

/-- Behind the first programs: the boxes in memory of their own, and what was said, in memory of its own; B1 holds the boxes' slice, the block behind it the numbers'. -/
def InAll (bs : List P2) (ps : List PS) (B B1 : Nat) (w6 : World) (pre : List Nat) (W : World) : Prop :=
  ∃ g cap vv, Boxed W B1 23 (.slice (some ⟨g, 0, none⟩) 4 cap) ∧ 4 ≤ cap ∧ (B ≤ g ∧ g ≠ B1 ∧ g ≠ B1 + 1) ∧ BoxAt W g 0 (runTo bs ps pre).1 ∧ (∀ o, W.frozen? ⟨g, o, none⟩ = false) ∧
    Boxed W (B1 + 1) 48 vv ∧ W.ownsRow w6.heap.size 3 1 vv pre.length ((runTo bs ps pre).2.map (Value.int .i64)) ∧ vv.ownBlock ≠ some g ∧ KeepBut w6.heap.size [B1, B1 + 1] w6 W

theorem InAll.grown {bs : List P2} {ps : List PS} {B B1 : Nat} {w6 X Y : World} {pre : List Nat} {row : Option Nat} (h : InAll bs ps B B1 w6 pre X) (hl : (runTo bs ps pre).1.length = 4) (hg : X.grownBy Y row) (hB : B1 + 1 < w6.heap.size) (hr : ∀ r, row = some r → w6.heap.size ≤ r ∧ ∃ o : Obj, X.heap[r]? = some o ∧ o.isCells = false) : InAll bs ps B B1 w6 pre Y := by
  obtain ⟨g, cap, vv, h1, h2, h3, h4, h5, h6, h7, h8, h9⟩ := h
  have hgr : some g ≠ row := fun e => by
    obtain ⟨_, o, ho, hc⟩ := hr g e.symm
    have c0 := (h4.2 0 (by rw [hl]; omega)).1
    simp only [World.cell?, ho] at c0
    cases o <;> first | (cases hc; done) | (simp at c0; done) | skip
  have hvr : vv.ownBlock = none ∨ vv.ownBlock ≠ row := by
    rcases h7.2 with ⟨rfl, _⟩ | ⟨gg, cc, cur, rfl, _, hgb, _⟩
    · exact .inl rfl
    · refine .inr fun e => ?_
      obtain ⟨_, o, ho, hc⟩ := hr gg (by simpa [Value.ownBlock] using e.symm)
      rw [hgb] at ho; cases ho; cases hc
  exact ⟨g, cap, vv, h1.kept hg (fun e => by have := (hr _ e.symm).1; omega), h2, h3, h4.grown hg hgr, fun o => by rw [frozen_grown h4.1 hg hgr]; exact h5 o, h6.kept hg (fun e => by have := (hr _ e.symm).1; omega), h7.kept hg hvr, h8, h9.grown hg (Nat.le_refl _) (fun r e => (hr r e).1)⟩

set_option maxRecDepth 100000 in
set_option maxHeartbeats 4000000 in
theorem implSerialAll (la pa : Option Addr) (lc pc : Nat) (bs : List P2) (ps : List PS) (w : World) (hb : Sl w la bs) (hp : SlP w pa ps) (hlc : bs.length ≤ lc) (hlen : ps.length ≤ 2 ^ 40) :
    Calls Try.prog 27 #[.slice la bs.length lc, .slice pa ps.length pc] w fun e w' => SAPost (serialAll bs (progsOf ps)) w.heap.size e w' ∧ Below w.heap.size w w' := by
  have HB : Hid (Sl w la bs) := hb
  have HP : Hid (SlP w pa ps) := hp
  clear hb hp
  have CB := implOk la lc bs w HB.out hlc
  have CP : Hid (∀ W, Below w.heap.size w W → Calls Try.prog 82 #[.slice pa ps.length pc] W fun e w' => e = .returned (.bool (allProgs ps)) ∧ Below W.heap.size W w') := fun W h => progsOkC pa pc ps W (HP.out.below h) hlen
  cases hbo : boxOk bs with
  | false =>
    rw [hbo] at CB
    have HCB : Hid _ := CB
    have E : Hid (serialAll bs (progsOf ps) = ([], [])) := serialAll_no (by rw [hbo]; rfl)
    clear CB
    go_enter Try.func27, Try.ntmps27
    go_wp2_with fail
    refine Calls.mono HCB.out ?_
    rintro e w1 ⟨rfl, b1⟩
    have B1 : Hid (Below w.heap.size w w1) := b1
    clear b1
    go_wp2_with fail
    refine bodyPost_ret (v := .tuple #[.slice none 0 0, .slice none 0 0]) (by simp [results, Try.results27, go_sem]) rfl ?_
    rw [E.out]
    exact ⟨SAPost.empty _ _, B1.out⟩
  | true =>
    rw [hbo] at CB
    have HCB : Hid _ := CB
    have HBO : Hid (boxOk bs = true) := hbo
    have L4 : Hid (bs.length = 4) := boxOk_len hbo
    clear CB
    cases hpo : allProgs ps with
    | false =>
      have E : Hid (serialAll bs (progsOf ps) = ([], [])) := serialAll_no (by rw [hpo, Bool.and_false])
      rw [hpo] at CP
      clear hbo
      go_enter Try.func27, Try.ntmps27
      go_wp2_with fail
      refine Calls.mono HCB.out ?_
      rintro e w1 ⟨rfl, b1⟩
      have B1 : Hid (Below w.heap.size w w1) := b1
      clear b1
      go_wp2_with fail
      refine Calls.mono (CP.out _ B1.out) ?_
      rintro e w2 ⟨rfl, b2⟩
      have B2 : Hid (Below w.heap.size w w2) := B1.out.trans (b2.mono B1.out.size)
      clear b2
      go_wp2_with fail
      refine bodyPost_ret (v := .tuple #[.slice none 0 0, .slice none 0 0]) (by simp [results, Try.results27, go_sem]) rfl ?_
      rw [E.out]
      exact ⟨SAPost.empty _ _, B2.out⟩
    | true =>
      have E : Hid (serialAll bs (progsOf ps) = runTo bs ps (List.range ps.length)) := by show _ = _; rw [serialAll_yes hbo hpo, progsOf_range]; rfl
      have APS : Hid (∀ i, progOk (ps.getD i p0).2.2 = true) := allProgs_at hpo
      rw [hpo] at CP
      clear hbo hpo
      obtain ⟨i0, hi, hz0, hz1, hz2⟩ := info_parts infoIntZ
      have HI : Hid (Try.prog.info? 3 = some i0 ∧ i0.zero = some (.int .i64 0) ∧ i0.size = 1 ∧ i0.bytes = 8) := ⟨hi, hz0, hz1, hz2⟩
      clear hi hz0 hz1 hz2
      refine (callsIn_wide (n := 3)).1 ?_
      have h1 : 1 ≤ 3 := by omega
      refine callsIn_of_wp_marks Try.func27 rfl trivial ?_ rfl
      simp only [Try.ntmps27, List.size_toArray, List.length_cons, List.length_nil, Nat.reduceAdd, Nat.reduceSub, Array.replicate_succ, Array.replicate_zero, List.push_toArray, List.append_toArray, List.nil_append, List.cons_append]
      gi_wp2_with fail
      refine ⟨trivial, (callsIn_wide.2 HCB.out).mono ?_⟩
      rintro e w1 ⟨rfl, b1⟩
      have B1 : Hid (Below w.heap.size w w1) := b1
      clear b1
      gi_wp2_with fail
      refine ⟨trivial, (callsIn_wide.2 (CP.out _ B1.out)).mono ?_⟩
      rintro e w2 ⟨rfl, b2⟩
      have B2 : Hid (Below w.heap.size w w2) := B1.out.trans (b2.mono B1.out.size)
      clear b2
      gi_wp2_with fail
      refine ⟨trivial, (callsIn_wide.2 (boxesFrom la lc bs 0 w2 (HB.out.below B2.out) hlc (Nat.zero_le _))).mono ?_⟩
      rintro e w3 ⟨rfl, b3⟩
      have B3 : Hid (Below w.heap.size w w3) := B2.out.trans (b3.mono B2.out.size)
      clear b3
      gi_wp2_with fail
      refine ⟨trivial, (callsIn_wide.2 (arrList _ _ _ _ _ _ _ _ w3)).mono ?_⟩
      rintro e w4 ⟨rfl, hc4, b4, s4⟩
      have S4 : Hid (w4.heap.size = w3.heap.size + 2) := s4
      have B4 : Hid (Below w.heap.size w w4) := B3.out.trans (b4.mono B3.out.size)
      have A4 : Hid (BoxAt w4 (w3.heap.size + 1) 0 bs ∧ ∀ o, w4.frozen? ⟨w3.heap.size + 1, o, none⟩ = false) := ⟨arr_at (by simpa [fromD] using hc4) L4.out, fun o => frozen_heap hc4 o⟩
      clear hc4 b4 s4
      obtain ⟨W5, hW5⟩ : ∃ W, W = (w4.alloc (.cells #[.slice (some ⟨w3.heap.size + 1, 0, none⟩) 4 4] 23)).alloc (.cells #[.slice none 0 0] 48) := ⟨_, rfl⟩
      have S5 : Hid (W5.heap.size = w4.heap.size + 2) := by show _ = _; rw [hW5]; simp
      have K5 : Hid (Below w4.heap.size w4 W5) := by show Below _ _ _; rw [hW5]; exact ((Below.refl _ _).alloc (Nat.le_refl _) _).alloc (by simp) _
      have X5 : Hid (Boxed W5 w4.heap.size 23 (.slice (some ⟨w3.heap.size + 1, 0, none⟩) 4 4)) := by show Boxed _ _ _ _; rw [hW5]; exact (Boxed.new _ _ _).alloc _
      have Y5 : Hid (Boxed W5 (w4.heap.size + 1) 48 (.slice none 0 0)) := by
        show Boxed _ _ _ _; rw [hW5]
        have := Boxed.new (w4.alloc (.cells #[.slice (some ⟨w3.heap.size + 1, 0, none⟩) 4 4] 23)) 48 (.slice none 0 0)
        rwa [World.size_alloc] at this
      have HW5 : Hid (W5 = _) := hW5
      clear hW5
      gi_wp2_with fail
      rw [← HW5.out]
      refine ⟨trivial, (callsIn_wide.2 (inOrderC pa ps.length pc W5)).mono ?_⟩
      rintro e w6 ⟨rfl, hw6⟩
      have K6 : Hid (Below W5.heap.size W5 w6) := by show Below _ _ _; rw [hw6]; exact below_new _ _
      have S6 : Hid (w6.heap.size = w4.heap.size + 3) := by show _ = _; rw [hw6]; simp [S5.out]
      have C6 : Hid (w6.cell? ⟨W5.heap.size, 0, none⟩ = some (.slice pa ps.length pc)) := by show _ = _; rw [hw6, cell_heap (heap_new _ _)]; rfl
      have X6 : Hid (Boxed w6 w4.heap.size 23 (.slice (some ⟨w3.heap.size + 1, 0, none⟩) 4 4)) := X5.out.kept (grBelow (row := none) K6.out) (by simp)
      have Y6 : Hid (Boxed w6 (w4.heap.size + 1) 48 (.slice none 0 0)) := Y5.out.kept (grBelow (row := none) K6.out) (by simp)
      have k46 : Below w4.heap.size w4 w6 := K5.out.trans (K6.out.mono K5.out.size)
      have A6 : Hid (BoxAt w6 (w3.heap.size + 1) 0 bs ∧ ∀ o, w6.frozen? ⟨w3.heap.size + 1, o, none⟩ = false) := ⟨A4.out.1.below k46, fun o => by rw [k46.frozen (p := ⟨w3.heap.size + 1, o, none⟩) A4.out.1.1]; exact A4.out.2 o⟩
      have B6 : Hid (Below w.heap.size w w6) := B4.out.trans (k46.mono B4.out.size)
      have NR : Hid (SlPN w6.heap.size [w4.heap.size, w4.heap.size + 1] w6 pa ps) := HP.out.near B6.out B6.out.size (fun x hx => by have := B4.out.size; simp at hx; omega)
      have bl : W5.heap.size < w6.heap.size := by have := S5.out; have := S6.out; omega
      clear hw6 k46 HCB CP HW5
      gi_wp2_with fail
      refine wpIn_rangeFunc_ownG (F := Fence.wide) rfl h1 (gf := 122) (lb := #[.pointer (some ⟨W5.heap.size, 0, none⟩)]) rfl trivial (enters_of Try.func122 (by kernel_rfl) rfl)
        (inOrderStops (3 - 1) (by omega) W5.heap.size w6.heap.size [w4.heap.size, w4.heap.size + 1] pa pc ps hlen w6 C6.out bl (Nat.le_refl _) NR.out) belowBut_t (belowBut_b (Nat.le_refl _)) (Below.refl _ _) (fun _ => rfl)
        (fun (pre : List Nat) W => InAll bs ps w.heap.size w4.heap.size w6 pre W)
        (fun _ _ _ => False)
        (fun s X Y row hs hg hr => hs.grown (runTo_four ps s HBO.out).2.1 hg (by have := S6.out; omega) (fun r e => hr r e))
        (fun _ _ _ _ _ hs _ _ => hs)
        ⟨w3.heap.size + 1, 4, .slice none 0 0, X6.out, Nat.le_refl _, ⟨by have := B3.out.size; omega, by have := S4.out; omega⟩, by show BoxAt w6 _ 0 bs; exact A6.out.1, A6.out.2, Y6.out, World.ownsRow_nil _ _ _ _, by simp [Value.ownBlock], KeepBut.refl _ _ _⟩
        (fun x => { tmps := #[.slice la bs.length lc, .slice pa ps.length pc, undef, undef, .slice none 0 0, .slice none 0 0, .pointer (some ⟨w4.heap.size, 0, none⟩), .pointer (some ⟨w4.heap.size + 1, 0, none⟩), psV (ps.getD x p0), undef, undef, undef, .slice la bs.length lc, .bool true, .bool false, .bool false, .slice pa ps.length pc, .bool true, .bool false, .bool false, .slice la bs.length lc, .agg #[.int .i64 (fromD bs 0 0).1, .int .i64 (fromD bs 0 0).2, .int .i64 (fromD bs 0 1).1, .int .i64 (fromD bs 0 1).2, .int .i64 (fromD bs 0 2).1, .int .i64 (fromD bs 0 2).2, .int .i64 (fromD bs 0 3).1, .int .i64 (fromD bs 0 3).2], .slice (some ⟨w3.heap.size + 1, 0, none⟩) 4 4, .slice pa ps.length pc, .func (.func 122) #[] #[.pointer (some ⟨W5.heap.size, 0, none⟩)], psV (ps.getD x p0), undef, undef, undef, undef, undef, undef, undef, undef, undef, undef, undef, undef, undef, undef], defers := [] }) ?assign ?body ?done ?stop
      case assign =>
        intro l x W K hK
        gi_wp2
        exact hK
      case body =>
        rintro l pre x W ⟨g, cap, vv, hbx, hcap, ⟨hg1, hg2⟩, hat, hfr, hvx, hrow, hne, hkp⟩ hlt
        have R4 := runTo_four ps pre HBO.out
        have SL := (NR.out.keep hkp).at x
        have SO := implSerialOne (some ⟨g, 0, none⟩) (ps.getD x p0).1 cap (ps.getD x p0).2.1 (runTo bs ps pre).1 (ps.getD x p0).2.2 W (.inr ⟨g, 0, rfl, hat⟩) SL.1 (by rw [R4.2.1]; exact hcap) SL.2
        have hpx := APS.out x
        have hcd : ¬ (execRun (runTo bs ps pre).1 (ps.getD x p0).2.2).code = 3 := by
          rw [execRun_code, R4.1, hpx]; simp
        have hdo := (serialOne_do hcd).2.2.1
        have NXT := runTo_snoc bs ps pre x
        have N4 := runTo_four ps (pre ++ [x]) HBO.out
        have e1 : (runTo bs ps (pre ++ [x])).1 = serialOne (runTo bs ps pre).1 (ps.getD x p0).2.2 := by rw [NXT, hdo]; rfl
        have e2 : (runTo bs ps (pre ++ [x])).2 = (runTo bs ps pre).2 ++ [(execRun (runTo bs ps pre).1 (ps.getD x p0).2.2).val] := by rw [NXT]; rfl
        have HSO : Hid (Calls Try.prog 84 #[.slice (some ⟨g, 0, none⟩) 4 cap, psV (ps.getD x p0)] W fun e w' => ∃ g1 cap1 vl cd, e = .returned (.tuple #[.slice (some ⟨g1, 0, none⟩) 4 cap1, .int .i64 vl, .int .i64 cd]) ∧ 4 ≤ cap1 ∧ W.heap.size ≤ g1 ∧ BoxAt w' g1 0 (runTo bs ps (pre ++ [x])).1 ∧ (∀ o, w'.frozen? ⟨g1, o, none⟩ = false) ∧ (runTo bs ps (pre ++ [x])).2 = (runTo bs ps pre).2 ++ [vl] ∧ Below W.heap.size W w') := by
          rw [R4.2.1] at SO
          refine SO.mono ?_
          rintro e w' ⟨⟨ad, cap1, rfl, hc1, ho⟩, hb⟩
          rw [← e1] at hc1 ho ⊢
          rcases ho with h | ⟨g1, rfl, hg, ha, hf⟩
          · have := N4.2.1; rw [h] at this; simp at this
          · rw [N4.2.1] at hc1 ⊢
            exact ⟨g1, cap1, _, _, rfl, hc1, hg, ha, hf, e2, hb⟩
        have I0 : Hid (InAll bs ps w.heap.size w4.heap.size w6 pre W) := ⟨g, cap, vv, hbx, hcap, ⟨hg1, hg2⟩, hat, hfr, hvx, hrow, hne, hkp⟩
        have HBX : Hid (Boxed W w4.heap.size 23 (.slice (some ⟨g, 0, none⟩) 4 cap)) := hbx
        have HVX : Hid (Boxed W (w4.heap.size + 1) 48 vv) := hvx
        have HRW : Hid (W.ownsRow w6.heap.size 3 1 vv pre.length ((runTo bs ps pre).2.map (Value.int .i64))) := hrow
        have HKP : Hid (KeepBut w6.heap.size [w4.heap.size, w4.heap.size + 1] w6 W) := hkp
        have HPL : Hid (pre.length ≤ 2 ^ 40) := by show _ ≤ _; omega
        have hcb := hbx.cell
        have hfb := hbx.frozen
        clear hbx hvx hrow hkp hat hfr SO SL NXT N4 R4 hdo hcd hpx e1 e2 hne hlt
        unfold psV at HSO ⊢
        generalize ps.getD x p0 = q at HSO ⊢
        obtain ⟨pxa, pxc, px⟩ := q
        simp only at HSO ⊢
        gi_wp2_with fail
        refine ⟨trivial, (CallsIn.inRound l (callsIn_wide.2 HSO.out)).mono ?_⟩
        rintro e w7 ⟨g1, cap1, vl, cd, rfl, hc1, hg7, hat7, hf7, e7, hb7⟩
        have gr7 : W.grownBy w7 none := grBelow hb7
        have P7 : Hid (4 ≤ cap1 ∧ W.heap.size ≤ g1 ∧ BoxAt w7 g1 0 (runTo bs ps (pre ++ [x])).1 ∧ (∀ o, w7.frozen? ⟨g1, o, none⟩ = false) ∧ (runTo bs ps (pre ++ [x])).2 = (runTo bs ps pre).2 ++ [vl] ∧ Below W.heap.size W w7) := ⟨hc1, hg7, hat7, hf7, e7, hb7⟩
        have BX7 : Boxed w7 w4.heap.size 23 (.slice (some ⟨g, 0, none⟩) 4 cap) := HBX.out.kept gr7 (by simp)
        have VX7 : Boxed w7 (w4.heap.size + 1) 48 vv := HVX.out.kept gr7 (by simp)
        have hcb7 := BX7.cell
        have hfb7 := BX7.frozen
        have hcv7 := VX7.cell
        have hfv7 := VX7.frozen
        obtain ⟨W8, hW8⟩ : ∃ W8, W8 = w7.setCell ⟨w4.heap.size, 0, none⟩ (.slice (some ⟨g1, 0, none⟩) 4 cap1) := ⟨_, rfl⟩
        have gr8 : w7.grownBy W8 (some w4.heap.size) := by rw [hW8]; exact grownBy_setCell' _ _ _
        have BX8 : Hid (Boxed W8 w4.heap.size 23 (.slice (some ⟨g1, 0, none⟩) 4 cap1)) := by show Boxed _ _ _ _; rw [hW8]; exact BX7.set _
        have VX8 : Hid (Boxed W8 (w4.heap.size + 1) 48 vv) := VX7.kept gr8 (by simp)
        have vne : vv.ownBlock = none ∨ vv.ownBlock ≠ some w4.heap.size := by
          cases h : vv.ownBlock with
          | none => exact .inl rfl
          | some b => exact .inr (fun e => by injection e with e; have := (World.ownsRow.lt HRW.out b h).1; have := S6.out; omega)
        have RW8 : Hid (W8.ownsRow w6.heap.size 3 1 vv pre.length ((runTo bs ps pre).2.map (Value.int .i64))) := (World.ownsRow.kept HRW.out gr7 (by cases vv.ownBlock <;> simp)).kept gr8 vne
        have GR8 : Hid (W.grownBy W8 (some w4.heap.size)) := (grBut gr7 _).trans gr8
        have P8 : Hid (BoxAt W8 g1 0 (runTo bs ps (pre ++ [x])).1 ∧ (∀ o, W8.frozen? ⟨g1, o, none⟩ = false) ∧ g1 < W8.heap.size) := by
          have hlt : w4.heap.size < W.heap.size := by have := HKP.out.size; have := S6.out; omega
          have hne8 : some g1 ≠ some w4.heap.size := fun e => by injection e with e; omega
          exact ⟨hat7.grown gr8 hne8, fun o => by rw [frozen_grown hat7.1 gr8 hne8]; exact hf7 o, Nat.lt_of_lt_of_le hat7.1 gr8.size⟩
        have SZ8 : Hid (w6.heap.size ≤ W8.heap.size ∧ W.heap.size ≤ W8.heap.size) := ⟨Nat.le_trans HKP.out.size (Nat.le_trans gr7.size gr8.size), Nat.le_trans gr7.size gr8.size⟩
        have HW8 : Hid (W8 = _) := hW8
        have RW8' : Hid ((w7.setCell ⟨w4.heap.size, 0, none⟩ (.slice (some ⟨g1, 0, none⟩) 4 cap1)).ownsRow w6.heap.size 3 1 vv pre.length ((runTo bs ps pre).2.map (Value.int .i64))) := by show World.ownsRow _ _ _ _ _ _ _; rw [← hW8]; exact RW8.out
        have S8' : Hid (w6.heap.size ≤ w7.heap.size) := Nat.le_trans HKP.out.size gr7.size
        have CN8 : Hid (∀ j u, [Value.int .i64 vl][j]? = some u → ((w7.setCell ⟨w4.heap.size, 0, none⟩ (.slice (some ⟨g1, 0, none⟩) 4 cap1)).alloc (.cells #[.int .i64 vl] 3)).cell? ((⟨w7.heap.size, 0, none⟩ : Addr).add j) = some u) := by
          have h := cell_one_new (w7.setCell ⟨w4.heap.size, 0, none⟩ (.slice (some ⟨g1, 0, none⟩) 4 cap1)) (.int .i64 vl) 3
          rw [show (w7.setCell ⟨w4.heap.size, 0, none⟩ (.slice (some ⟨g1, 0, none⟩) 4 cap1)).heap.size = w7.heap.size by simp [World.setCell]] at h
          exact h
        have AFT : Hid (∀ w9, ((w7.setCell ⟨w4.heap.size, 0, none⟩ (.slice (some ⟨g1, 0, none⟩) 4 cap1)).alloc (.cells #[.int .i64 vl] 3)).grownBy w9 vv.ownBlock → Boxed w9 (w4.heap.size + 1) 48 vv) := fun w9 hg => by
          rw [← hW8] at hg
          exact (VX8.out.alloc _).kept hg (VX8.out.not_row (by decide) RW8.out)
        clear hc1 hg7 hat7 hf7 e7 hb7 gr7 gr8 hW8 BX7 VX7 vne
        gi_wp2_with (gi_at_builtin; refine wpListIn_append_own_at _ rfl _ _ 48 rfl w6.heap.size 3 i0 (.int .i64 0) 1 8 Try.underlying48 HI.out.1 HI.out.2.1 HI.out.2.2.1 HI.out.2.2.2 rfl (by decide) _ _ _ rfl (RW8'.out.alloc _) ⟨w7.heap.size, 0, none⟩ 1 1 [.int .i64 vl] rfl rfl CN8.out (by simp [Value.oneCell']) (by have := HPL.out; unfold maxLen; omega) (by have := HPL.out; omega) (by have := S8'.out; simp; omega) ?_; intro v' w9 hown' hgrow _ hat9; obtain ⟨g', cap', rfl⟩ := ownsRow_succ hown'; have VX9 := AFT.out _ hgrow; have hc9 := VX9.cell; have hf9 := VX9.frozen; have HGR : Hid _ := hgrow; have HOW : Hid _ := hown'; have HAT : Hid _ := hat9; clear VX9 hgrow hown' hat9)
        have hgrow := HGR.out
        have hown' := HOW.out
        have hat9 := HAT.out
        rw [← HW8.out] at hgrow hat9
        have s6 := S6.out
        have sz := SZ8.out
        have szk := HKP.out.size
        have vlt : ∀ b, vv.ownBlock = some b → w6.heap.size ≤ b ∧ b < W.heap.size := fun b h => World.ownsRow.lt HRW.out b h
        have p7 := P7.out
        have g'lt : w6.heap.size ≤ g' := (World.ownsRow.lt hown' g' rfl).1
        obtain ⟨_, hv2, _, hk2, _⟩ := Boxed.appended (n₀ := w4.heap.size + 1) VX8.out (by decide) (ownsRow_lower RW8.out (by omega)) (by omega) (Nat.le_refl _) (ownsRow_lower hown' (by omega)) hgrow
        have hr2 : (w9.setCell ⟨w4.heap.size + 1, 0, none⟩ (.slice (some ⟨g', 0, none⟩) (pre.length + 1) cap')).ownsRow w6.heap.size 3 1 (.slice (some ⟨g', 0, none⟩) (pre.length + 1) cap') (pre.length + 1) ((runTo bs ps pre).2.map (Value.int .i64) ++ [.int .i64 vl]) := World.ownsRow.kept hown' (grownBy_setCell' _ _ _) (.inr (fun e => by simp only [Value.ownBlock] at e; injection e with e; omega))
        have ga := World.grownBy_alloc W8 (.cells #[.int .i64 vl] 3) none
        have gs := grownBy_setCell' w9 (w4.heap.size + 1) (.slice (some ⟨g', 0, none⟩) (pre.length + 1) cap')
        have ne1 : some w4.heap.size ≠ vv.ownBlock := fun e => by have := vlt _ e.symm; omega
        have ne2 : some g1 ≠ vv.ownBlock := fun e => by have := vlt _ e.symm; omega
        have ne3 : some w4.heap.size ≠ some (w4.heap.size + 1) := fun e => by injection e with e; omega
        have ne4 : some g1 ≠ some (w4.heap.size + 1) := fun e => by injection e with e; omega
        have KB : KeepBut w6.heap.size [w4.heap.size, w4.heap.size + 1] W (w9.setCell ⟨w4.heap.size + 1, 0, none⟩ (.slice (some ⟨g', 0, none⟩) (pre.length + 1) cap')) := by
          have k1 := GR8.out
          refine ⟨by rw [gs.os, hgrow.os, ga.os, k1.os], by rw [gs.tape, hgrow.tape, ga.tape, k1.tape], by rw [gs.output, hgrow.output, ga.output, k1.output], Nat.le_trans (Nat.le_trans (Nat.le_trans k1.size ga.size) hgrow.size) gs.size, fun k hk hn => ?_⟩
          simp only [List.mem_cons, List.not_mem_nil, or_false, not_or] at hn
          have hkW : k < W.heap.size := by omega
          have hk8 : k < W8.heap.size := by omega
          have hka := Nat.lt_of_lt_of_le hk8 ga.size
          rw [gs.block k (Nat.lt_of_lt_of_le hka hgrow.size) (fun e => by injection e with e; omega), hgrow.block k hka (fun e => by have := vlt _ e.symm; omega), ga.block k hk8 (by simp), k1.block k hkW (fun e => by injection e with e; omega)]
        refine ⟨(KeepsFrom.of_grownBy GR8.out (fun j e => by injection e with e; omega)).trans (hk2.from _), KB, g1, cap1, _, ?_, p7.1, ⟨by have := B6.out.size; omega, by omega, by omega⟩, ?_, ?_, hv2, ?_, ?_, HKP.out.trans KB⟩
        · exact ((BX8.out.alloc _).kept hgrow ne1).kept gs ne3
        · exact ((P8.out.1.grown ga (by simp)).grown hgrow ne2).grown gs ne4
        · intro o
          have hb8 := P8.out.2.2
          have hba := Nat.lt_of_lt_of_le hb8 ga.size
          rw [frozen_grown (Nat.lt_of_lt_of_le hba hgrow.size) gs ne4, frozen_grown hba hgrow ne2, frozen_grown hb8 ga (by simp)]
          exact P8.out.2.1 o
        · rw [p7.2.2.2.2.1, List.map_append, List.length_append]
          exact hr2
        · intro e
          rcases hat9 with h | h
          · rw [h] at e; have := vlt _ e; omega
          · rw [h] at e; injection e with e; rw [size_new] at e; have := P8.out.2.2; omega
      case done =>
        rintro D ys W hD rfl hIn hK
        have R4 := runTo_four ps (List.range ps.length) HBO.out
        obtain ⟨g, cap, vv, hbx, hcap, ⟨hg1, hg2⟩, hat, hfr, hvx, hrow, hne, hkp⟩ := hIn
        have s6 := S6.out
        have szk := hkp.size
        have b4 := B4.out.size
        have BWW : Hid (Below w.heap.size w W) := B6.out.trans ⟨hkp.os, hkp.tape, hkp.output, hkp.size, fun k hk => hkp.block k (by omega) (by simp; omega)⟩
        have hneD : some g ≠ some D := fun e => by
          injection e with e
          subst e
          have c0 := (hat.2 0 (by rw [R4.2.1]; omega)).1
          simp [World.cell?, hK] at c0
        have gD := grownBy_putObj' W.drew D (.deferred none)
        have hat : BoxAt W.drew g 0 (runTo bs ps (List.range ps.length)).1 := hat
        have hfr : ∀ o, W.drew.frozen? ⟨g, o, none⟩ = false := hfr
        have hrow : W.drew.ownsRow w6.heap.size 3 1 vv (List.range ps.length).length ((runTo bs ps (List.range ps.length)).2.map (Value.int .i64)) := hrow
        have BWD : Below w.heap.size w W.drew := BWW.out.drew
        have hvD : vv.ownBlock = none ∨ vv.ownBlock ≠ some D := by
          rcases hrow.2 with ⟨rfl, _⟩ | ⟨gg, cc, cur, rfl, _, hgb, _⟩
          · exact .inl rfl
          · refine .inr fun e => ?_
            simp only [Value.ownBlock] at e
            injection e with e
            subst e
            rw [show W.heap[gg]? = _ from hgb] at hK; cases hK
        have FIN : Hid (SAPost (serialAll bs (progsOf ps)) w.heap.size (.returned (.tuple #[.slice (some ⟨g, 0, none⟩) 4 cap, vv])) (W.drew.putObj D (.deferred none)) ∧ Below w.heap.size w (W.drew.putObj D (.deferred none))) := by
          refine ⟨⟨some ⟨g, 0, none⟩, cap, vv, by rw [E.out, R4.2.1], by rw [E.out, R4.2.1]; exact hcap, .inr ⟨g, rfl, hg1, by rw [E.out]; exact hat.grown gD hneD, fun o => by rw [frozen_grown hat.1 gD hneD]; exact hfr o⟩, ?_, .inr fun g' e => by injection e with e; injection e with e; subst e; exact hne⟩, ?_⟩
          · have hr := ownsRow_lower (hrow.kept gD hvD) (show w.heap.size ≤ w6.heap.size by omega)
            show World.ownsRow _ _ _ _ _ _ _
            rw [E.out, R4.2.2]
            exact hr
          · exact BWD.grown gD (by have := BWD.size; omega) (fun k e => by injection e with e; omega)
        have hc1 := hbx.cell
        have hc2 := hvx.cell
        clear hat hfr hrow hkp hne R4 hcap
        gi_wp2
        gi_region
        all_goals
          gi_wp2
          refine ⟨by simp, .inl ⟨_, _, rfl, run_takeDeferred hK, ?_⟩⟩
          refine ⟨.tuple #[.slice (some ⟨g, 0, none⟩) 4 cap, vv], by simp [results, Try.results27, go_sem], ?_⟩
          exact FIN.out
      case stop =>
        rintro D c pre W _ _ h _
        exact h.elim
end Go.Proofs.Ytgcencilgpilaaa.Own

/-
  Own texts, bundled: SpecCopy.
-/
import Derived.Test.YtbecdihfopjlhaaGreatDoorPk10
import Derived.Test.YtbecdihfopjlhaaGreatDoorPk11
import Derived.Test.YtbecdihfopjlhaaGreatDoorPk14
import Derived.Test.YtbecdihfopjlhaaGreatDoorPk19
import Derived.Deep.RegionLaw
import Derived.Deep.RegionHeld
namespace Go.Proofs.YtbecdihfopjlhaaGreatDoor.Own
open Go.RowKit
set_option linter.unusedVariables false
set_option linter.unusedSimpArgs false

theorem grR' (w : World) (r : Option Nat) : w.grownBy w r := ⟨rfl, rfl, rfl, Nat.le_refl _, fun _ _ _ => rfl⟩
theorem flat4_one (xs : List Q4) : ∀ u ∈ flat4 xs, u.oneCell' = true := by
  intro u hu
  simp only [flat4, List.mem_flatMap] at hu
  obtain ⟨p, _, h⟩ := hu
  simp at h
  rcases h with rfl | rfl | rfl | rfl <;> rfl
theorem flat4_atO {w : World} {b off : Nat} {xs : List Q4} (h : At4 w b off xs) (j : Nat) (v : Value) (hv : (flat4 xs)[j]? = some v) : w.cell? ((⟨b, off, none⟩ : Addr).add j) = some v := by
  have hl := flat4_length xs
  have hj : j < (flat4 xs).length := by
    rcases Nat.lt_or_ge j (flat4 xs).length with h | h
    · exact h
    · rw [List.getElem?_eq_none h] at hv; cases hv
  have hk : j / 4 < xs.length := by omega
  have e1 := h.2 (j / 4) hk
  have e2 := flat4_get xs (j / 4) hk
  have ea : (⟨b, off, none⟩ : Addr).add j = ⟨b, off + j, none⟩ := by unfold Addr.add; split <;> simp_all
  rw [ea]
  rcases (by omega : j % 4 = 0 ∨ j % 4 = 1 ∨ j % 4 = 2 ∨ j % 4 = 3) with m | m | m | m
  · rw [show j = j / 4 * 4 by omega] at hv ⊢; rw [e2.1] at hv; rw [← hv]; exact e1.1
  · rw [show j = j / 4 * 4 + 1 by omega] at hv ⊢; rw [e2.2.1] at hv; rw [← hv]; exact e1.2.1
  · rw [show j = j / 4 * 4 + 2 by omega] at hv ⊢; rw [e2.2.2.1] at hv; rw [← hv]; exact e1.2.2.1
  · rw [show j = j / 4 * 4 + 3 by omega] at hv ⊢; rw [e2.2.2.2] at hv; rw [← hv]; exact e1.2.2.2
theorem boxAt_block {w w' : World} {b off : Nat} {xs : List P2} (h : BoxAt w b off xs) (hs : w.heap.size ≤ w'.heap.size) (hb : w'.heap[b]? = w.heap[b]?) : BoxAt w' b off xs := by
  have e : ∀ o, w'.cell? ⟨b, o, none⟩ = w.cell? ⟨b, o, none⟩ := fun o => World.cell?_of_block (w := w) (a := ⟨b, o, none⟩) hb
  exact ⟨Nat.lt_of_lt_of_le h.1 hs, fun i hi => by rw [e, e]; exact h.2 i hi⟩
set_option maxRecDepth 100000 in
/-- An append of whatever requests onto an empty row of one's own, at a step of a region that draws. -/
theorem step_append_dones {ops : Array Oper} {o : Oper} {a : Act} {V : World} {K : Act → World → Prop} {Q : Exit → Act → World → Prop} {E : Prop} (hgd : o.guard = none) (s x : Operand)
    (ho : o.op = .call { callee := .builtin .append, args := #[s, x], argTypes := #[26, 26] }) (B g0 : Nat) (hs : a.eval s = .slice (some ⟨g0, 0, none⟩) 0 0) (hown : OwnE V B (.slice (some ⟨g0, 0, none⟩) 0 0) [])
    (a2 : Option Addr) (c2 : Nat) (ds : List Q4) (hx : a.eval x = .slice a2 ds.length c2) (hsl : Sl4 V a2 ds) (hl : ds.length ≤ 1000) (hB : B ≤ V.heap.size)
    (h : ∀ gg cap w', OwnE w' B (.slice (some ⟨gg, 0, none⟩) ds.length cap) ds → V.grownBy w' (some g0) → (gg = g0 ∨ gg = V.heap.size) → gg < w'.heap.size → K (a.put o.dst (.slice (some ⟨gg, 0, none⟩) ds.length cap)) w') :
    if Region.wanted o (yielded ops a.tmps) = true then Oper.wp Tryz.prog o a V K Q else E := by
  obtain ⟨i0, hi, hz0, hz1, hz2⟩ := info_parts infoDone
  by_cases hd : ds = []
  · subst hd
    have lt := (hown.block ⟨g0, 0, none⟩ rfl).2
    exact step_append_none hgd s x _ ho 94 i0 Tryz.underlying26 hi ⟨g0, 0, none⟩ hs a2 c2 hx (h g0 0 V hown (grR' V _) (.inl rfl) lt)
  · have hpos : 0 < ds.length := List.length_pos_iff.2 hd
    rcases hsl with e | ⟨b2, o2, rfl, a4⟩
    · exact absurd e hd
    refine step_append_lies V hgd s x _ ho B 94 i0 _ 4 32 Tryz.underlying26 hi hz0 hz1 hz2 rfl (by omega) (.slice (some ⟨g0, 0, none⟩) 0 0) 0 [] hs hown ⟨b2, o2, none⟩ ds.length c2 (flat4 ds) hx (flat4_length ds) (flat4_atO a4) (flat4_one ds) hpos (by unfold maxLen; omega) (by omega) hB _ rfl ?_
    intro gg cap w' h1 h2 h3 h4
    rw [Nat.zero_add, List.nil_append] at h1
    rw [Nat.zero_add]
    refine h gg cap w' h1 h2 ?_ h4
    rcases h3 with h3 | h3
    · left
      simp only [Value.ownBlock] at h3
      injection h3 with h3
      exact h3.symm
    · exact .inr h3

/-- A state in block c, its lists of their own. -/
def CopyPost (z : Int) (bs : List P2) (ds : List Q4) (w : World) (c : Nat) (wx : World) : Prop :=
  ∃ g1 e1 g2 e2, Blk wx c #[.int .i64 z, .slice (some ⟨g1, 0, none⟩) 4 e1, .slice (some ⟨g2, 0, none⟩) ds.length e2] 28 ∧ StB bs ds w.heap.size wx (some ⟨g1, 0, none⟩) (some ⟨g2, 0, none⟩) ∧ 4 ≤ e1 ∧ ds.length ≤ e2 ∧ Below w.heap.size w wx

set_option maxHeartbeats 1000000 in
theorem l1CopyX (a : Option Addr) (c : Nat) (bs : List P2) (w : World) (h : Sl w a bs) (h4 : bs.length = 4) :
    Calls Tryz.prog 102 #[.slice a bs.length c] w fun e w' => ∃ g cap, e = .returned (.slice (some ⟨g, 0, none⟩) bs.length cap) ∧ bs.length ≤ cap ∧ w.heap.size ≤ g ∧ BoxAt w' g 0 bs ∧ (∀ o, w'.frozen? ⟨g, o, none⟩ = false) ∧ Below w.heap.size w w' := by
  rcases h with h | ⟨b, off, rfl, h⟩
  · subst h; simp at h4
  have A : Hid (BoxAt w b off bs) := h
  have L : Hid (bs.length = 4) := h4
  clear h h4
  obtain ⟨i0, hi, hz0, hz1, hz2⟩ := info_parts infoBoxO
  have I0 : Hid (Tryz.prog.info? 42 = some i0 ∧ i0.zero = some (.agg #[.int .i64 0, .int .i64 0]) ∧ i0.size = 2 ∧ i0.bytes = 16) := ⟨hi, hz0, hz1, hz2⟩
  clear hi hz0 hz1 hz2
  go_enter Tryz.func102, Tryz.ntmps102
  go_wp2_with (at_builtin; refine wpList_append_own _ rfl (.tmp 3) (.tmp 4) 25 rfl w.heap.size 42 i0 (.agg #[.int .i64 0, .int .i64 0]) 2 16 Tryz.underlying25 I0.out.1 I0.out.2.1 I0.out.2.2.1 I0.out.2.2.2 rfl (by decide) (.slice (some ⟨w.heap.size, 0, none⟩) 0 0) 0 [] rfl (own_empty w w.heap.size rfl) ⟨b, off, none⟩ bs.length c (flat bs) rfl (flat_length bs) (flat_atO (A.out.below ((Below.refl _ _).alloc (Nat.le_refl _) _))) (flat_one bs) (small_max (by rw [L.out]; omega)) (by rw [L.out]; omega) (by rw [size_new]; omega) ?_)
  intro v1 w6 hown hgr _
  obtain ⟨g1, cap1, rfl, hg1, hcap1, hat1, hfr1, hb6⟩ := grown_box rfl (by rw [L.out]; omega) hown hgr
  have F : Hid (bs.length ≤ cap1 ∧ w.heap.size ≤ g1 ∧ BoxAt w6 g1 0 bs ∧ (∀ o, w6.frozen? ⟨g1, o, none⟩ = false) ∧ Below w.heap.size w w6) := ⟨hcap1, hg1, hat1, hfr1, hb6⟩
  clear hown hgr hat1 hfr1 hb6 hg1 hcap1
  go_wp2
  go_ret
  exact ⟨g1, cap1, rfl, F.out⟩


/-- spec.l1Copy, with the bounds of its answer. -/
theorem l1CopyC (a : Option Addr) (c : Nat) (bs : List P2) (w : World) (h : Sl w a bs) (h4 : bs.length = 4) :
    Calls Tryz.prog 102 #[.slice a bs.length c] w fun e w' => ∃ g cap, e = .returned (.slice (some ⟨g, 0, none⟩) 4 cap) ∧ Hid (4 ≤ cap ∧ w.heap.size ≤ g ∧ g < w'.heap.size ∧ BoxAt w' g 0 bs ∧ (∀ o, w'.frozen? ⟨g, o, none⟩ = false) ∧ Below w.heap.size w w') :=
  (l1CopyX a c bs w h h4).mono fun e w' ⟨g, cap, he, hc, hg, hat, hfr, hb⟩ => ⟨g, cap, by rw [he, h4], by omega, hg, hat.1, hat, hfr, hb⟩

set_option maxRecDepth 100000 in
set_option maxHeartbeats 4000000 in
theorem specCopy (z : Int) (a1 a2 : Option Addr) (c1 c2 : Nat) (bs : List P2) (ds : List Q4) (w : World) (h1 : Sl w a1 bs) (h4 : bs.length = 4) (h2 : Sl4 w a2 ds) (hl : ds.length ≤ 1000) :
    Calls Tryz.prog 57 #[.agg #[.int .i64 z, .slice a1 bs.length c1, .slice a2 ds.length c2]] w fun e w' => ∃ g1 e1 g2 e2, e = .returned (.agg #[.int .i64 z, .slice (some ⟨g1, 0, none⟩) 4 e1, .slice (some ⟨g2, 0, none⟩) ds.length e2]) ∧ StB bs ds w.heap.size w' (some ⟨g1, 0, none⟩) (some ⟨g2, 0, none⟩) ∧ 4 ≤ e1 ∧ ds.length ≤ e2 ∧ Below w.heap.size w w' := by
  obtain ⟨W, hW⟩ : ∃ W, W = (w.alloc (.cells #[.int .i64 z, .slice a1 bs.length c1, .slice a2 ds.length c2] 28)).alloc (.cells #[.int .i64 0, .slice none 0 0, .slice none 0 0] 28) := ⟨_, rfl⟩
  have bW : Below w.heap.size w W := by rw [hW]; exact ((Below.refl _ _).alloc (Nat.le_refl _) _).alloc (by simp) _
  have BW : Hid (Below w.heap.size w W) := bW
  have PW : Hid (Blk W w.heap.size #[.int .i64 z, .slice a1 bs.length c1, .slice a2 ds.length c2] 28) := by show Blk _ _ _ _; rw [hW]; exact (Blk.new _ _ _).alloc _
  have ZW : Hid (Blk W (w.heap.size + 1) #[.int .i64 0, .slice none 0 0, .slice none 0 0] 28) := by show Blk _ _ _ _; rw [hW]; exact Blk.new2 _ _ _ _
  have SZ : Hid (W.heap.size = w.heap.size + 2) := by show _ = _; rw [hW]; simp
  have S1 : Hid (Sl W a1 bs) := h1.below bW
  have S2 : Hid (Sl4 W a2 ds) := h2.below bW
  have HW : Hid (W = _) := hW
  have H4 : Hid (bs.length = 4) := h4
  have CP : Hid (∀ V, Below W.heap.size W V → Calls Tryz.prog 102 #[.slice a1 bs.length c1] V fun e w' => ∃ g cap, e = .returned (.slice (some ⟨g, 0, none⟩) 4 cap) ∧ Hid (4 ≤ cap ∧ V.heap.size ≤ g ∧ g < w'.heap.size ∧ BoxAt w' g 0 bs ∧ (∀ o, w'.frozen? ⟨g, o, none⟩ = false) ∧ Below V.heap.size V w')) := fun V hV => by
    have := l1CopyC a1 c1 bs V (S1.out.below hV) h4
    exact this
  obtain ⟨i0, hi, hz0, hz1, hz2⟩ := info_parts infoDone
  have I0 : Hid (Tryz.prog.info? 94 = some i0 ∧ i0.zero = some (.agg #[.int .i64 0, .int .i64 0, .int .i64 0, .int .i64 0]) ∧ i0.size = 4 ∧ i0.bytes = 32) := ⟨hi, hz0, hz1, hz2⟩
  -- what there is wherever nothing but new blocks has come
  have AF : Hid (∀ V, Below W.heap.size W V → (V.cell? ⟨w.heap.size, 0, none⟩ = some (.int .i64 z) ∧ V.cell? ⟨w.heap.size, 1, none⟩ = some (.slice a1 bs.length c1) ∧ V.cell? ⟨w.heap.size, 2, none⟩ = some (.slice a2 ds.length c2)) ∧ (V.cell? ⟨w.heap.size + 1, 0, none⟩ = some (.int .i64 0) ∧ V.cell? ⟨w.heap.size + 1, 1, none⟩ = some (.slice none 0 0) ∧ V.cell? ⟨w.heap.size + 1, 2, none⟩ = some (.slice none 0 0)) ∧ (∀ o, V.frozen? ⟨w.heap.size + 1, o, none⟩ = false)) := fun V hV => ⟨(PW.out.keep hV).cells3, (ZW.out.keep hV).cells3, (ZW.out.keep hV).frozen⟩
  have FIN : Hid (∀ (L : World) (g1 e1 g2 e2 : Nat), Below W.heap.size W L → 4 ≤ e1 → BoxAt L g1 0 bs → (∀ o, L.frozen? ⟨g1, o, none⟩ = false) → W.heap.size ≤ g1 → OwnE L W.heap.size (.slice (some ⟨g2, 0, none⟩) ds.length e2) ds → g1 ≠ g2 →
      ∀ X, X = (((L.setCell ⟨w.heap.size + 1, 0, none⟩ (.int .i64 z)).setCell ⟨w.heap.size + 1, 1, none⟩ (.slice (some ⟨g1, 0, none⟩) 4 e1)).setCell ⟨w.heap.size + 1, 2, none⟩ (.slice (some ⟨g2, 0, none⟩) ds.length e2)) → CopyPost z bs ds w (w.heap.size + 1) X) := fun L g1 e1 g2 e2 hb he hat hfr hg ho hne X hX => by
    have sz := SZ.out
    have sl := hb.size
    have on : Only (w.heap.size + 1) L X := by rw [hX]; exact (((Only.refl _ _).setCell _).setCell _).setCell _
    have tu : Turned [w.heap.size + 1] L X := Turned.ofOnly on (by simp)
    have zb := ((((ZW.out.keep hb).set 0 (.int .i64 z)).set 1 (.slice (some ⟨g1, 0, none⟩) 4 e1)).set 2 (.slice (some ⟨g2, 0, none⟩) ds.length e2)).eq (C' := #[.int .i64 z, .slice (some ⟨g1, 0, none⟩) 4 e1, .slice (some ⟨g2, 0, none⟩) ds.length e2]) (by simp)
    have o2 := ho.block ⟨g2, 0, none⟩ rfl
    simp only at o2
    have os := on.size
    obtain ⟨a', c', ev, _, hcap⟩ := ho.open
    injection ev with _ _ ev
    refine ⟨g1, e1, g2, e2, by rw [hX]; exact zb, ⟨.inr ⟨g1, rfl, by omega, hat.turned tu (by simp; omega), fun o => ?_⟩, (ho.dones.turned tu (fun g' e => by injection e with e; injection e with e; simp; omega)).weaken (by omega), fun x y ex ey => ?_, fun x e => ?_, fun x e => ?_⟩, he, by omega, BW.out.trans ((hb.mono BW.out.size).trans (on.below (by omega)))⟩
    · rw [World.frozen?_of_block (w := L) (a := ⟨g1, o, none⟩) (tu.block g1 hat.1 (by simp; omega))]; exact hfr o
    · injection ex with ex; injection ex with ex
      injection ey with ey; injection ey with ey
      omega
    · injection e with e; subst e; have := hat.1; exact ⟨by show w.heap.size ≤ g1; omega, by show g1 < X.heap.size; omega⟩
    · injection e with e; subst e; exact ⟨by show w.heap.size ≤ g2; omega, by show g2 < X.heap.size; omega⟩
  have BD : Hid (Below W.heap.size W W.drew) := (Below.refl _ _).drew
  have BA : Hid (Below W.heap.size W (W.alloc (.cells #[] 94)).drew) := ((Below.refl _ _).alloc (Nat.le_refl _) _).drew
  have OA : Hid (OwnE ((W.alloc (.cells #[] 94)).drew) W.heap.size (.slice (some ⟨W.heap.size, 0, none⟩) 0 0) []) := own_emptyE W W.heap.size rfl
  have AD := AF.out _ BD.out
  have AA := AF.out _ BA.out
  obtain ⟨⟨p0, p1, p2⟩, ⟨z0, z1, z2⟩, fz⟩ := AF.out W (Below.refl _ _)
  obtain ⟨⟨pa0, pa1, pa2⟩, ⟨za0, za1, za2⟩, fa⟩ := AF.out (W.alloc (.cells #[] 94)) ((Below.refl _ _).alloc (Nat.le_refl _) _)
  clear h1 h2 hW bW hi hz0 hz1 hz2 h4 AD AA
  go_enter Tryz.func57, Tryz.ntmps57
  go_upto_region 1 with fail
  rw [← HW.out]
  go_cut [] from 3 to 12 (fun wx => CopyPost z bs ds w (w.heap.size + 1) wx)
  case first =>
    refine wp_region_held_drew (S := (fun w' : World => w'.cell? ⟨w.heap.size, 0, none⟩ = some (.int .i64 z) ∧ w'.cell? ⟨w.heap.size, 1, none⟩ = some (.slice a1 bs.length c1) ∧ w'.cell? ⟨w.heap.size, 2, none⟩ = some (.slice a2 ds.length c2))) (by kernel_rfl) ⟨p0, p1, p2⟩ (fun hHeld => ?_)
    refine wpAnyH_take (i := 0) (v := ?v0) rfl (by kernel_rfl) (by kernel_rfl) (by kernel_rfl) (fun _ _ _ h => h) (Or.inl ⟨by rfl, ?y0⟩) (by assumption) ?r0
    case y0 =>
      intro w' hSw
      try dsimp only at hSw
      go_simp
      try with_reducible rfl
    simp only [Act.put, List.getElem_toArray, List.getElem_cons_succ, List.getElem_cons_zero, List.setIfInBounds_toArray, List.set_cons_zero, List.set_cons_succ]
    refine wpAnyH_take (i := 1) (v := ?v1) rfl (by kernel_rfl) (by kernel_rfl) (by kernel_rfl) (fun _ _ _ h => h) (Or.inl ⟨by rfl, ?y1⟩) (by assumption) ?r1
    case y1 =>
      intro w' hSw
      try dsimp only at hSw
      go_simp
      try with_reducible rfl
    simp only [Act.put, List.getElem_toArray, List.getElem_cons_succ, List.getElem_cons_zero, List.setIfInBounds_toArray, List.set_cons_zero, List.set_cons_succ]
    refine wpAnyH_take (i := 2) (v := ?v2) rfl (by kernel_rfl) (by kernel_rfl) (by kernel_rfl) (fun _ _ _ h => h) (Or.inl ⟨by rfl, ?y2⟩) (by assumption) ?r2
    case y2 =>
      intro w' hSw
      try dsimp only at hSw
      go_simp
      try with_reducible rfl
    simp only [Act.put, List.getElem_toArray, List.getElem_cons_succ, List.getElem_cons_zero, List.setIfInBounds_toArray, List.set_cons_zero, List.set_cons_succ]
    refine wpAnyH_take (i := 3) (v := ?v3) rfl (by kernel_rfl) (by kernel_rfl) (by kernel_rfl) (fun _ _ _ h => h) (Or.inl ⟨by rfl, ?y3⟩) (by assumption) ?r3
    case y3 =>
      intro w' hSw
      try dsimp only at hSw
      go_simp
      try with_reducible rfl
    simp only [Act.put, List.getElem_toArray, List.getElem_cons_succ, List.getElem_cons_zero, List.setIfInBounds_toArray, List.set_cons_zero, List.set_cons_succ]
    refine wpAnyH_take (i := 6) (v := ?v6) rfl (by kernel_rfl) (by kernel_rfl) (by kernel_rfl) (fun _ _ _ h => h) (Or.inl ⟨by rfl, ?y6⟩) (by assumption) ?r6
    case y6 =>
      intro w' hSw
      try dsimp only at hSw
      go_simp
      try with_reducible rfl
    simp only [Act.put, List.getElem_toArray, List.getElem_cons_succ, List.getElem_cons_zero, List.setIfInBounds_toArray, List.set_cons_zero, List.set_cons_succ]
    refine wpAnyH_take (i := 7) (v := ?v7) rfl (by kernel_rfl) (by kernel_rfl) (by kernel_rfl) (fun _ _ _ h => h) (Or.inl ⟨by rfl, ?y7⟩) (by assumption) ?r7
    case y7 =>
      intro w' hSw
      try dsimp only at hSw
      go_simp
      try with_reducible rfl
    simp only [Act.put, List.getElem_toArray, List.getElem_cons_succ, List.getElem_cons_zero, List.setIfInBounds_toArray, List.set_cons_zero, List.set_cons_succ]
    refine wpAnyH_ready (rs := [4, 5]) (by kernel_rfl) (by simp) ?_
    refine AllReadyH.cons rfl (fun K hK => ?_) (AllReadyH.cons rfl (fun K hK => ?_) AllReadyH.nil)
    · -- the call first
      go_simp
      refine Calls.mono (CP.out _ BD.out) ?_
      rintro e w1 ⟨g1, cap1, rfl, F1⟩
      have B1 : Hid (Below W.heap.size W w1) := BD.out.trans (F1.out.2.2.2.2.2.mono BD.out.size)
      refine hK.out _ _ (AF.out w1 B1.out).1 (fun hH1 => ?_)
      clear hK K
      refine wpAnyH_ready (rs := [5]) (by kernel_rfl) (by simp) ?_
      refine AllReadyH.cons rfl (fun K hK => ?_) AllReadyH.nil
      have BW5 : Hid (Below W.heap.size W (w1.alloc (.cells #[] 94))) := B1.out.alloc B1.out.size _
      go_simp
      refine hK.out _ _ (AF.out _ BW5.out).1 (fun hH5 => ?_)
      clear hK K
      refine wpAnyH_ready (rs := [8]) (by kernel_rfl) (by simp) ?_
      refine AllReadyH.cons rfl (fun K hK => ?_) AllReadyH.nil
      refine step_append_dones (V := w1.alloc (.cells #[] 94)) (by rfl) _ _ (by rfl) W.heap.size w1.heap.size (by rfl) (OwnE.lower (own_emptyE w1 w1.heap.size rfl) B1.out.size) a2 c2 ds (by rfl) (S2.out.below BW5.out) hl BW5.out.size ?_
      intro gg cap w6 ho6 hgr hat hlt
      have O6 : Hid (OwnE w6 W.heap.size (.slice (some ⟨gg, 0, none⟩) ds.length cap) ds) := ho6
      have B6 : Hid (Below W.heap.size W w6) := BW5.out.grown hgr BW5.out.size (fun x hx => (by injection hx with hx; have := B1.out.size; omega))
      refine hK.out _ _ (AF.out w6 B6.out).1 (fun hH6 => ?_)
      clear hK K ho6
      have hbk : w6.heap[g1]? = w1.heap[g1]? := (hgr.block g1 (by rw [size_new]; have := F1.out.2.2.1; omega) (fun e => (by injection e with e; have := F1.out.2.2.1; omega))).trans (heap_old w1 _ g1 F1.out.2.2.1)
      have BX : Hid (BoxAt w6 g1 0 bs ∧ ∀ o, w6.frozen? ⟨g1, o, none⟩ = false) := ⟨boxAt_block F1.out.2.2.2.1 (by have h := hgr.size; first | exact h | (rw [size_new] at h; omega)) hbk, fun o => by rw [World.frozen?_of_block (w := w1) (a := ⟨g1, o, none⟩) hbk]; exact F1.out.2.2.2.2.1 o⟩
      have NE : Hid (g1 ≠ gg) := by show _ ≠ _; have := F1.out.2.2.1; rw [size_new] at hat; omega
      have GX : Hid (W.heap.size ≤ g1) := F1.out.2.1
      clear hbk hgr hat hlt
      refine wpAnyH_take (i := 9) (v := ?v91) rfl (by kernel_rfl) (by kernel_rfl) (by kernel_rfl) (fun _ _ _ h => h) (Or.inl ⟨by rfl, ?y91⟩) (by assumption) ?r91
      case y91 =>
        intro w' hSw
        try dsimp only at hSw
        go_simp
        try with_reducible rfl
      simp only [Act.put, List.getElem_toArray, List.getElem_cons_succ, List.getElem_cons_zero, List.setIfInBounds_toArray, List.set_cons_zero, List.set_cons_succ]
      refine wpAnyH_ready (rs := [10]) (by kernel_rfl) (by simp) ?_
      refine AllReadyH.cons rfl (fun K hK => ?_) AllReadyH.nil
      obtain ⟨hp, ⟨y0, y1, y2⟩, fy⟩ := AF.out w6 B6.out
      go_simp
      refine hK.out _ _ ?_ (fun hH10 => ?_)
      · have on : Only (w.heap.size + 1) w6 (((w6.setCell ⟨w.heap.size + 1, 0, none⟩ (.int .i64 z)).setCell ⟨w.heap.size + 1, 1, none⟩ (.slice (some ⟨g1, 0, none⟩) 4 cap1)).setCell ⟨w.heap.size + 1, 2, none⟩ (.slice (some ⟨gg, 0, none⟩) ds.length cap)) := (((Only.refl _ _).setCell _).setCell _).setCell _
        refine ⟨?_, ?_, ?_⟩
        · rw [on.cell (by simp)]; exact hp.1
        · rw [on.cell (by simp)]; exact hp.2.1
        · rw [on.cell (by simp)]; exact hp.2.2
      · refine wpAnyH_done (by kernel_rfl) ?_ _
        go_wp2_with fail
        go_meet
        exact FIN.out w6 g1 cap1 gg cap B6.out F1.out.1 BX.out.1 BX.out.2 GX.out O6.out NE.out _ rfl
    · -- the row first
      go_simp
      refine hK.out _ _ (AF.out _ BA.out).1 (fun hH5 => ?_)
      clear hK K
      refine wpAnyH_ready (rs := [4]) (by kernel_rfl) (by simp) ?_
      refine AllReadyH.cons rfl (fun K hK => ?_) AllReadyH.nil
      go_simp
      refine Calls.mono (CP.out _ BA.out) ?_
      rintro e w1 ⟨g1, cap1, rfl, F1⟩
      have B1 : Hid (Below W.heap.size W w1) := BA.out.trans (F1.out.2.2.2.2.2.mono BA.out.size)
      refine hK.out _ _ (AF.out w1 B1.out).1 (fun hH1 => ?_)
      clear hK K
      refine wpAnyH_ready (rs := [8]) (by kernel_rfl) (by simp) ?_
      refine AllReadyH.cons rfl (fun K hK => ?_) AllReadyH.nil
      refine step_append_dones (V := w1) (by rfl) _ _ (by rfl) W.heap.size W.heap.size (by rfl) (OwnE.keep OA.out F1.out.2.2.2.2.2) a2 c2 ds (by rfl) (S2.out.below B1.out) hl B1.out.size ?_
      intro gg cap w6 ho6 hgr hat hlt
      have O6 : Hid (OwnE w6 W.heap.size (.slice (some ⟨gg, 0, none⟩) ds.length cap) ds) := ho6
      have B6 : Hid (Below W.heap.size W w6) := B1.out.grown hgr B1.out.size (fun x hx => (by injection hx with hx; have := F1.out.2.2.1; omega))
      refine hK.out _ _ (AF.out w6 B6.out).1 (fun hH6 => ?_)
      clear hK K ho6
      have gs : W.heap.size + 1 ≤ g1 := by have := F1.out.2.1; simpa using this
      have hbk : w6.heap[g1]? = (w1).heap[g1]? := hgr.block g1 F1.out.2.2.1 (fun e => (by injection e with e; have := gs; omega))
      have BX : Hid (BoxAt w6 g1 0 bs ∧ ∀ o, w6.frozen? ⟨g1, o, none⟩ = false) := ⟨boxAt_block F1.out.2.2.2.1 (by have h := hgr.size; first | exact h | (rw [size_new] at h; omega)) hbk, fun o => by rw [World.frozen?_of_block (w := w1) (a := ⟨g1, o, none⟩) hbk]; exact F1.out.2.2.2.2.1 o⟩
      have NE : Hid (g1 ≠ gg) := by show _ ≠ _; have := F1.out.2.2.1; omega
      have GX : Hid (W.heap.size ≤ g1) := by show _ ≤ _; omega
      clear hbk hgr hat hlt gs
      refine wpAnyH_take (i := 9) (v := ?v92) rfl (by kernel_rfl) (by kernel_rfl) (by kernel_rfl) (fun _ _ _ h => h) (Or.inl ⟨by rfl, ?y92⟩) (by assumption) ?r92
      case y92 =>
        intro w' hSw
        try dsimp only at hSw
        go_simp
        try with_reducible rfl
      simp only [Act.put, List.getElem_toArray, List.getElem_cons_succ, List.getElem_cons_zero, List.setIfInBounds_toArray, List.set_cons_zero, List.set_cons_succ]
      refine wpAnyH_ready (rs := [10]) (by kernel_rfl) (by simp) ?_
      refine AllReadyH.cons rfl (fun K hK => ?_) AllReadyH.nil
      obtain ⟨hp, ⟨y0, y1, y2⟩, fy⟩ := AF.out w6 B6.out
      go_simp
      refine hK.out _ _ ?_ (fun hH10 => ?_)
      · have on : Only (w.heap.size + 1) w6 (((w6.setCell ⟨w.heap.size + 1, 0, none⟩ (.int .i64 z)).setCell ⟨w.heap.size + 1, 1, none⟩ (.slice (some ⟨g1, 0, none⟩) 4 cap1)).setCell ⟨w.heap.size + 1, 2, none⟩ (.slice (some ⟨gg, 0, none⟩) ds.length cap)) := (((Only.refl _ _).setCell _).setCell _).setCell _
        refine ⟨?_, ?_, ?_⟩
        · rw [on.cell (by simp)]; exact hp.1
        · rw [on.cell (by simp)]; exact hp.2.1
        · rw [on.cell (by simp)]; exact hp.2.2
      · refine wpAnyH_done (by kernel_rfl) ?_ _
        go_wp2_with fail
        go_meet
        exact FIN.out w6 g1 cap1 gg cap B6.out F1.out.1 BX.out.1 BX.out.2 GX.out O6.out NE.out _ rfl
  case rest =>
    obtain ⟨g1, e1, g2, e2, hblk, hst, he1, he2, hb⟩ := hcut
    obtain ⟨c0, c1', c2'⟩ := hblk.cells3
    have F : Hid (StB bs ds w.heap.size wc (some ⟨g1, 0, none⟩) (some ⟨g2, 0, none⟩) ∧ Below w.heap.size w wc) := ⟨hst, hb⟩
    clear hblk hst hb p0 p1 p2 z0 z1 z2 pa0 pa1 pa2 za0 za1 za2 fz fa
    go_wp2_with fail
    refine bodyPost_ret (v := .agg #[.int .i64 z, .slice (some ⟨g1, 0, none⟩) 4 e1, .slice (some ⟨g2, 0, none⟩) ds.length e2]) (by simp [results, Tryz.results57, go_sem, c0, c1', c2']) rfl ?_
    exact ⟨g1, e1, g2, e2, rfl, F.out.1, he1, he2, F.out.2⟩
end Go.Proofs.YtbecdihfopjlhaaGreatDoor.Own

/-
  Own texts, bundled: L3Copy, L5Entry, Over8, VoteCopy, OwnL.
-/
import Derived.Test.YtbbbfnfpmaogoaaPk3
import Derived.Deep.Cut
import Derived.Deep.CutRange
namespace Go.Proofs.Ytbbbfnfpmaogoaa.Own
open Go.RowKit
set_option linter.unusedVariables false
set_option linter.unusedSimpArgs false

/-- A copied run's two lists: of their own, from block B on, apart. -/
structure RunE (w : World) (B g1 e1 g2 e2 : Nat) (xs ys : List P2) : Prop where
  l1 : OwnB w B (some ⟨g1, 0, none⟩) xs
  l2 : OwnB w B (some ⟨g2, 0, none⟩) ys
  c1 : xs.length ≤ e1
  c2 : ys.length ≤ e2
  b1 : B ≤ g1 ∧ g1 < w.heap.size
  b2 : B ≤ g2 ∧ g2 < w.heap.size
  ne : g1 ≠ g2
theorem RunE.blk {w w' : World} {B g1 e1 g2 e2 : Nat} {xs ys : List P2} (h : RunE w B g1 e1 g2 e2 xs ys) (hs : w.heap.size ≤ w'.heap.size) (h1 : w'.heap[g1]? = w.heap[g1]?) (h2 : w'.heap[g2]? = w.heap[g2]?) : RunE w' B g1 e1 g2 e2 xs ys := by
  have f : ∀ (g : Nat) (zs : List P2), OwnB w B (some ⟨g, 0, none⟩) zs → w'.heap[g]? = w.heap[g]? → OwnB w' B (some ⟨g, 0, none⟩) zs := fun g zs h e => by
    rcases h with h | ⟨g', eg, hB, h, hf⟩
    · exact .inl h
    · injection eg with eg
      injection eg with eg
      subst eg
      exact .inr ⟨g, rfl, hB, h.block hs e, fun o => by rw [World.frozen?_of_block (w := w) (a := ⟨g, o, none⟩) e]; exact hf o⟩
  exact ⟨f _ _ h.l1 h1, f _ _ h.l2 h2, h.c1, h.c2, ⟨h.b1.1, Nat.lt_of_lt_of_le h.b1.2 hs⟩, ⟨h.b2.1, Nat.lt_of_lt_of_le h.b2.2 hs⟩, h.ne⟩
theorem RunE.weaken {w : World} {B B' g1 e1 g2 e2 : Nat} {xs ys : List P2} (h : RunE w B g1 e1 g2 e2 xs ys) (hB : B' ≤ B) : RunE w B' g1 e1 g2 e2 xs ys :=
  ⟨h.l1.weaken hB, h.l2.weaken hB, h.c1, h.c2, ⟨Nat.le_trans hB h.b1.1, h.b1.2⟩, ⟨Nat.le_trans hB h.b2.1, h.b2.2⟩, h.ne⟩
/-- As a vote's lists. -/
theorem RunE.one {w : World} {B g1 e1 g2 e2 : Nat} {b : EB} (h : RunE w B g1 e1 g2 e2 b.xs b.ys) (z : Int) : OneOwn w B ⟨z, b, some ⟨g1, 0, none⟩, e1, some ⟨g2, 0, none⟩, e2⟩ := by
  have k : ∀ (g n b' : Nat), blkOf (some ⟨g, 0, none⟩) n = some b' → b' = g := fun g n b' e => by
    unfold blkOf at e
    split at e
    · cases e
    · simpa using e.symm
  refine ⟨h.l1, h.l2, h.c1, h.c2, fun b' e => ?_, fun b' e => ?_, fun b' e e2 => ?_⟩
  · rw [k _ _ _ e]; exact h.b1
  · rw [k _ _ _ e]; exact h.b2
  · have := k _ _ _ e
    have := k _ _ _ e2
    exact h.ne (by omega)

def L3Post (v k : Int) (xs ys : List P2) (w : World) (c : Nat) (wx : World) : Prop :=
  ∃ g1 e1 g2 e2, Blk wx c #[.slice (some ⟨g1, 0, none⟩) xs.length e1, .slice (some ⟨g2, 0, none⟩) ys.length e2, .int .i64 v, .int .i64 k] 32 ∧ RunE wx w.heap.size g1 e1 g2 e2 xs ys ∧ Below w.heap.size w wx

set_option maxRecDepth 100000 in
set_option maxHeartbeats 4000000 in
theorem l3Copy (a1 a2 : Option Addr) (c1 c2 : Nat) (xs ys : List P2) (v k : Int) (w : World) (h1 : Sl w a1 xs) (h2 : Sl w a2 ys) (n1 : xs.length ≤ 2 ^ 40) (n2 : ys.length ≤ 2 ^ 40) :
    Calls Try.prog 138 #[.agg #[.slice a1 xs.length c1, .slice a2 ys.length c2, .int .i64 v, .int .i64 k]] w fun e w' => ∃ g1 e1 g2 e2, e = .returned (.agg #[.slice (some ⟨g1, 0, none⟩) xs.length e1, .slice (some ⟨g2, 0, none⟩) ys.length e2, .int .i64 v, .int .i64 k]) ∧ RunE w' w.heap.size g1 e1 g2 e2 xs ys ∧ Below w.heap.size w w' := by
  obtain ⟨W, hW⟩ : ∃ W, W = (w.alloc (.cells #[.slice a1 xs.length c1, .slice a2 ys.length c2, .int .i64 v, .int .i64 k] 32)).alloc (.cells #[.slice none 0 0, .slice none 0 0, .int .i64 0, .int .i64 0] 32) := ⟨_, rfl⟩
  have bW : Below w.heap.size w W := by rw [hW]; exact ((Below.refl _ _).alloc (Nat.le_refl _) _).alloc (by simp) _
  have BW : Hid (Below w.heap.size w W) := bW
  have PW : Hid (Blk W w.heap.size #[.slice a1 xs.length c1, .slice a2 ys.length c2, .int .i64 v, .int .i64 k] 32) := by show Blk _ _ _ _; rw [hW]; exact (Blk.new _ _ _).alloc _
  have ZW : Hid (Blk W (w.heap.size + 1) #[.slice none 0 0, .slice none 0 0, .int .i64 0, .int .i64 0] 32) := by show Blk _ _ _ _; rw [hW]; exact Blk.new2 _ _ _ _
  have SZ : Hid (W.heap.size = w.heap.size + 2) := by show _ = _; rw [hW]; simp
  have S1 : Hid (Sl W a1 xs) := h1.below bW
  have S2 : Hid (Sl W a2 ys) := h2.below bW
  have HW : Hid (W = _) := hW
  have AF : Hid (∀ V, Below W.heap.size W V → (V.cell? ⟨w.heap.size, 0, none⟩ = some (.slice a1 xs.length c1) ∧ V.cell? ⟨w.heap.size, 1, none⟩ = some (.slice a2 ys.length c2) ∧ V.cell? ⟨w.heap.size, 2, none⟩ = some (.int .i64 v) ∧ V.cell? ⟨w.heap.size, 3, none⟩ = some (.int .i64 k)) ∧ (V.cell? ⟨w.heap.size + 1, 0, none⟩ = some (.slice none 0 0) ∧ V.cell? ⟨w.heap.size + 1, 1, none⟩ = some (.slice none 0 0) ∧ V.cell? ⟨w.heap.size + 1, 2, none⟩ = some (.int .i64 0) ∧ V.cell? ⟨w.heap.size + 1, 3, none⟩ = some (.int .i64 0)) ∧ (∀ o, V.frozen? ⟨w.heap.size + 1, o, none⟩ = false)) := fun V hV => ⟨(PW.out.keep hV).cells4, (ZW.out.keep hV).cells4, (ZW.out.keep hV).frozen⟩
  have FIN : Hid (∀ (L : World) (g1 e1 g2 e2 : Nat), Below W.heap.size W L → RowE 160 L W.heap.size g1 e1 xs → RowE 162 L W.heap.size g2 e2 ys → g1 ≠ g2 →
      ∀ X, X = ((((L.setCell ⟨w.heap.size + 1, 0, none⟩ (.slice (some ⟨g1, 0, none⟩) xs.length e1)).setCell ⟨w.heap.size + 1, 1, none⟩ (.slice (some ⟨g2, 0, none⟩) ys.length e2)).setCell ⟨w.heap.size + 1, 2, none⟩ (.int .i64 v)).setCell ⟨w.heap.size + 1, 3, none⟩ (.int .i64 k)) → L3Post v k xs ys w (w.heap.size + 1) X) := fun L g1 e1 g2 e2 hb r1 r2 hne X hX => by
    have sz := SZ.out
    have sl := hb.size
    have on : Only (w.heap.size + 1) L X := by rw [hX]; exact ((((Only.refl _ _).setCell _).setCell _).setCell _).setCell _
    have tu : Turned [w.heap.size + 1] L X := Turned.ofOnly on (by simp)
    have zb := (((((ZW.out.keep hb).set 0 (.slice (some ⟨g1, 0, none⟩) xs.length e1)).set 1 (.slice (some ⟨g2, 0, none⟩) ys.length e2)).set 2 (.int .i64 v)).set 3 (.int .i64 k)).eq (C' := #[.slice (some ⟨g1, 0, none⟩) xs.length e1, .slice (some ⟨g2, 0, none⟩) ys.length e2, .int .i64 v, .int .i64 k]) (by simp)
    have os := on.size
    have t1 := r1.lt
    have t2 := r2.lt
    have o1 := r1.ownB
    have o2 := r2.ownB
    exact ⟨g1, e1, g2, e2, by rw [hX]; exact zb, (RunE.blk (w := L) ⟨o1.1, o2.1, o1.2, o2.2, t1, t2, hne⟩ (Nat.le_of_eq os.symm) (on.block g1 (by omega)) (on.block g2 (by omega))).weaken (by omega), BW.out.trans ((hb.mono BW.out.size).trans (on.below (by omega)))⟩
  obtain ⟨V, hV⟩ : ∃ V, V = W.drew := ⟨_, rfl⟩
  have HV : Hid (V = W.drew) := hV
  have BV : Hid (Below W.heap.size W V) := by show Below _ _ _; rw [hV]; exact (Below.refl _ _).drew
  obtain ⟨⟨p0, p1, p2, p3⟩, ⟨z0, z1, z2, z3⟩, fz⟩ := AF.out W (Below.refl _ _)
  have pv := (AF.out V BV.out).1
  clear h1 h2 hW bW hV
  go_enter Try.func138, Try.ntmps138
  go_upto_region 1 with fail
  rw [← HW.out]
  go_cut [] from 3 to 16 (fun wx => L3Post v k xs ys w (w.heap.size + 1) wx)
  case first =>
    refine wp_region_held_drew (S := (fun w' : World => w'.cell? ⟨w.heap.size, 0, none⟩ = some (.slice a1 xs.length c1) ∧ w'.cell? ⟨w.heap.size, 1, none⟩ = some (.slice a2 ys.length c2) ∧ w'.cell? ⟨w.heap.size, 2, none⟩ = some (.int .i64 v) ∧ w'.cell? ⟨w.heap.size, 3, none⟩ = some (.int .i64 k))) (by kernel_rfl) ⟨p0, p1, p2, p3⟩ (fun hHeld => ?_)
    rw [← HV.out]
    refine wpAnyH_take (i := 1) (v := ?v1) rfl (by kernel_rfl) (by kernel_rfl) (by kernel_rfl) (fun _ _ _ h => h) (Or.inl ⟨by rfl, ?y1⟩) (by assumption) ?r1
    case y1 =>
      intro w' hSw
      try dsimp only at hSw
      go_simp
      try with_reducible rfl
    simp only [Act.put, List.getElem_toArray, List.getElem_cons_succ, List.getElem_cons_zero, List.setIfInBounds_toArray, List.set_cons_zero, List.set_cons_succ]
    refine wpAnyH_take (i := 2) (v := ?v2) rfl (by kernel_rfl) (by kernel_rfl) (by kernel_rfl) (fun _ _ _ h => h) (Or.inl ⟨by rfl, ?y2⟩) (by assumption) ?r2
    case y2 =>
      intro w' hSw
      try dsimp only at hSw
      go_simp
      try with_reducible rfl
    simp only [Act.put, List.getElem_toArray, List.getElem_cons_succ, List.getElem_cons_zero, List.setIfInBounds_toArray, List.set_cons_zero, List.set_cons_succ]
    refine wpAnyH_take (i := 5) (v := ?v5) rfl (by kernel_rfl) (by kernel_rfl) (by kernel_rfl) (fun _ _ _ h => h) (Or.inl ⟨by rfl, ?y5⟩) (by assumption) ?r5
    case y5 =>
      intro w' hSw
      try dsimp only at hSw
      go_simp
      try with_reducible rfl
    simp only [Act.put, List.getElem_toArray, List.getElem_cons_succ, List.getElem_cons_zero, List.setIfInBounds_toArray, List.set_cons_zero, List.set_cons_succ]
    refine wpAnyH_take (i := 6) (v := ?v6) rfl (by kernel_rfl) (by kernel_rfl) (by kernel_rfl) (fun _ _ _ h => h) (Or.inl ⟨by rfl, ?y6⟩) (by assumption) ?r6
    case y6 =>
      intro w' hSw
      try dsimp only at hSw
      go_simp
      try with_reducible rfl
    simp only [Act.put, List.getElem_toArray, List.getElem_cons_succ, List.getElem_cons_zero, List.setIfInBounds_toArray, List.set_cons_zero, List.set_cons_succ]
    refine wpAnyH_take (i := 8) (v := ?v8) rfl (by kernel_rfl) (by kernel_rfl) (by kernel_rfl) (fun _ _ _ h => h) (Or.inl ⟨by rfl, ?y8⟩) (by assumption) ?r8
    case y8 =>
      intro w' hSw
      try dsimp only at hSw
      go_simp
      try with_reducible rfl
    simp only [Act.put, List.getElem_toArray, List.getElem_cons_succ, List.getElem_cons_zero, List.setIfInBounds_toArray, List.set_cons_zero, List.set_cons_succ]
    refine wpAnyH_take (i := 9) (v := ?v9) rfl (by kernel_rfl) (by kernel_rfl) (by kernel_rfl) (fun _ _ _ h => h) (Or.inl ⟨by rfl, ?y9⟩) (by assumption) ?r9
    case y9 =>
      intro w' hSw
      try dsimp only at hSw
      go_simp
      try with_reducible rfl
    simp only [Act.put, List.getElem_toArray, List.getElem_cons_succ, List.getElem_cons_zero, List.setIfInBounds_toArray, List.set_cons_zero, List.set_cons_succ]
    refine wpAnyH_take (i := 10) (v := ?v10) rfl (by kernel_rfl) (by kernel_rfl) (by kernel_rfl) (fun _ _ _ h => h) (Or.inl ⟨by rfl, ?y10⟩) (by assumption) ?r10
    case y10 =>
      intro w' hSw
      try dsimp only at hSw
      go_simp
      try with_reducible rfl
    simp only [Act.put, List.getElem_toArray, List.getElem_cons_succ, List.getElem_cons_zero, List.setIfInBounds_toArray, List.set_cons_zero, List.set_cons_succ]
    refine wpAnyH_take (i := 11) (v := ?v11) rfl (by kernel_rfl) (by kernel_rfl) (by kernel_rfl) (fun _ _ _ h => h) (Or.inl ⟨by rfl, ?y11⟩) (by assumption) ?r11
    case y11 =>
      intro w' hSw
      try dsimp only at hSw
      go_simp
      try with_reducible rfl
    simp only [Act.put, List.getElem_toArray, List.getElem_cons_succ, List.getElem_cons_zero, List.setIfInBounds_toArray, List.set_cons_zero, List.set_cons_succ]
    refine wpAnyH_ready (rs := [0, 4]) (by kernel_rfl) (by simp) ?_
    refine AllReadyH.cons rfl (fun K hK => ?_) (AllReadyH.cons rfl (fun K hK => ?_) AllReadyH.nil)
    · skip
      obtain ⟨WA, hWA⟩ : ∃ V', V' = V.alloc (.cells #[] 160) := ⟨_, rfl⟩
      have BWA : Hid (Below W.heap.size W WA) := by show Below _ _ _; rw [hWA]; exact BV.out.alloc BV.out.size _
      have R1WA : Hid (RowE 160 WA W.heap.size V.heap.size 0 []) := by show RowE _ _ _ _ _ _; rw [hWA]; exact RowE.empty _ _ _ BV.out.size
      go_simp
      rw [← hWA]
      refine hK.out _ _ (AF.out _ BWA.out).1 (fun hHWA => ?_)
      clear hK K hWA
      refine wpAnyH_ready (rs := [3, 4]) (by kernel_rfl) (by simp) ?_
      refine AllReadyH.cons rfl (fun K hK => ?_) (AllReadyH.cons rfl (fun K hK => ?_) AllReadyH.nil)
      · skip
        refine step_append_rowE (V := WA) (by rfl) _ _ 160 29 Try.underlying29 infoReadC (by rfl) W.heap.size V.heap.size (by rfl) R1WA.out a1 c1 xs (by rfl) (S1.out.below BWA.out) n1 BWA.out.size ?_
        intro g1Aa e1Aa WAa ro_ gr_ at_
        have BWAa : Hid (Below W.heap.size W WAa) := BWA.out.grown gr_ BWA.out.size (fun x hx => by injection hx with hx; have := R1WA.out.lt.1; omega)
        have R1WAa : Hid (RowE 160 WAa W.heap.size g1Aa e1Aa xs) := ro_
        refine hK.out _ _ (AF.out WAa BWAa.out).1 (fun hHWAa => ?_)
        clear hK K ro_ gr_ at_
        refine wpAnyH_ready (rs := [4]) (by kernel_rfl) (by simp) ?_
        refine AllReadyH.cons rfl (fun K hK => ?_) AllReadyH.nil
        obtain ⟨WAaB, hWAaB⟩ : ∃ V', V' = WAa.alloc (.cells #[] 162) := ⟨_, rfl⟩
        have BWAaB : Hid (Below W.heap.size W WAaB) := by show Below _ _ _; rw [hWAaB]; exact BWAa.out.alloc BWAa.out.size _
        have R2WAaB : Hid (RowE 162 WAaB W.heap.size WAa.heap.size 0 []) := by show RowE _ _ _ _ _ _; rw [hWAaB]; exact RowE.empty _ _ _ BWAa.out.size
        have R1WAaB : Hid (RowE 160 WAaB W.heap.size g1Aa e1Aa xs) := by show RowE _ _ _ _ _ _; rw [hWAaB]; exact R1WAa.out.keep (heap_old _ _ _ R1WAa.out.lt.2)
        have NEWAaB : Hid (g1Aa ≠ WAa.heap.size) := by show _ ≠ _; have := R1WAa.out.lt.2; omega
        go_simp
        rw [← hWAaB]
        refine hK.out _ _ (AF.out _ BWAaB.out).1 (fun hHWAaB => ?_)
        clear hK K hWAaB
        refine wpAnyH_ready (rs := [7]) (by kernel_rfl) (by simp) ?_
        refine AllReadyH.cons rfl (fun K hK => ?_) AllReadyH.nil
        refine step_append_rowE (V := WAaB) (by rfl) _ _ 162 30 Try.underlying30 infoPutC (by rfl) W.heap.size WAa.heap.size (by rfl) R2WAaB.out a2 c2 ys (by rfl) (S2.out.below BWAaB.out) n2 BWAaB.out.size ?_
        intro g2AaBb e2AaBb WAaBb ro_ gr_ at_
        have BWAaBb : Hid (Below W.heap.size W WAaBb) := BWAaB.out.grown gr_ BWAaB.out.size (fun x hx => by injection hx with hx; have := R2WAaB.out.lt.1; omega)
        have R2WAaBb : Hid (RowE 162 WAaBb W.heap.size g2AaBb e2AaBb ys) := ro_
        have R1WAaBb : Hid (RowE 160 WAaBb W.heap.size g1Aa e1Aa xs) := R1WAaB.out.keep (gr_.block _ R1WAaB.out.lt.2 (fun x => by injection x with x; exact NEWAaB.out x))
        have NEWAaBb : Hid (g1Aa ≠ g2AaBb) := by show _ ≠ _; have := R1WAaB.out.lt.2; have := NEWAaB.out; omega
        refine hK.out _ _ (AF.out WAaBb BWAaBb.out).1 (fun hHWAaBb => ?_)
        clear hK K ro_ gr_ at_
        refine wpAnyH_take (i := 12) (v := ?vfin1) rfl (by kernel_rfl) (by kernel_rfl) (by kernel_rfl) (fun _ _ _ h => h) (Or.inl ⟨by rfl, ?yfin1⟩) (by assumption) ?rfin1
        case yfin1 =>
          intro w' hSw
          try dsimp only at hSw
          go_simp
          try with_reducible rfl
        simp only [Act.put, List.getElem_toArray, List.getElem_cons_succ, List.getElem_cons_zero, List.setIfInBounds_toArray, List.set_cons_zero, List.set_cons_succ]
        refine wpAnyH_ready (rs := [13]) (by kernel_rfl) (by simp) ?_
        refine AllReadyH.cons rfl (fun K hK => ?_) AllReadyH.nil
        obtain ⟨hp, ⟨y0, y1, y2, y3⟩, fy⟩ := AF.out WAaBb BWAaBb.out
        go_simp
        refine hK.out _ _ ?_ (fun hHx => ?_)
        · have on : Only (w.heap.size + 1) WAaBb ((((WAaBb.setCell ⟨w.heap.size + 1, 0, none⟩ (.slice (some ⟨g1Aa, 0, none⟩) xs.length e1Aa)).setCell ⟨w.heap.size + 1, 1, none⟩ (.slice (some ⟨g2AaBb, 0, none⟩) ys.length e2AaBb)).setCell ⟨w.heap.size + 1, 2, none⟩ (.int .i64 v)).setCell ⟨w.heap.size + 1, 3, none⟩ (.int .i64 k)) := ((((Only.refl _ _).setCell _).setCell _).setCell _).setCell _
          refine ⟨?_, ?_, ?_, ?_⟩
          · rw [on.cell (by simp)]; exact hp.1
          · rw [on.cell (by simp)]; exact hp.2.1
          · rw [on.cell (by simp)]; exact hp.2.2.1
          · rw [on.cell (by simp)]; exact hp.2.2.2
        · refine wpAnyH_done (by kernel_rfl) ?_ _
          go_wp2_with fail
          go_meet
          exact FIN.out WAaBb g1Aa e1Aa g2AaBb e2AaBb BWAaBb.out R1WAaBb.out R2WAaBb.out NEWAaBb.out _ rfl
      · skip
        obtain ⟨WAB, hWAB⟩ : ∃ V', V' = WA.alloc (.cells #[] 162) := ⟨_, rfl⟩
        have BWAB : Hid (Below W.heap.size W WAB) := by show Below _ _ _; rw [hWAB]; exact BWA.out.alloc BWA.out.size _
        have R2WAB : Hid (RowE 162 WAB W.heap.size WA.heap.size 0 []) := by show RowE _ _ _ _ _ _; rw [hWAB]; exact RowE.empty _ _ _ BWA.out.size
        have R1WAB : Hid (RowE 160 WAB W.heap.size V.heap.size 0 []) := by show RowE _ _ _ _ _ _; rw [hWAB]; exact R1WA.out.keep (heap_old _ _ _ R1WA.out.lt.2)
        have NEWAB : Hid (V.heap.size ≠ WA.heap.size) := by show _ ≠ _; have := R1WA.out.lt.2; omega
        go_simp
        rw [← hWAB]
        refine hK.out _ _ (AF.out _ BWAB.out).1 (fun hHWAB => ?_)
        clear hK K hWAB
        refine wpAnyH_ready (rs := [3]) (by kernel_rfl) (by simp) ?_
        refine AllReadyH.cons rfl (fun K hK => ?_) AllReadyH.nil
        refine step_append_rowE (V := WAB) (by rfl) _ _ 160 29 Try.underlying29 infoReadC (by rfl) W.heap.size V.heap.size (by rfl) R1WAB.out a1 c1 xs (by rfl) (S1.out.below BWAB.out) n1 BWAB.out.size ?_
        intro g1ABa e1ABa WABa ro_ gr_ at_
        have BWABa : Hid (Below W.heap.size W WABa) := BWAB.out.grown gr_ BWAB.out.size (fun x hx => by injection hx with hx; have := R1WAB.out.lt.1; omega)
        have R1WABa : Hid (RowE 160 WABa W.heap.size g1ABa e1ABa xs) := ro_
        have R2WABa : Hid (RowE 162 WABa W.heap.size WA.heap.size 0 []) := R2WAB.out.keep (gr_.block _ R2WAB.out.lt.2 (fun x => by injection x with x; exact NEWAB.out x.symm))
        have NEWABa : Hid (g1ABa ≠ WA.heap.size) := by show _ ≠ _; have := R2WAB.out.lt.2; have := NEWAB.out; omega
        refine hK.out _ _ (AF.out WABa BWABa.out).1 (fun hHWABa => ?_)
        clear hK K ro_ gr_ at_
        refine wpAnyH_ready (rs := [7]) (by kernel_rfl) (by simp) ?_
        refine AllReadyH.cons rfl (fun K hK => ?_) AllReadyH.nil
        refine step_append_rowE (V := WABa) (by rfl) _ _ 162 30 Try.underlying30 infoPutC (by rfl) W.heap.size WA.heap.size (by rfl) R2WABa.out a2 c2 ys (by rfl) (S2.out.below BWABa.out) n2 BWABa.out.size ?_
        intro g2ABab e2ABab WABab ro_ gr_ at_
        have BWABab : Hid (Below W.heap.size W WABab) := BWABa.out.grown gr_ BWABa.out.size (fun x hx => by injection hx with hx; have := R2WABa.out.lt.1; omega)
        have R2WABab : Hid (RowE 162 WABab W.heap.size g2ABab e2ABab ys) := ro_
        have R1WABab : Hid (RowE 160 WABab W.heap.size g1ABa e1ABa xs) := R1WABa.out.keep (gr_.block _ R1WABa.out.lt.2 (fun x => by injection x with x; exact NEWABa.out x))
        have NEWABab : Hid (g1ABa ≠ g2ABab) := by show _ ≠ _; have := R1WABa.out.lt.2; have := NEWABa.out; omega
        refine hK.out _ _ (AF.out WABab BWABab.out).1 (fun hHWABab => ?_)
        clear hK K ro_ gr_ at_
        refine wpAnyH_take (i := 12) (v := ?vfin2) rfl (by kernel_rfl) (by kernel_rfl) (by kernel_rfl) (fun _ _ _ h => h) (Or.inl ⟨by rfl, ?yfin2⟩) (by assumption) ?rfin2
        case yfin2 =>
          intro w' hSw
          try dsimp only at hSw
          go_simp
          try with_reducible rfl
        simp only [Act.put, List.getElem_toArray, List.getElem_cons_succ, List.getElem_cons_zero, List.setIfInBounds_toArray, List.set_cons_zero, List.set_cons_succ]
        refine wpAnyH_ready (rs := [13]) (by kernel_rfl) (by simp) ?_
        refine AllReadyH.cons rfl (fun K hK => ?_) AllReadyH.nil
        obtain ⟨hp, ⟨y0, y1, y2, y3⟩, fy⟩ := AF.out WABab BWABab.out
        go_simp
        refine hK.out _ _ ?_ (fun hHx => ?_)
        · have on : Only (w.heap.size + 1) WABab ((((WABab.setCell ⟨w.heap.size + 1, 0, none⟩ (.slice (some ⟨g1ABa, 0, none⟩) xs.length e1ABa)).setCell ⟨w.heap.size + 1, 1, none⟩ (.slice (some ⟨g2ABab, 0, none⟩) ys.length e2ABab)).setCell ⟨w.heap.size + 1, 2, none⟩ (.int .i64 v)).setCell ⟨w.heap.size + 1, 3, none⟩ (.int .i64 k)) := ((((Only.refl _ _).setCell _).setCell _).setCell _).setCell _
          refine ⟨?_, ?_, ?_, ?_⟩
          · rw [on.cell (by simp)]; exact hp.1
          · rw [on.cell (by simp)]; exact hp.2.1
          · rw [on.cell (by simp)]; exact hp.2.2.1
          · rw [on.cell (by simp)]; exact hp.2.2.2
        · refine wpAnyH_done (by kernel_rfl) ?_ _
          go_wp2_with fail
          go_meet
          exact FIN.out WABab g1ABa e1ABa g2ABab e2ABab BWABab.out R1WABab.out R2WABab.out NEWABab.out _ rfl
    · skip
      obtain ⟨WB, hWB⟩ : ∃ V', V' = V.alloc (.cells #[] 162) := ⟨_, rfl⟩
      have BWB : Hid (Below W.heap.size W WB) := by show Below _ _ _; rw [hWB]; exact BV.out.alloc BV.out.size _
      have R2WB : Hid (RowE 162 WB W.heap.size V.heap.size 0 []) := by show RowE _ _ _ _ _ _; rw [hWB]; exact RowE.empty _ _ _ BV.out.size
      go_simp
      rw [← hWB]
      refine hK.out _ _ (AF.out _ BWB.out).1 (fun hHWB => ?_)
      clear hK K hWB
      refine wpAnyH_ready (rs := [0]) (by kernel_rfl) (by simp) ?_
      refine AllReadyH.cons rfl (fun K hK => ?_) AllReadyH.nil
      obtain ⟨WBA, hWBA⟩ : ∃ V', V' = WB.alloc (.cells #[] 160) := ⟨_, rfl⟩
      have BWBA : Hid (Below W.heap.size W WBA) := by show Below _ _ _; rw [hWBA]; exact BWB.out.alloc BWB.out.size _
      have R1WBA : Hid (RowE 160 WBA W.heap.size WB.heap.size 0 []) := by show RowE _ _ _ _ _ _; rw [hWBA]; exact RowE.empty _ _ _ BWB.out.size
      have R2WBA : Hid (RowE 162 WBA W.heap.size V.heap.size 0 []) := by show RowE _ _ _ _ _ _; rw [hWBA]; exact R2WB.out.keep (heap_old _ _ _ R2WB.out.lt.2)
      have NEWBA : Hid (WB.heap.size ≠ V.heap.size) := by show _ ≠ _; have := R2WB.out.lt.2; omega
      go_simp
      rw [← hWBA]
      refine hK.out _ _ (AF.out _ BWBA.out).1 (fun hHWBA => ?_)
      clear hK K hWBA
      refine wpAnyH_ready (rs := [3]) (by kernel_rfl) (by simp) ?_
      refine AllReadyH.cons rfl (fun K hK => ?_) AllReadyH.nil
      refine step_append_rowE (V := WBA) (by rfl) _ _ 160 29 Try.underlying29 infoReadC (by rfl) W.heap.size WB.heap.size (by rfl) R1WBA.out a1 c1 xs (by rfl) (S1.out.below BWBA.out) n1 BWBA.out.size ?_
      intro g1BAa e1BAa WBAa ro_ gr_ at_
      have BWBAa : Hid (Below W.heap.size W WBAa) := BWBA.out.grown gr_ BWBA.out.size (fun x hx => by injection hx with hx; have := R1WBA.out.lt.1; omega)
      have R1WBAa : Hid (RowE 160 WBAa W.heap.size g1BAa e1BAa xs) := ro_
      have R2WBAa : Hid (RowE 162 WBAa W.heap.size V.heap.size 0 []) := R2WBA.out.keep (gr_.block _ R2WBA.out.lt.2 (fun x => by injection x with x; exact NEWBA.out x.symm))
      have NEWBAa : Hid (g1BAa ≠ V.heap.size) := by show _ ≠ _; have := R2WBA.out.lt.2; have := NEWBA.out; omega
      refine hK.out _ _ (AF.out WBAa BWBAa.out).1 (fun hHWBAa => ?_)
      clear hK K ro_ gr_ at_
      refine wpAnyH_ready (rs := [7]) (by kernel_rfl) (by simp) ?_
      refine AllReadyH.cons rfl (fun K hK => ?_) AllReadyH.nil
      refine step_append_rowE (V := WBAa) (by rfl) _ _ 162 30 Try.underlying30 infoPutC (by rfl) W.heap.size V.heap.size (by rfl) R2WBAa.out a2 c2 ys (by rfl) (S2.out.below BWBAa.out) n2 BWBAa.out.size ?_
      intro g2BAab e2BAab WBAab ro_ gr_ at_
      have BWBAab : Hid (Below W.heap.size W WBAab) := BWBAa.out.grown gr_ BWBAa.out.size (fun x hx => by injection hx with hx; have := R2WBAa.out.lt.1; omega)
      have R2WBAab : Hid (RowE 162 WBAab W.heap.size g2BAab e2BAab ys) := ro_
      have R1WBAab : Hid (RowE 160 WBAab W.heap.size g1BAa e1BAa xs) := R1WBAa.out.keep (gr_.block _ R1WBAa.out.lt.2 (fun x => by injection x with x; exact NEWBAa.out x))
      have NEWBAab : Hid (g1BAa ≠ g2BAab) := by show _ ≠ _; have := R1WBAa.out.lt.2; have := NEWBAa.out; omega
      refine hK.out _ _ (AF.out WBAab BWBAab.out).1 (fun hHWBAab => ?_)
      clear hK K ro_ gr_ at_
      refine wpAnyH_take (i := 12) (v := ?vfin3) rfl (by kernel_rfl) (by kernel_rfl) (by kernel_rfl) (fun _ _ _ h => h) (Or.inl ⟨by rfl, ?yfin3⟩) (by assumption) ?rfin3
      case yfin3 =>
        intro w' hSw
        try dsimp only at hSw
        go_simp
        try with_reducible rfl
      simp only [Act.put, List.getElem_toArray, List.getElem_cons_succ, List.getElem_cons_zero, List.setIfInBounds_toArray, List.set_cons_zero, List.set_cons_succ]
      refine wpAnyH_ready (rs := [13]) (by kernel_rfl) (by simp) ?_
      refine AllReadyH.cons rfl (fun K hK => ?_) AllReadyH.nil
      obtain ⟨hp, ⟨y0, y1, y2, y3⟩, fy⟩ := AF.out WBAab BWBAab.out
      go_simp
      refine hK.out _ _ ?_ (fun hHx => ?_)
      · have on : Only (w.heap.size + 1) WBAab ((((WBAab.setCell ⟨w.heap.size + 1, 0, none⟩ (.slice (some ⟨g1BAa, 0, none⟩) xs.length e1BAa)).setCell ⟨w.heap.size + 1, 1, none⟩ (.slice (some ⟨g2BAab, 0, none⟩) ys.length e2BAab)).setCell ⟨w.heap.size + 1, 2, none⟩ (.int .i64 v)).setCell ⟨w.heap.size + 1, 3, none⟩ (.int .i64 k)) := ((((Only.refl _ _).setCell _).setCell _).setCell _).setCell _
        refine ⟨?_, ?_, ?_, ?_⟩
        · rw [on.cell (by simp)]; exact hp.1
        · rw [on.cell (by simp)]; exact hp.2.1
        · rw [on.cell (by simp)]; exact hp.2.2.1
        · rw [on.cell (by simp)]; exact hp.2.2.2
      · refine wpAnyH_done (by kernel_rfl) ?_ _
        go_wp2_with fail
        go_meet
        exact FIN.out WBAab g1BAa e1BAa g2BAab e2BAab BWBAab.out R1WBAab.out R2WBAab.out NEWBAab.out _ rfl
  case rest =>
    obtain ⟨g1, e1, g2, e2, hblk, hst, hb⟩ := hcut
    obtain ⟨d0, d1, d2, d3⟩ := hblk.cells4
    have F : Hid (RunE wc w.heap.size g1 e1 g2 e2 xs ys ∧ Below w.heap.size w wc) := ⟨hst, hb⟩
    clear hblk hst hb p0 p1 p2 p3 z0 z1 z2 z3 fz
    go_wp2_with fail
    refine bodyPost_ret (v := .agg #[.slice (some ⟨g1, 0, none⟩) xs.length e1, .slice (some ⟨g2, 0, none⟩) ys.length e2, .int .i64 v, .int .i64 k]) (by simp [results, Try.results138, go_sem, d0, d1, d2, d3]) rfl ?_
    exact ⟨g1, e1, g2, e2, rfl, F.out.1, F.out.2⟩
end Go.Proofs.Ytbbbfnfpmaogoaa.Own

namespace Go.Proofs.Ytbbbfnfpmaogoaa.Own
open Go.RowKit
set_option linter.unusedVariables false
set_option linter.unusedSimpArgs false

def L5Post (n : Bool) (p q : Int) (xs ys : List P2) (v k : Int) (w : World) (c : Nat) (wx : World) : Prop :=
  ∃ g1 e1 g2 e2, Blk wx c #[.bool n, .int .i64 p, .int .i64 q, .slice (some ⟨g1, 0, none⟩) xs.length e1, .slice (some ⟨g2, 0, none⟩) ys.length e2, .int .i64 v, .int .i64 k] 34 ∧ RunE wx w.heap.size g1 e1 g2 e2 xs ys ∧ Below w.heap.size w wx

set_option maxRecDepth 100000 in
set_option maxHeartbeats 4000000 in
theorem l5EntryX (n : Bool) (p q : Int) (a1 a2 : Option Addr) (c1 c2 : Nat) (xs ys : List P2) (v k : Int) (w : World) (h1 : Sl w a1 xs) (h2 : Sl w a2 ys) (n1 : xs.length ≤ 2 ^ 40) (n2 : ys.length ≤ 2 ^ 40) :
    Calls Try.prog 118 #[.agg #[.bool n, .int .i64 p, .int .i64 q, .slice a1 xs.length c1, .slice a2 ys.length c2, .int .i64 v, .int .i64 k]] w fun e w' => ∃ g1 e1 g2 e2, e = .returned (.agg #[.bool n, .int .i64 p, .int .i64 q, .slice (some ⟨g1, 0, none⟩) xs.length e1, .slice (some ⟨g2, 0, none⟩) ys.length e2, .int .i64 v, .int .i64 k]) ∧ RunE w' w.heap.size g1 e1 g2 e2 xs ys ∧ Below w.heap.size w w' := by
  obtain ⟨W, hW⟩ : ∃ W, W = (w.alloc (.cells #[.bool n, .int .i64 p, .int .i64 q, .slice a1 xs.length c1, .slice a2 ys.length c2, .int .i64 v, .int .i64 k] 34)).alloc (.cells #[.bool false, .int .i64 0, .int .i64 0, .slice none 0 0, .slice none 0 0, .int .i64 0, .int .i64 0] 34) := ⟨_, rfl⟩
  have bW : Below w.heap.size w W := by rw [hW]; exact ((Below.refl _ _).alloc (Nat.le_refl _) _).alloc (by simp) _
  have BW : Hid (Below w.heap.size w W) := bW
  have PW : Hid (Blk W w.heap.size #[.bool n, .int .i64 p, .int .i64 q, .slice a1 xs.length c1, .slice a2 ys.length c2, .int .i64 v, .int .i64 k] 34) := by show Blk _ _ _ _; rw [hW]; exact (Blk.new _ _ _).alloc _
  have ZW : Hid (Blk W (w.heap.size + 1) #[.bool false, .int .i64 0, .int .i64 0, .slice none 0 0, .slice none 0 0, .int .i64 0, .int .i64 0] 34) := by show Blk _ _ _ _; rw [hW]; exact Blk.new2 _ _ _ _
  have SZ : Hid (W.heap.size = w.heap.size + 2) := by show _ = _; rw [hW]; simp
  have S1 : Hid (Sl W a1 xs) := h1.below bW
  have S2 : Hid (Sl W a2 ys) := h2.below bW
  have HW : Hid (W = _) := hW
  have CP : Hid (∀ V, Below W.heap.size W V → Calls Try.prog 138 #[.agg #[.slice a1 xs.length c1, .slice a2 ys.length c2, .int .i64 v, .int .i64 k]] V fun e w' => ∃ g1 e1 g2 e2, e = .returned (.agg #[.slice (some ⟨g1, 0, none⟩) xs.length e1, .slice (some ⟨g2, 0, none⟩) ys.length e2, .int .i64 v, .int .i64 k]) ∧ RunE w' V.heap.size g1 e1 g2 e2 xs ys ∧ Below V.heap.size V w') := fun V hV => l3Copy a1 a2 c1 c2 xs ys v k V (S1.out.below hV) (S2.out.below hV) n1 n2
  have AF : Hid (∀ V, Below W.heap.size W V → (V.cell? ⟨w.heap.size, 0, none⟩ = some (.bool n) ∧ V.cell? ⟨w.heap.size, 1, none⟩ = some (.int .i64 p) ∧ V.cell? ⟨w.heap.size, 2, none⟩ = some (.int .i64 q) ∧ V.cell? ⟨w.heap.size, 3, none⟩ = some (.slice a1 xs.length c1) ∧ V.cell? ⟨w.heap.size, 4, none⟩ = some (.slice a2 ys.length c2) ∧ V.cell? ⟨w.heap.size, 5, none⟩ = some (.int .i64 v) ∧ V.cell? ⟨w.heap.size, 6, none⟩ = some (.int .i64 k)) ∧ (V.cell? ⟨w.heap.size + 1, 0, none⟩ = some (.bool false) ∧ V.cell? ⟨w.heap.size + 1, 1, none⟩ = some (.int .i64 0) ∧ V.cell? ⟨w.heap.size + 1, 2, none⟩ = some (.int .i64 0) ∧ V.cell? ⟨w.heap.size + 1, 3, none⟩ = some (.slice none 0 0) ∧ V.cell? ⟨w.heap.size + 1, 4, none⟩ = some (.slice none 0 0) ∧ V.cell? ⟨w.heap.size + 1, 5, none⟩ = some (.int .i64 0) ∧ V.cell? ⟨w.heap.size + 1, 6, none⟩ = some (.int .i64 0)) ∧ (∀ o, V.frozen? ⟨w.heap.size + 1, o, none⟩ = false)) := fun V hV => ⟨(PW.out.keep hV).cells7, (ZW.out.keep hV).cells7, (ZW.out.keep hV).frozen⟩
  have FIN : Hid (∀ (L : World) (g1 e1 g2 e2 : Nat), Below W.heap.size W L → RunE L W.heap.size g1 e1 g2 e2 xs ys →
      ∀ X, X = (((((((L.setCell ⟨w.heap.size + 1, 0, none⟩ (.bool n)).setCell ⟨w.heap.size + 1, 1, none⟩ (.int .i64 p)).setCell ⟨w.heap.size + 1, 2, none⟩ (.int .i64 q)).setCell ⟨w.heap.size + 1, 3, none⟩ (.slice (some ⟨g1, 0, none⟩) xs.length e1)).setCell ⟨w.heap.size + 1, 4, none⟩ (.slice (some ⟨g2, 0, none⟩) ys.length e2)).setCell ⟨w.heap.size + 1, 5, none⟩ (.int .i64 v)).setCell ⟨w.heap.size + 1, 6, none⟩ (.int .i64 k)) → L5Post n p q xs ys v k w (w.heap.size + 1) X) := fun L g1 e1 g2 e2 hb r1 X hX => by
    have sz := SZ.out
    have sl := hb.size
    have on : Only (w.heap.size + 1) L X := by rw [hX]; exact (((((((Only.refl _ _).setCell _).setCell _).setCell _).setCell _).setCell _).setCell _).setCell _
    have zb := ((((((((ZW.out.keep hb).set 0 (.bool n)).set 1 (.int .i64 p)).set 2 (.int .i64 q)).set 3 (.slice (some ⟨g1, 0, none⟩) xs.length e1)).set 4 (.slice (some ⟨g2, 0, none⟩) ys.length e2)).set 5 (.int .i64 v)).set 6 (.int .i64 k)).eq (C' := #[.bool n, .int .i64 p, .int .i64 q, .slice (some ⟨g1, 0, none⟩) xs.length e1, .slice (some ⟨g2, 0, none⟩) ys.length e2, .int .i64 v, .int .i64 k]) (by simp)
    have os := on.size
    have t1 := r1.b1
    have t2 := r1.b2
    exact ⟨g1, e1, g2, e2, by rw [hX]; exact zb, (r1.blk (Nat.le_of_eq os.symm) (on.block g1 (by omega)) (on.block g2 (by omega))).weaken (by omega), BW.out.trans ((hb.mono BW.out.size).trans (on.below (by omega)))⟩
  obtain ⟨V, hV⟩ : ∃ V, V = W.drew := ⟨_, rfl⟩
  have HV : Hid (V = W.drew) := hV
  have BV : Hid (Below W.heap.size W V) := by show Below _ _ _; rw [hV]; exact (Below.refl _ _).drew
  obtain ⟨⟨p0, p1, p2, p3, p4, p5, p6⟩, ⟨z0, z1, z2, z3, z4, z5, z6⟩, fz⟩ := AF.out W (Below.refl _ _)
  have pv := (AF.out V BV.out).1
  clear h1 h2 hW bW hV
  go_enter Try.func118, Try.ntmps118
  go_upto_region 1 with fail
  rw [← HW.out]
  go_cut [] from 3 to 11 (fun wx => L5Post n p q xs ys v k w (w.heap.size + 1) wx)
  case first =>
    refine wp_region_held_drew (S := (fun w' : World => w'.cell? ⟨w.heap.size, 0, none⟩ = some (.bool n) ∧ w'.cell? ⟨w.heap.size, 1, none⟩ = some (.int .i64 p) ∧ w'.cell? ⟨w.heap.size, 2, none⟩ = some (.int .i64 q) ∧ w'.cell? ⟨w.heap.size, 3, none⟩ = some (.slice a1 xs.length c1) ∧ w'.cell? ⟨w.heap.size, 4, none⟩ = some (.slice a2 ys.length c2) ∧ w'.cell? ⟨w.heap.size, 5, none⟩ = some (.int .i64 v) ∧ w'.cell? ⟨w.heap.size, 6, none⟩ = some (.int .i64 k))) (by kernel_rfl) ⟨p0, p1, p2, p3, p4, p5, p6⟩ (fun hHeld => ?_)
    rw [← HV.out]
    refine wpAnyH_take (i := 0) (v := ?v0) rfl (by kernel_rfl) (by kernel_rfl) (by kernel_rfl) (fun _ _ _ h => h) (Or.inl ⟨by rfl, ?y0⟩) (by assumption) ?r0
    case y0 =>
      intro w' hSw
      try dsimp only at hSw
      go_simp
      try with_reducible rfl
    simp only [Act.put, List.getElem_toArray, List.getElem_cons_succ, List.getElem_cons_zero, List.setIfInBounds_toArray, List.set_cons_zero, List.set_cons_succ]
    refine wpAnyH_take (i := 1) (v := ?v1) rfl (by kernel_rfl) (by kernel_rfl) (by kernel_rfl) (fun _ _ _ h => h) (Or.inl ⟨by rfl, ?y1⟩) (by assumption) ?r1
    case y1 =>
      intro w' hSw
      try dsimp only at hSw
      go_simp
      try with_reducible rfl
    simp only [Act.put, List.getElem_toArray, List.getElem_cons_succ, List.getElem_cons_zero, List.setIfInBounds_toArray, List.set_cons_zero, List.set_cons_succ]
    refine wpAnyH_take (i := 2) (v := ?v2) rfl (by kernel_rfl) (by kernel_rfl) (by kernel_rfl) (fun _ _ _ h => h) (Or.inl ⟨by rfl, ?y2⟩) (by assumption) ?r2
    case y2 =>
      intro w' hSw
      try dsimp only at hSw
      go_simp
      try with_reducible rfl
    simp only [Act.put, List.getElem_toArray, List.getElem_cons_succ, List.getElem_cons_zero, List.setIfInBounds_toArray, List.set_cons_zero, List.set_cons_succ]
    refine wpAnyH_take (i := 3) (v := ?v3) rfl (by kernel_rfl) (by kernel_rfl) (by kernel_rfl) (fun _ _ _ h => h) (Or.inl ⟨by rfl, ?y3⟩) (by assumption) ?r3
    case y3 =>
      intro w' hSw
      try dsimp only at hSw
      go_simp
      try with_reducible rfl
    simp only [Act.put, List.getElem_toArray, List.getElem_cons_succ, List.getElem_cons_zero, List.setIfInBounds_toArray, List.set_cons_zero, List.set_cons_succ]
    refine wpAnyH_take (i := 4) (v := ?v4) rfl (by kernel_rfl) (by kernel_rfl) (by kernel_rfl) (fun _ _ _ h => h) (Or.inl ⟨by rfl, ?y4⟩) (by assumption) ?r4
    case y4 =>
      intro w' hSw
      try dsimp only at hSw
      go_simp
      try with_reducible rfl
    simp only [Act.put, List.getElem_toArray, List.getElem_cons_succ, List.getElem_cons_zero, List.setIfInBounds_toArray, List.set_cons_zero, List.set_cons_succ]
    refine wpAnyH_take (i := 5) (v := ?v5) rfl (by kernel_rfl) (by kernel_rfl) (by kernel_rfl) (fun _ _ _ h => h) (Or.inl ⟨by rfl, ?y5⟩) (by assumption) ?r5
    case y5 =>
      intro w' hSw
      try dsimp only at hSw
      go_simp
      try with_reducible rfl
    simp only [Act.put, List.getElem_toArray, List.getElem_cons_succ, List.getElem_cons_zero, List.setIfInBounds_toArray, List.set_cons_zero, List.set_cons_succ]
    refine wpAnyH_ready (rs := [6]) (by kernel_rfl) (by simp) ?_
    refine AllReadyH.cons rfl (fun K hK => ?_) AllReadyH.nil
    go_simp
    refine Calls.mono (CP.out _ BV.out) ?_
    rintro e w1 ⟨g1, e1, g2, e2, rfl, r1, hb⟩
    have B1 : Hid (Below W.heap.size W w1) := BV.out.trans (hb.mono BV.out.size)
    have R1 : Hid (RunE w1 W.heap.size g1 e1 g2 e2 xs ys) := r1.weaken BV.out.size
    refine hK.out _ _ (AF.out w1 B1.out).1 (fun hH1 => ?_)
    clear hK K r1 hb
    refine wpAnyH_take (i := 7) (v := ?v7) rfl (by kernel_rfl) (by kernel_rfl) (by kernel_rfl) (fun _ _ _ h => h) (Or.inl ⟨by rfl, ?y7⟩) (by assumption) ?r7
    case y7 =>
      intro w' hSw
      try dsimp only at hSw
      go_simp
      try with_reducible rfl
    simp only [Act.put, List.getElem_toArray, List.getElem_cons_succ, List.getElem_cons_zero, List.setIfInBounds_toArray, List.set_cons_zero, List.set_cons_succ]
    refine wpAnyH_ready (rs := [8]) (by kernel_rfl) (by simp) ?_
    refine AllReadyH.cons rfl (fun K hK => ?_) AllReadyH.nil
    obtain ⟨hp, ⟨y0, y1, y2, y3, y4, y5, y6⟩, fy⟩ := AF.out w1 B1.out
    go_simp
    refine hK.out _ _ ?_ (fun hHx => ?_)
    · have on : Only (w.heap.size + 1) w1 (((((((w1.setCell ⟨w.heap.size + 1, 0, none⟩ (.bool n)).setCell ⟨w.heap.size + 1, 1, none⟩ (.int .i64 p)).setCell ⟨w.heap.size + 1, 2, none⟩ (.int .i64 q)).setCell ⟨w.heap.size + 1, 3, none⟩ (.slice (some ⟨g1, 0, none⟩) xs.length e1)).setCell ⟨w.heap.size + 1, 4, none⟩ (.slice (some ⟨g2, 0, none⟩) ys.length e2)).setCell ⟨w.heap.size + 1, 5, none⟩ (.int .i64 v)).setCell ⟨w.heap.size + 1, 6, none⟩ (.int .i64 k)) := (((((((Only.refl _ _).setCell _).setCell _).setCell _).setCell _).setCell _).setCell _).setCell _
      refine ⟨?_, ?_, ?_, ?_, ?_, ?_, ?_⟩
      · rw [on.cell (by simp)]; exact hp.1
      · rw [on.cell (by simp)]; exact hp.2.1
      · rw [on.cell (by simp)]; exact hp.2.2.1
      · rw [on.cell (by simp)]; exact hp.2.2.2.1
      · rw [on.cell (by simp)]; exact hp.2.2.2.2.1
      · rw [on.cell (by simp)]; exact hp.2.2.2.2.2.1
      · rw [on.cell (by simp)]; exact hp.2.2.2.2.2.2
    · refine wpAnyH_done (by kernel_rfl) ?_ _
      go_wp2_with fail
      go_meet
      exact FIN.out w1 g1 e1 g2 e2 B1.out R1.out _ rfl
  case rest =>
    obtain ⟨g1, e1, g2, e2, hblk, hst, hb⟩ := hcut
    obtain ⟨d0, d1, d2, d3, d4, d5, d6⟩ := hblk.cells7
    have F : Hid (RunE wc w.heap.size g1 e1 g2 e2 xs ys ∧ Below w.heap.size w wc) := ⟨hst, hb⟩
    clear hblk hst hb p0 p1 p2 p3 p4 p5 p6 z0 z1 z2 z3 z4 z5 z6 fz pv
    go_wp2_with fail
    refine bodyPost_ret (v := .agg #[.bool n, .int .i64 p, .int .i64 q, .slice (some ⟨g1, 0, none⟩) xs.length e1, .slice (some ⟨g2, 0, none⟩) ys.length e2, .int .i64 v, .int .i64 k]) (by simp [results, Try.results118, go_sem, d0, d1, d2, d3, d4, d5, d6]) rfl ?_
    exact ⟨g1, e1, g2, e2, rfl, F.out.1, F.out.2⟩
/-- In one form: an entry that can be read, copied. -/
theorem l5Entry (x : VM) (w : World) (h1 : Sl w x.a1 x.b.xs) (h2 : Sl w x.a2 x.b.ys) (k1 : x.b.xs.length ≤ 2 ^ 40) (k2 : x.b.ys.length ≤ 2 ^ 40) :
    Calls Try.prog 118 #[.agg x.ecells] w fun e w' => ∃ y : VM, e = .returned (.agg y.ecells) ∧ y.body = x.body ∧ OneOwn w' w.heap.size y ∧ Below w.heap.size w w' :=
  (l5EntryX x.b.n x.b.p x.b.q x.a1 x.a2 x.c1 x.c2 x.b.xs x.b.ys x.b.v x.b.k w h1 h2 k1 k2).mono fun e w' ⟨g1, e1, g2, e2, he, hr, hb⟩ =>
    ⟨⟨x.bal, x.b, some ⟨g1, 0, none⟩, e1, some ⟨g2, 0, none⟩, e2⟩, he, rfl, hr.one x.bal, hb⟩
end Go.Proofs.Ytbbbfnfpmaogoaa.Own

namespace Go.Proofs.Ytbbbfnfpmaogoaa.Own
open Go.RowKit
set_option linter.unusedVariables false
set_option linter.unusedSimpArgs false

/-- A vote stored in a block of its own. -/
def over8 (w : World) (b : Nat) (x : VM) : World := (((((((w.setCell ⟨b, 0, none⟩ (.int .i64 x.bal)).setCell ⟨b, 1, none⟩ (.bool x.b.n)).setCell ⟨b, 2, none⟩ (.int .i64 x.b.p)).setCell ⟨b, 3, none⟩ (.int .i64 x.b.q)).setCell ⟨b, 4, none⟩ (.slice x.a1 x.b.xs.length x.c1)).setCell ⟨b, 5, none⟩ (.slice x.a2 x.b.ys.length x.c2)).setCell ⟨b, 6, none⟩ (.int .i64 x.b.v)).setCell ⟨b, 7, none⟩ (.int .i64 x.b.k)
theorem Blk.over8 {w : World} {b : Nat} {z0 z1 z2 z3 z4 z5 z6 z7 : Value} {t : TypeId} (h : Blk w b #[z0, z1, z2, z3, z4, z5, z6, z7] t) (x : VM) : Blk (over8 w b x) b x.cells t := by
  have k := (((((((h.set 0 (.int .i64 x.bal)).set 1 (.bool x.b.n)).set 2 (.int .i64 x.b.p)).set 3 (.int .i64 x.b.q)).set 4 (.slice x.a1 x.b.xs.length x.c1)).set 5 (.slice x.a2 x.b.ys.length x.c2)).set 6 (.int .i64 x.b.v)).set 7 (.int .i64 x.b.k)
  exact k.eq (by simp [VM.cells])
theorem Blk.over8' {w : World} {b : Nat} {y : VM} {t : TypeId} (h : Blk w b y.cells t) (x : VM) : Blk (Own.over8 w b x) b x.cells t := Blk.over8 h x
theorem below_over8 {B b : Nat} {w0 w : World} (h : Below B w0 w) (hB : B ≤ b) (x : VM) : Below B w0 (over8 w b x) := by
  unfold over8
  exact (((((((h.setCell hB _).setCell hB _).setCell hB _).setCell hB _).setCell hB _).setCell hB _).setCell hB _).setCell hB _
end Go.Proofs.Ytbbbfnfpmaogoaa.Own

namespace Go.Proofs.Ytbbbfnfpmaogoaa.Own
open Go.RowKit
set_option linter.unusedVariables false
set_option linter.unusedSimpArgs false

set_option maxRecDepth 100000 in
set_option maxHeartbeats 2000000 in
theorem voteCopied (x : VM) (w : World) (h1 : Sl w x.a1 x.b.xs) (h2 : Sl w x.a2 x.b.ys) (k1 : x.b.xs.length ≤ 2 ^ 40) (k2 : x.b.ys.length ≤ 2 ^ 40) :
    Calls Try.prog 82 #[.agg x.cells] w fun e w' => ∃ y : VM, e = .returned (.agg y.cells) ∧ y.body = x.body ∧ OneOwn w' w.heap.size y ∧ Below w.heap.size w w' := by
  obtain ⟨bal, ⟨n, p, q, xs, ys, v, k⟩, a1, c1, a2, c2⟩ := x
  simp only [VM.cells] at *
  obtain ⟨X, hX⟩ : ∃ X, X = (w.alloc (.cells #[.int .i64 bal, .bool n, .int .i64 p, .int .i64 q, .slice a1 xs.length c1, .slice a2 ys.length c2, .int .i64 v, .int .i64 k] 86)).alloc (.cells #[.int .i64 0, .bool false, .int .i64 0, .int .i64 0, .slice none 0 0, .slice none 0 0, .int .i64 0, .int .i64 0] 86) := ⟨_, rfl⟩
  have P0 : Hid (Blk X w.heap.size #[.int .i64 bal, .bool n, .int .i64 p, .int .i64 q, .slice a1 xs.length c1, .slice a2 ys.length c2, .int .i64 v, .int .i64 k] 86) := by
    show Blk _ _ _ _; rw [hX]; exact (Blk.new _ _ _).alloc _
  have R0 : Hid (Blk X (w.heap.size + 1) #[.int .i64 0, .bool false, .int .i64 0, .int .i64 0, .slice none 0 0, .slice none 0 0, .int .i64 0, .int .i64 0] 86) := by
    show Blk _ _ _ _; rw [hX]; exact Blk.new2 _ _ _ _
  have BX : Hid (Below w.heap.size w X) := by
    show Below _ _ _; rw [hX]; exact ((Below.refl _ _).alloc (Nat.le_refl _) _).alloc (by rw [size_new]; omega) _
  have SX : X.heap.size = w.heap.size + 1 + 1 := by rw [hX, size_new, size_new]
  have HX : Hid (X = _) := hX
  have EC := entCopied ⟨bal, ⟨n, p, q, xs, ys, v, k⟩, a1, c1, a2, c2⟩ X (h1.below BX.out) (h2.below BX.out) k1 k2
  simp only [VM.ecells] at EC
  have HC : Hid _ := EC
  clear hX EC h1 h2
  obtain ⟨q0, q1, q2, q3, q4, q5, q6, q7⟩ := P0.out.cells8
  go_enter Try.func82, Try.ntmps82
  go_upto_region 1 with fail
  rw [← HX.out]
  go_wp2_with fail
  refine Calls.mono HC.out ?_
  rintro e w3 ⟨⟨ybal, ⟨yn, yp, yq, yxs, yys, yv, yk⟩, g1, e1, g2, e2⟩, rfl, hyb, hy, b3⟩
  simp only [VM.body, Prod.mk.injEq, EB.mk.injEq] at hyb
  obtain ⟨rfl, rfl, rfl, rfl, rfl, rfl, rfl, rfl⟩ := hyb
  have Y3 : Hid (OneOwn w3 X.heap.size ⟨ybal, ⟨yn, yp, yq, yxs, yys, yv, yk⟩, g1, e1, g2, e2⟩) := hy
  have B3 : Hid (Below X.heap.size X w3) := b3
  have P3 : Hid (Blk w3 w.heap.size #[.int .i64 ybal, .bool yn, .int .i64 yp, .int .i64 yq, .slice a1 yxs.length c1, .slice a2 yys.length c2, .int .i64 yv, .int .i64 yk] 86) := P0.out.keep B3.out
  have R3 : Hid (Blk w3 (w.heap.size + 1) #[.int .i64 0, .bool false, .int .i64 0, .int .i64 0, .slice none 0 0, .slice none 0 0, .int .i64 0, .int .i64 0] 86) := R0.out.keep B3.out
  clear hy b3 q0 q1 q2 q3 q4 q5 q6 q7
  obtain ⟨q0, q1, q2, q3, q4, q5, q6, q7⟩ := P3.out.cells8
  have fr := P3.out.frozen
  go_upto_region 2 with fail
  obtain ⟨Z, hZ⟩ : ∃ Z, Z = ((((((w3.setCell ⟨w.heap.size, 1, none⟩ (.bool yn)).setCell ⟨w.heap.size, 2, none⟩ (.int .i64 yp)).setCell ⟨w.heap.size, 3, none⟩ (.int .i64 yq)).setCell ⟨w.heap.size, 4, none⟩ (.slice g1 yxs.length e1)).setCell ⟨w.heap.size, 5, none⟩ (.slice g2 yys.length e2)).setCell ⟨w.heap.size, 6, none⟩ (.int .i64 yv)).setCell ⟨w.heap.size, 7, none⟩ (.int .i64 yk) := ⟨_, rfl⟩
  rw [← hZ]
  have SZ : Z.heap.size = w3.heap.size := by rw [hZ]; simp [World.setCell]
  have S3 : w.heap.size + 1 + 1 ≤ w3.heap.size := by have := B3.out.size; omega
  have PZ : Hid (Blk Z w.heap.size #[.int .i64 ybal, .bool yn, .int .i64 yp, .int .i64 yq, .slice g1 yxs.length e1, .slice g2 yys.length e2, .int .i64 yv, .int .i64 yk] 86) := by
    show Blk _ _ _ _; rw [hZ]; exact ((((((P3.out.set 1 _).set 2 _).set 3 _).set 4 _).set 5 _).set 6 _).set 7 _
  have RZ : Hid (Blk Z (w.heap.size + 1) #[.int .i64 0, .bool false, .int .i64 0, .int .i64 0, .slice none 0 0, .slice none 0 0, .int .i64 0, .int .i64 0] 86) := by
    show Blk _ _ _ _; rw [hZ]; exact ((((((R3.out.other (by omega) _ _).other (by omega) _ _).other (by omega) _ _).other (by omega) _ _).other (by omega) _ _).other (by omega) _ _).other (by omega) _ _
  have BZ : Hid (Below w.heap.size w Z) := by
    show Below _ _ _; rw [hZ]; exact (((((((BX.out.trans (B3.out.mono (by omega))).setCell (Nat.le_refl _) _).setCell (Nat.le_refl _) _).setCell (Nat.le_refl _) _).setCell (Nat.le_refl _) _).setCell (Nat.le_refl _) _).setCell (Nat.le_refl _) _).setCell (Nat.le_refl _) _
  have zb : ∀ b, b ≠ w.heap.size → Z.heap[b]? = w3.heap[b]? := fun b hb => by
    rw [hZ, Below.heap_setCell _ _ _ _ hb, Below.heap_setCell _ _ _ _ hb, Below.heap_setCell _ _ _ _ hb, Below.heap_setCell _ _ _ _ hb, Below.heap_setCell _ _ _ _ hb, Below.heap_setCell _ _ _ _ hb, Below.heap_setCell _ _ _ _ hb]
  have YZ : Hid (OneOwn Z X.heap.size ⟨ybal, ⟨yn, yp, yq, yxs, yys, yv, yk⟩, g1, e1, g2, e2⟩) := Y3.out.blkV (Nat.le_of_eq SZ.symm) fun b hb => zb b (by
    rcases hb with hb | hb
    · have := Y3.out.b1 b hb; omega
    · have := Y3.out.b2 b hb; omega)
  clear q0 q1 q2 q3 q4 q5 q6 q7 fr hZ zb
  obtain ⟨q0, q1, q2, q3, q4, q5, q6, q7⟩ := PZ.out.cells8
  obtain ⟨r0, r1, r2, r3, r4, r5, r6, r7⟩ := RZ.out.cells8
  have fr := RZ.out.frozen
  go_wp2_with fail
  obtain ⟨U, hU⟩ : ∃ U, U = (((((((Z.setCell ⟨w.heap.size + 1, 0, none⟩ (.int .i64 ybal)).setCell ⟨w.heap.size + 1, 1, none⟩ (.bool yn)).setCell ⟨w.heap.size + 1, 2, none⟩ (.int .i64 yp)).setCell ⟨w.heap.size + 1, 3, none⟩ (.int .i64 yq)).setCell ⟨w.heap.size + 1, 4, none⟩ (.slice g1 yxs.length e1)).setCell ⟨w.heap.size + 1, 5, none⟩ (.slice g2 yys.length e2)).setCell ⟨w.heap.size + 1, 6, none⟩ (.int .i64 yv)).setCell ⟨w.heap.size + 1, 7, none⟩ (.int .i64 yk) := ⟨_, rfl⟩
  rw [← hU]
  have RU : Blk U (w.heap.size + 1) #[.int .i64 ybal, .bool yn, .int .i64 yp, .int .i64 yq, .slice g1 yxs.length e1, .slice g2 yys.length e2, .int .i64 yv, .int .i64 yk] 86 := by
    rw [hU]; exact (((((((RZ.out.set 0 _).set 1 _).set 2 _).set 3 _).set 4 _).set 5 _).set 6 _).set 7 _
  have SU : U.heap.size = Z.heap.size := by rw [hU]; simp [World.setCell]
  have BU : Below w.heap.size w U := by
    rw [hU]
    exact (((((((BZ.out.setCell (by show w.heap.size ≤ w.heap.size + 1; omega) _).setCell (by show w.heap.size ≤ w.heap.size + 1; omega) _).setCell (by show w.heap.size ≤ w.heap.size + 1; omega) _).setCell (by show w.heap.size ≤ w.heap.size + 1; omega) _).setCell (by show w.heap.size ≤ w.heap.size + 1; omega) _).setCell (by show w.heap.size ≤ w.heap.size + 1; omega) _).setCell (by show w.heap.size ≤ w.heap.size + 1; omega) _).setCell (by show w.heap.size ≤ w.heap.size + 1; omega) _
  have ub : ∀ b, b ≠ w.heap.size + 1 → U.heap[b]? = Z.heap[b]? := fun b hb => by
    rw [hU, Below.heap_setCell _ _ _ _ hb, Below.heap_setCell _ _ _ _ hb, Below.heap_setCell _ _ _ _ hb, Below.heap_setCell _ _ _ _ hb, Below.heap_setCell _ _ _ _ hb, Below.heap_setCell _ _ _ _ hb, Below.heap_setCell _ _ _ _ hb, Below.heap_setCell _ _ _ _ hb]
  have YU : OneOwn U w.heap.size ⟨ybal, ⟨yn, yp, yq, yxs, yys, yv, yk⟩, g1, e1, g2, e2⟩ := (YZ.out.blkV (Nat.le_of_eq SU.symm) fun b hb => ub b (by
    rcases hb with hb | hb
    · have := YZ.out.b1 b hb; omega
    · have := YZ.out.b2 b hb; omega)).low (by omega)
  obtain ⟨z0, z1, z2, z3, z4, z5, z6, z7⟩ := RU.cells8
  refine bodyPost_ret (v := .agg #[.int .i64 ybal, .bool yn, .int .i64 yp, .int .i64 yq, .slice g1 yxs.length e1, .slice g2 yys.length e2, .int .i64 yv, .int .i64 yk]) (by simp [results, Try.results82, go_sem, z0, z1, z2, z3, z4, z5, z6, z7]) rfl ?_
  exact ⟨⟨ybal, ⟨yn, yp, yq, yxs, yys, yv, yk⟩, g1, e1, g2, e2⟩, rfl, rfl, YU, BU⟩
end Go.Proofs.Ytbbbfnfpmaogoaa.Own

namespace Go.Proofs.Ytbbbfnfpmaogoaa.Own
open Go.RowKit
set_option linter.unusedVariables false
set_option linter.unusedSimpArgs false

def flat8 (vs : List VM) : List Value := vs.flatMap fun x => x.cells.toList
theorem flat8_length (vs : List VM) : (flat8 vs).length = vs.length * 8 := by
  induction vs with
  | nil => rfl
  | cons p r ih => simp [flat8, VM.cells] at ih ⊢; omega
theorem flat8_snoc (vs : List VM) (y : VM) : flat8 (vs ++ [y]) = flat8 vs ++ y.cells.toList := by simp [flat8]
theorem flat8_get (vs : List VM) (i j : Nat) (h : i < vs.length) (hj : j < 8) : (flat8 vs)[i * 8 + j]? = (vs.getD i v0).cells.toList[j]? := by
  induction vs generalizing i with
  | nil => simp at h
  | cons p r ih =>
    have hl : p.cells.toList.length = 8 := rfl
    cases i with
    | zero =>
      simp only [flat8, List.flatMap_cons, Nat.zero_mul, Nat.zero_add]
      rw [List.getElem?_append_left (by omega)]
      rfl
    | succ i =>
      have := ih i (by simpa using h)
      simp only [flat8, List.flatMap_cons] at this ⊢
      rw [List.getElem?_append_right (by omega), show (i + 1) * 8 + j - p.cells.toList.length = i * 8 + j by omega]
      simpa using this

theorem getD_snocV (vs : List VM) (y : VM) (i : Nat) : (vs ++ [y]).getD i v0 = if i < vs.length then vs.getD i v0 else if i = vs.length then y else v0 := by
  by_cases h : i < vs.length
  · simp [List.getD, List.getElem?_append_left h, h]
  · rw [if_neg h]
    by_cases e : i = vs.length
    · simp [List.getD, e]
    · rw [if_neg e]
      simp [List.getD, List.getElem?_eq_none (show (vs ++ [y]).length ≤ i by simp; omega)]

theorem OneOwn.blk {w w' : World} {B : Nat} {y : VM} (h : OneOwn w B y) (hs : w.heap.size ≤ w'.heap.size) (hb : ∀ b, (blk1 y = some b ∨ blk2 y = some b) → w'.heap[b]? = w.heap[b]?) : OneOwn w' B y := by
  have f : ∀ (a : Option Addr) (xs : List P2), OwnB w B a xs → (∀ b, blkOf a xs.length = some b → w'.heap[b]? = w.heap[b]?) → OwnB w' B a xs := fun a xs h hb => by
    rcases h with h | ⟨g, rfl, hB, h, hf⟩
    · exact .inl h
    · by_cases h0 : xs = []
      · exact .inl h0
      · have hl : xs.length ≠ 0 := fun e => h0 (List.eq_nil_of_length_eq_zero e)
        have e := hb g (by simp [blkOf, hl])
        exact .inr ⟨g, rfl, hB, h.block hs e, fun o => by rw [World.frozen?_of_block (w := w) (a := ⟨g, o, none⟩) e]; exact hf o⟩
  exact ⟨f _ _ h.l1 fun b e => hb b (.inl e), f _ _ h.l2 fun b e => hb b (.inr e), h.c1, h.c2, fun b e => ⟨(h.b1 b e).1, Nat.lt_of_lt_of_le (h.b1 b e).2 hs⟩, fun b e => ⟨(h.b2 b e).1, Nat.lt_of_lt_of_le (h.b2 b e).2 hs⟩, h.ap⟩
theorem OneOwn.weaken {w : World} {B B' : Nat} {y : VM} (h : OneOwn w B y) (hB : B' ≤ B) : OneOwn w B' y :=
  ⟨h.l1.weaken hB, h.l2.weaken hB, h.c1, h.c2, fun b e => ⟨Nat.le_trans hB (h.b1 b e).1, (h.b1 b e).2⟩, fun b e => ⟨Nat.le_trans hB (h.b2 b e).1, (h.b2 b e).2⟩, h.ap⟩

structure OwnL (w : World) (B : Nat) (v : Value) (vs : List VM) : Prop where
  row : w.ownsRow B 86 8 v vs.length (flat8 vs)
  one : ∀ i, i < vs.length → OneOwn w B (vs.getD i v0)
  out : ∀ i, i < vs.length → ∀ g, v.ownBlock = some g → blk1 (vs.getD i v0) ≠ some g ∧ blk2 (vs.getD i v0) ≠ some g
  all : ∀ i j, i < vs.length → j < vs.length → i ≠ j → ∀ b, (blk1 (vs.getD i v0) = some b ∨ blk2 (vs.getD i v0) = some b) → blk1 (vs.getD j v0) ≠ some b ∧ blk2 (vs.getD j v0) ≠ some b

theorem OwnL.nil (w : World) (B : Nat) : OwnL w B (.slice none 0 0) [] :=
  ⟨World.ownsRow_nil w B _ 8, fun i h => by simp at h, fun i h => by simp at h, fun i j h => by simp at h⟩
theorem ownsRow_lt8 {w : World} {base : Nat} {e : TypeId} {size : Nat} {v : Value} {n : Nat} {xs : List Value} (h : w.ownsRow base e size v n xs) : ∀ g, v.ownBlock = some g → g < w.heap.size := by
  obtain ⟨_, h⟩ := h
  intro g hg
  rcases h with ⟨rfl, _⟩ | ⟨g', cap, cur, rfl, hb, hh, _⟩
  · cases hg
  · simp only [Value.ownBlock] at hg
    injection hg with hg
    subst hg
    exact (Array.getElem?_eq_some_iff.1 hh).1
theorem OwnL.keep {w w' : World} {B : Nat} {v : Value} {vs : List VM} (h : OwnL w B v vs) (hb : Below w.heap.size w w') : OwnL w' B v vs := by
  refine ⟨?_, fun i hi => (h.one i hi).blk hb.size fun b e => hb.block b ?_, h.out, h.all⟩
  · obtain ⟨h1, h2⟩ := h.row
    refine ⟨h1, ?_⟩
    rcases h2 with h2 | ⟨g, cap, cur, hv, hg, hh, r⟩
    · exact .inl h2
    · exact .inr ⟨g, cap, cur, hv, hg, by rw [hb.block g (Array.getElem?_eq_some_iff.1 hh).1]; exact hh, r⟩
  · rcases e with e | e
    · exact ((h.one i hi).b1 b e).2
    · exact ((h.one i hi).b2 b e).2

/-- One vote more. -/
theorem OwnL.snoc {w0 w w' : World} {B : Nat} {v v' : Value} {vs : List VM} {y : VM} (h0 : OwnL w0 B v vs) (hb : Below w0.heap.size w0 w) (hy : OneOwn w w0.heap.size y) (hB : B ≤ w0.heap.size)
    (hrow : w'.ownsRow B 86 8 v' (vs.length + 1) (flat8 vs ++ y.cells.toList)) (hg : w.grownBy w' v.ownBlock) (hloc : ∀ g, v'.ownBlock = some g → v.ownBlock = some g ∨ g = w.heap.size) : OwnL w' B v' (vs ++ [y]) := by
  have h := h0.keep hb
  obtain ⟨_, _, _, hgs, hgb⟩ := hg
  have lt0 : ∀ i, i < vs.length → ∀ b, (blk1 (vs.getD i v0) = some b ∨ blk2 (vs.getD i v0) = some b) → b < w0.heap.size := fun i hi b e => by
    rcases e with e | e
    · exact ((h0.one i hi).b1 b e).2
    · exact ((h0.one i hi).b2 b e).2
  have rl0 := ownsRow_lt8 h0.row
  have rl : ∀ g, v.ownBlock = some g → g < w0.heap.size := rl0
  have yb : ∀ b, (blk1 y = some b ∨ blk2 y = some b) → w0.heap.size ≤ b ∧ b < w.heap.size := fun b e => by
    rcases e with e | e
    · exact hy.b1 b e
    · exact hy.b2 b e
  have len : (vs ++ [y]).length = vs.length + 1 := by simp
  have at1 : ∀ i, i < vs.length → (vs ++ [y]).getD i v0 = vs.getD i v0 := fun i hi => by rw [getD_snocV, if_pos hi]
  have at2 : (vs ++ [y]).getD vs.length v0 = y := by rw [getD_snocV, if_neg (by omega), if_pos rfl]
  have hbs := hb.size
  refine ⟨by rw [len, flat8_snoc]; exact hrow, fun i hi => ?_, fun i hi g hgv => ?_, fun i j hi hj hne b e => ?_⟩
  · rw [len] at hi
    by_cases e : i < vs.length
    · rw [at1 i e]
      refine (h.one i e).blk hgs fun b eb => hgb b ?_ ?_
      · have := lt0 i e b eb; omega
      · intro k
        have o := h.out i e b k.symm
        rcases eb with eb | eb
        · exact o.1 eb
        · exact o.2 eb
    · obtain rfl : i = vs.length := by omega
      rw [at2]
      refine (hy.weaken hB).blk hgs fun b eb => hgb b (yb b eb).2 ?_
      intro k
      have := rl b k.symm
      have := (yb b eb).1
      omega
  · rw [len] at hi
    have key : ∀ b, (blk1 ((vs ++ [y]).getD i v0) = some b ∨ blk2 ((vs ++ [y]).getD i v0) = some b) → b ≠ g := fun b eb => by
      by_cases e : i < vs.length
      · rw [at1 i e] at eb
        rcases hloc g hgv with hl | hl
        · have o := h.out i e g hl
          intro e2
          subst e2
          rcases eb with eb | eb
          · exact o.1 eb
          · exact o.2 eb
        · have := lt0 i e b eb; omega
      · obtain rfl : i = vs.length := by omega
        rw [at2] at eb
        have := yb b eb
        rcases hloc g hgv with hl | hl
        · have := rl g hl; omega
        · omega
    exact ⟨fun e => key g (.inl e) rfl, fun e => key g (.inr e) rfl⟩
  · rw [len] at hi hj
    by_cases ei : i < vs.length
    · rw [at1 i ei] at e
      by_cases ej : j < vs.length
      · rw [at1 j ej]; exact h.all i j ei ej hne b e
      · obtain rfl : j = vs.length := by omega
        rw [at2]
        have := lt0 i ei b e
        exact ⟨fun e2 => by have := yb b (.inl e2); omega, fun e2 => by have := yb b (.inr e2); omega⟩
    · obtain rfl : i = vs.length := by omega
      rw [at2] at e
      have := yb b e
      have ej : j < vs.length := by omega
      rw [at1 j ej]
      exact ⟨fun e2 => by have := lt0 j ej b (.inl e2); omega, fun e2 => by have := lt0 j ej b (.inr e2); omega⟩

/-- As a list in memory of one's own. -/
theorem OwnL.vs {w : World} {B : Nat} {v : Value} {vs : List VM} (h : OwnL w B v vs) (hn : vs ≠ []) : ∃ g cap, v = .slice (some ⟨g, 0, none⟩) vs.length cap ∧ vs.length ≤ cap ∧ OwnVs w B g vs ∧ Sep g vs := by
  have hpos : 0 < vs.length := List.length_pos_iff.2 hn
  obtain ⟨hl, hr⟩ := h.row
  rcases hr with ⟨_, h0⟩ | ⟨g, cap, cur, hv, hb, hh, hmc, _, hsz, htk⟩
  · omega
  have hl8 := flat8_length vs
  refine ⟨g, cap, hv, hmc, ⟨(Array.getElem?_eq_some_iff.1 hh).1, hb, fun o => frozen_heap hh o, fun i hi => ?_, fun i hi => ⟨(h.one i hi).l1, (h.one i hi).l2⟩⟩, ⟨fun i hi => h.out i hi g (by rw [hv]; rfl), fun i hi => (h.one i hi).ap, h.all⟩⟩
  have e : ∀ j, j < 8 → w.cell? ⟨g, i * 8 + j, none⟩ = (vs.getD i v0).cells.toList[j]? := fun j hj => by
    rw [← flat8_get vs i j hi hj, ← htk, cell_heap hh, List.getElem?_take_of_lt (by omega)]
    simp
  exact ⟨e 0 (by omega), e 1 (by omega), e 2 (by omega), e 3 (by omega), e 4 (by omega), e 5 (by omega), e 6 (by omega), e 7 (by omega)⟩
end Go.Proofs.Ytbbbfnfpmaogoaa.Own

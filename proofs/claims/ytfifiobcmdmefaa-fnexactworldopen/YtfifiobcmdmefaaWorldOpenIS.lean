/-
  Own text, by program (gen_worldopen.py): a new world, both sides.
-/
import Derived.Test.YtfifiobcmdmefaaWorldMem
import Derived.Test.YtfifiobcmdmefaaNodeOpenIS
import Derived.Deep.AppendLies
import Derived.Deep.RegionHeld
namespace Go.Proofs.Ytfifiobcmdmefaa.Own
open Go.RowKit
set_option linter.unusedVariables false
set_option linter.unusedSimpArgs false

theorem Blk.only1W {w w' : World} {b c : Nat} {C : Array Value} {t : TypeId} (h : Blk w b C t) (ho : Only c w w') (hc : b ≠ c) : Blk w' b C t := by
  unfold Blk at *
  rw [ho.block b hc]; exact h
theorem infoNode : (Try.prog.info? 104).map (fun i => (i.zero, i.size, i.bytes)) = some (some (.agg (nodeZ 0)), 27, 392) := by kernel_rfl
def flatN : Nat → List Value
  | 0 => []
  | n + 1 => flatN n ++ nZ (n : Int)
theorem nZ_len (z : Int) : (nZ z).length = 27 := rfl
theorem flatN_len (n : Nat) : (flatN n).length = n * 27 := by
  induction n with
  | zero => rfl
  | succ n ih => simp only [flatN, List.length_append, ih, nZ_len]; omega
theorem flatN_get (n i j : Nat) (hi : i < n) (hj : j < 27) : (flatN n)[i * 27 + j]? = (nZ (i : Int))[j]? := by
  induction n with
  | zero => omega
  | succ n ih =>
    have hl := flatN_len n
    simp only [flatN]
    by_cases e : i = n
    · subst e
      rw [List.getElem?_append_right (by omega), hl]
      congr 1; omega
    · rw [List.getElem?_append_left (by omega)]
      exact ih (by omega)
theorem node_new (w : World) (z : Int) : ∀ j u, (nZ z)[j]? = some u → (w.alloc (.cells (nodeZ z) 104)).cell? ((⟨w.heap.size, 0, none⟩ : Addr).add j) = some u := by
  intro j u hu
  have e : (⟨w.heap.size, 0, none⟩ : Addr).add j = ⟨w.heap.size, j, none⟩ := by unfold Addr.add; split <;> simp_all
  rw [e, (Blk.new w (nodeZ z) _).cell]
  simpa [nZ] using hu
theorem nZ_one (z : Int) : ∀ u ∈ nZ z, u.oneCell' = true := by
  intro u hu
  have := nodeZ_one z
  rw [Array.all_eq_true_iff_forall_mem] at this
  exact this u (by simpa [nZ] using hu)
theorem ownsRow_keep {w w' : World} {B size n : Nat} {e : TypeId} {v : Value} {xs : List Value} (h : w.ownsRow B e size v n xs) (hb : ∀ g, v.ownBlock = some g → w'.heap[g]? = w.heap[g]?) : w'.ownsRow B e size v n xs := by
  obtain ⟨h1, h2⟩ := h
  refine ⟨h1, ?_⟩
  rcases h2 with h2 | ⟨g, cap, cur, hv, hg, hh, r⟩
  · exact .inl h2
  · exact .inr ⟨g, cap, cur, hv, hg, by rw [hb g (by rw [hv]; rfl)]; exact hh, r⟩
theorem ownsRow_from {w : World} {B size n : Nat} {e : TypeId} {v : Value} {xs : List Value} (h : w.ownsRow B e size v n xs) : ∀ g, v.ownBlock = some g → B ≤ g ∧ g < w.heap.size := by
  obtain ⟨_, h2⟩ := h
  intro g hg
  rcases h2 with ⟨rfl, _⟩ | ⟨g', cap, cur, rfl, hb, hh, _⟩
  · cases hg
  · simp only [Value.ownBlock] at hg
    injection hg with hg
    subst hg
    exact ⟨hb, (Array.getElem?_eq_some_iff.1 hh).1⟩

/-- A world on its way: n of its nodes are there. -/
structure WN (w : World) (n : Nat) (v : Value) (wx : World) : Prop where
  res : Blk wx w.heap.size #[.slice none 0 0, .slice none 0 0, .slice none 0 0, .slice none 0 0] 60
  var : Blk wx (w.heap.size + 1) #[v, .slice none 0 0, .slice none 0 0, .slice none 0 0] 60
  own : wx.ownsRow (w.heap.size + 2) 104 27 v n (flatN n)
  bel : Below w.heap.size w wx
theorem WN.keep {w wx wy : World} {n : Nat} {v : Value} (h : WN w n v wx) (hb : Below wx.heap.size wx wy) : WN w n v wy :=
  ⟨h.res.keep hb, h.var.keep hb, ownsRow_keep h.own fun g hg => hb.block g (ownsRow_from h.own g hg).2, h.bel.trans (hb.mono h.bel.size)⟩
theorem WN.form {w wx : World} {n : Nat} {v : Value} (h : WN w n v wx) : ∃ a cap, v = .slice a n cap := by
  obtain ⟨_, h2⟩ := h.own
  rcases h2 with ⟨hv, h0⟩ | ⟨g, cap, cur, hv, _⟩
  · exact ⟨none, 0, by rw [hv, h0]⟩
  · exact ⟨some ⟨g, 0, none⟩, cap, hv⟩
/-- The next node is there. -/
theorem WN.next {w wx w5 : World} {n g5 cap5 : Nat} {v : Value} (h : WN w n v wx) (hw : w5.ownsRow (w.heap.size + 2) 104 27 (.slice (some ⟨g5, 0, none⟩) (n + 1) cap5) (n + 1) (flatN n ++ nZ (n : Int))) (hgr : wx.grownBy w5 v.ownBlock) :
    WN w (n + 1) (.slice (some ⟨g5, 0, none⟩) (n + 1) cap5) (w5.setCell ⟨w.heap.size + 1, 0, none⟩ (.slice (some ⟨g5, 0, none⟩) (n + 1) cap5)) := by
  have hs : w.heap.size + 2 ≤ wx.heap.size := h.var.lt
  have K5 : Below (w.heap.size + 2) wx w5 := Below.grown (Below.refl _ wx) hgr hs fun x hx => (ownsRow_from h.own x hx).1
  have o : Only (w.heap.size + 1) w5 (w5.setCell ⟨w.heap.size + 1, 0, none⟩ (.slice (some ⟨g5, 0, none⟩) (n + 1) cap5)) := (Only.refl _ _).setCell _
  have r1 : Blk w5 w.heap.size #[.slice none 0 0, .slice none 0 0, .slice none 0 0, .slice none 0 0] 60 := h.res.below K5 (by omega)
  have r2 : Blk w5 (w.heap.size + 1) #[v, .slice none 0 0, .slice none 0 0, .slice none 0 0] 60 := h.var.below K5 (by omega)
  refine ⟨r1.only1W o (by omega), (r2.set 0 _).eq (by simp), ownsRow_keep hw fun g hg => ?_, ?_⟩
  · have := (ownsRow_from hw g hg).1
    exact Below.heap_setCell _ _ _ _ (by simp only; omega)
  · exact (h.bel.trans (K5.mono (by omega))).setCell (by simp only; omega) _
/-- The nodes as a row in memory. -/
theorem WN.ns {w wx : World} {v : Value} (h : WN w 3 v wx) : ∃ g cap, v = .slice (some ⟨g, 0, none⟩) 3 cap ∧ 3 ≤ cap ∧ w.heap.size + 2 ≤ g ∧ NS wx g zL := by
  obtain ⟨hl, hr⟩ := h.own
  rcases hr with ⟨_, h0⟩ | ⟨g, cap, cur, hv, hb, hh, hmc, _, hsz, htk⟩
  · omega
  refine ⟨g, cap, hv, hmc, hb, (Array.getElem?_eq_some_iff.1 hh).1, fun o => frozen_heap hh o, fun i hi => ?_, fun i hi j hj => ?_⟩
  · match i, hi with
    | 0, _ => rfl
    | 1, _ => rfl
    | 2, _ => rfl
  · have hi3 : i < 3 := hi
    have e : zL.getD i [] = nZ (i : Int) := by
      match i, hi with
      | 0, _ => rfl
      | 1, _ => rfl
      | 2, _ => rfl
    rw [e, ← flatN_get 3 i j hi3 hj, ← htk, cell_heap hh, List.getElem?_take_of_lt (by omega)]
    simp
/-- What WorldOpen hands back. -/
def OpenW (w : World) (e : Ending) (w' : World) : Prop := ∃ g cap, e = .returned (.agg #[.slice (some ⟨g, 0, none⟩) 3 cap, .slice none 0 0, .slice none 0 0, .slice none 0 0]) ∧ 3 ≤ cap ∧ NS w' g zL ∧ w.heap.size ≤ g ∧ Below w.heap.size w w'

set_option maxRecDepth 100000 in
set_option maxHeartbeats 4000000 in
theorem implWorldOpen (w : World) : Calls Try.prog 30 #[] w fun e w' => OpenW w e w' := by
  obtain ⟨W, hW⟩ : ∃ W, W = (w.alloc (.cells #[.slice none 0 0, .slice none 0 0, .slice none 0 0, .slice none 0 0] 60)).alloc (.cells #[.slice none 0 0, .slice none 0 0, .slice none 0 0, .slice none 0 0] 60) := ⟨_, rfl⟩
  have HW : Hid (W = (w.alloc (.cells #[.slice none 0 0, .slice none 0 0, .slice none 0 0, .slice none 0 0] 60)).alloc (.cells #[.slice none 0 0, .slice none 0 0, .slice none 0 0, .slice none 0 0] 60)) := hW
  have AW : Hid (WN w 0 (.slice none 0 0) W) := by
    show WN _ _ _ _
    rw [hW]
    exact ⟨(Blk.new _ _ _).alloc _, Blk.new2 _ _ _ _, World.ownsRow_nil _ _ _ 27, ((Below.refl _ _).alloc (Nat.le_refl _) _).alloc (by simp) _⟩
  clear hW
  go_enter Try.func30, Try.ntmps30
  go_upto_region 2 with fail
  rw [← HW.out]
  clear HW
  go_wp2_with fail
  go_loopw [3] (fun i wr => ∃ n : Nat, n ≤ 3 ∧ i = .int .i64 n ∧ Hid (∃ v, WN w n v wr)) (fun i _ => 3 - (intOf i).toNat)
  case atStart => exact ⟨0, by omega, rfl, _, AW.out⟩
  case round =>
    obtain ⟨n, hn, rfl, HN⟩ := hrel
    obtain ⟨v, hv⟩ := HN.out
    obtain ⟨va, vc, rfl⟩ := hv.form
    have AN : Hid (WN w n (.slice va n vc) wr) := hv
    clear hv HN AW
    by_cases hlt : n < 3
    · have hni : (n : Int) < 3 := by omega
      have CN : Hid (∀ W, Calls Try.prog 67 #[.int .i64 n] W fun e w' => e = .returned (.agg #[.int .i64 n, .int .i64 0, .slice none 0 0, .slice none 0 0, .int .i64 0, .int .i64 0, .int .i64 0, .slice none 0 0, .slice none 0 0, .bool false, .int .i64 0, .int .i64 0, .slice none 0 0, .slice none 0 0, .int .i64 0, .int .i64 0, .slice none 0 0, .bool false, .slice none 0 0, .bool false, .int .i64 0, .int .i64 0, .slice none 0 0, .slice none 0 0, .int .i64 0, .int .i64 0, .slice none 0 0]) ∧ Below W.heap.size W w') := fun W => by
        have h := implNodeOpen n W
        rw [show idOf (n : Int) = n by unfold idOf; rw [if_pos (by omega)]] at h
        exact h
      go_upto_region 5 with fail
      refine wp_region_held_drew (S := (fun w' : World => True)) (by kernel_rfl) trivial (fun hHeld => ?_)
      obtain ⟨v0, hV⟩ : ∃ V, V = wr.drew := ⟨_, rfl⟩
      have A0 : Hid (WN w n (.slice va n vc) v0) := AN.out.keep (by rw [hV]; exact (Below.refl _ _).drew)
      rw [← hV]
      clear hV AN
      refine wpAnyH_take (i := 0) (v := ?vw1) rfl (by kernel_rfl) (by kernel_rfl) (by kernel_rfl) (fun _ _ _ h => h) (Or.inl ⟨by rfl, ?yw1⟩) (by assumption) ?rw1
      case yw1 =>
        intro w' hSw
        try dsimp only at hSw
        go_simp
        try with_reducible rfl
      simp only [Act.put, List.getElem_toArray, List.getElem_cons_succ, List.getElem_cons_zero, List.setIfInBounds_toArray, List.set_cons_zero, List.set_cons_succ]
      refine wpAnyH_take (i := 2) (v := ?vw2) rfl (by kernel_rfl) (by kernel_rfl) (by kernel_rfl) (fun _ _ _ h => h) (Or.inl ⟨by rfl, ?yw2⟩) (by assumption) ?rw2
      case yw2 =>
        intro w' hSw
        try dsimp only at hSw
        go_simp
        try with_reducible rfl
      simp only [Act.put, List.getElem_toArray, List.getElem_cons_succ, List.getElem_cons_zero, List.setIfInBounds_toArray, List.set_cons_zero, List.set_cons_succ]
      refine wpAnyH_ready (rs := [1, 3]) (by kernel_rfl) (by simp) ?_
      refine AllReadyH.cons rfl (fun K hK => ?_) (AllReadyH.cons rfl (fun K hK => ?_) AllReadyH.nil)
      · obtain ⟨z0, _⟩ := Blk.cells4 A0.out.var
        go_simp
        refine hK.out _ _ trivial (fun hH => ?_)
        clear hK K z0
        refine wpAnyH_ready (rs := [3]) (by kernel_rfl) (by simp) ?_
        refine AllReadyH.cons rfl (fun K hK => ?_) AllReadyH.nil
        go_simp
        refine Calls.mono (CN.out v0) ?_
        rintro e v3 ⟨rfl, b3⟩
        have A3 : Hid (WN w n (.slice va n vc) v3) := A0.out.keep b3
        refine hK.out _ _ trivial (fun hH => ?_)
        clear hK K b3
        refine wpAnyH_ready (rs := [4]) (by kernel_rfl) (by simp) ?_
        refine AllReadyH.cons rfl (fun K hK => ?_) AllReadyH.nil
        go_simp
        refine hK.out _ _ trivial (fun hH => ?_)
        clear hK K
        obtain ⟨X4, hX⟩ : ∃ x, x = v3.alloc (.cells #[.int .i64 n, .int .i64 0, .slice none 0 0, .slice none 0 0, .int .i64 0, .int .i64 0, .int .i64 0, .slice none 0 0, .slice none 0 0, .bool false, .int .i64 0, .int .i64 0, .slice none 0 0, .slice none 0 0, .int .i64 0, .int .i64 0, .slice none 0 0, .bool false, .slice none 0 0, .bool false, .int .i64 0, .int .i64 0, .slice none 0 0, .slice none 0 0, .int .i64 0, .int .i64 0, .slice none 0 0] 104) := ⟨_, rfl⟩
        rw [← hX]
        have A4 : Hid (WN w n (.slice va n vc) X4) := A3.out.keep (by rw [hX]; exact below_new _ _)
        have N4 : Hid (∀ j u, (nZ (n : Int))[j]? = some u → X4.cell? ((⟨v3.heap.size, 0, none⟩ : Addr).add j) = some u) := by show ∀ j u, _; rw [hX]; exact node_new v3 n
        have S4 : Hid (w.heap.size + 2 ≤ X4.heap.size) := A4.out.var.lt
        clear hX
        refine wpAnyH_ready (rs := [5]) (by kernel_rfl) (by simp) ?_
        refine AllReadyH.cons rfl (fun K hK => ?_) AllReadyH.nil
        obtain ⟨i0, hi, hz0, hz1, hz2⟩ := info_parts infoNode
        refine step_append_lies (X4) (by rfl) _ _ _ (by rfl) (w.heap.size + 2) 104 i0 _ 27 392 Try.underlying55 hi hz0 hz1 hz2 rfl (by decide) (.slice va n vc) n (flatN n) (by rfl) A4.out.own ⟨v3.heap.size, 0, none⟩ 1 1 (nZ n) (by rfl) (nZ_len _) N4.out (nZ_one _) (by decide) (by unfold maxLen; omega) (by omega) (by have := S4.out; omega) X4.heap.size rfl ?_
        intro g5 cap5 v5 own5 hgr hloc hg5
        have A5 : Hid (WN w (n + 1) (.slice (some ⟨g5, 0, none⟩) (n + 1) cap5) (v5.setCell ⟨w.heap.size + 1, 0, none⟩ (.slice (some ⟨g5, 0, none⟩) (n + 1) cap5))) := A4.out.next own5 hgr
        have K5 : Below (w.heap.size + 2) X4 v5 := Below.grown (Below.refl _ X4) hgr (by have := S4.out; omega) fun x hx => (ownsRow_from A4.out.own x hx).1
        have r2 : Blk v5 (w.heap.size + 1) #[.slice va n vc, .slice none 0 0, .slice none 0 0, .slice none 0 0] 60 := A4.out.var.below K5 (by omega)
        obtain ⟨a0, _⟩ := Blk.cells4 r2
        have fr := r2.frozen
        clear r2
        clear own5 hgr hloc hg5 K5
        refine hK.out _ _ trivial (fun hH => ?_)
        clear hK K
        simp only [Act.put, List.getElem_toArray, List.getElem_cons_succ, List.getElem_cons_zero, List.setIfInBounds_toArray, List.set_cons_zero, List.set_cons_succ]
        refine wpAnyH_take (i := 6) (v := ?vw3) rfl (by kernel_rfl) (by kernel_rfl) (by kernel_rfl) (fun _ _ _ h => h) (Or.inl ⟨by rfl, ?yw3⟩) (by assumption) ?rw3
        case yw3 =>
          intro w' hSw
          try dsimp only at hSw
          go_simp
          try with_reducible rfl
        simp only [Act.put, List.getElem_toArray, List.getElem_cons_succ, List.getElem_cons_zero, List.setIfInBounds_toArray, List.set_cons_zero, List.set_cons_succ]
        refine wpAnyH_ready (rs := [7]) (by kernel_rfl) (by simp) ?_
        refine AllReadyH.cons rfl (fun K hK => ?_) AllReadyH.nil
        go_simp
        refine hK.out _ _ trivial (fun hH => ?_)
        clear hK K a0 fr
        refine wpAnyH_done (by kernel_rfl) ?_ _
        go_wp2_with fail
        go_roundw
        case rel => exact ⟨n + 1, by omega, by go_num, _, A5.out⟩
        case measure => simp [intOf]; omega
      · go_simp
        refine Calls.mono (CN.out v0) ?_
        rintro e v3 ⟨rfl, b3⟩
        have A3 : Hid (WN w n (.slice va n vc) v3) := A0.out.keep b3
        refine hK.out _ _ trivial (fun hH => ?_)
        clear hK K b3
        refine wpAnyH_ready (rs := [1, 4]) (by kernel_rfl) (by simp) ?_
        refine AllReadyH.cons rfl (fun K hK => ?_) (AllReadyH.cons rfl (fun K hK => ?_) AllReadyH.nil)
        · obtain ⟨z0, _⟩ := Blk.cells4 A3.out.var
          go_simp
          refine hK.out _ _ trivial (fun hH => ?_)
          clear hK K z0
          refine wpAnyH_ready (rs := [4]) (by kernel_rfl) (by simp) ?_
          refine AllReadyH.cons rfl (fun K hK => ?_) AllReadyH.nil
          go_simp
          refine hK.out _ _ trivial (fun hH => ?_)
          clear hK K
          obtain ⟨X4, hX⟩ : ∃ x, x = v3.alloc (.cells #[.int .i64 n, .int .i64 0, .slice none 0 0, .slice none 0 0, .int .i64 0, .int .i64 0, .int .i64 0, .slice none 0 0, .slice none 0 0, .bool false, .int .i64 0, .int .i64 0, .slice none 0 0, .slice none 0 0, .int .i64 0, .int .i64 0, .slice none 0 0, .bool false, .slice none 0 0, .bool false, .int .i64 0, .int .i64 0, .slice none 0 0, .slice none 0 0, .int .i64 0, .int .i64 0, .slice none 0 0] 104) := ⟨_, rfl⟩
          rw [← hX]
          have A4 : Hid (WN w n (.slice va n vc) X4) := A3.out.keep (by rw [hX]; exact below_new _ _)
          have N4 : Hid (∀ j u, (nZ (n : Int))[j]? = some u → X4.cell? ((⟨v3.heap.size, 0, none⟩ : Addr).add j) = some u) := by show ∀ j u, _; rw [hX]; exact node_new v3 n
          have S4 : Hid (w.heap.size + 2 ≤ X4.heap.size) := A4.out.var.lt
          clear hX
          refine wpAnyH_ready (rs := [5]) (by kernel_rfl) (by simp) ?_
          refine AllReadyH.cons rfl (fun K hK => ?_) AllReadyH.nil
          obtain ⟨i0, hi, hz0, hz1, hz2⟩ := info_parts infoNode
          refine step_append_lies (X4) (by rfl) _ _ _ (by rfl) (w.heap.size + 2) 104 i0 _ 27 392 Try.underlying55 hi hz0 hz1 hz2 rfl (by decide) (.slice va n vc) n (flatN n) (by rfl) A4.out.own ⟨v3.heap.size, 0, none⟩ 1 1 (nZ n) (by rfl) (nZ_len _) N4.out (nZ_one _) (by decide) (by unfold maxLen; omega) (by omega) (by have := S4.out; omega) X4.heap.size rfl ?_
          intro g5 cap5 v5 own5 hgr hloc hg5
          have A5 : Hid (WN w (n + 1) (.slice (some ⟨g5, 0, none⟩) (n + 1) cap5) (v5.setCell ⟨w.heap.size + 1, 0, none⟩ (.slice (some ⟨g5, 0, none⟩) (n + 1) cap5))) := A4.out.next own5 hgr
          have K5 : Below (w.heap.size + 2) X4 v5 := Below.grown (Below.refl _ X4) hgr (by have := S4.out; omega) fun x hx => (ownsRow_from A4.out.own x hx).1
          have r2 : Blk v5 (w.heap.size + 1) #[.slice va n vc, .slice none 0 0, .slice none 0 0, .slice none 0 0] 60 := A4.out.var.below K5 (by omega)
          obtain ⟨a0, _⟩ := Blk.cells4 r2
          have fr := r2.frozen
          clear r2
          clear own5 hgr hloc hg5 K5
          refine hK.out _ _ trivial (fun hH => ?_)
          clear hK K
          simp only [Act.put, List.getElem_toArray, List.getElem_cons_succ, List.getElem_cons_zero, List.setIfInBounds_toArray, List.set_cons_zero, List.set_cons_succ]
          refine wpAnyH_take (i := 6) (v := ?vw4) rfl (by kernel_rfl) (by kernel_rfl) (by kernel_rfl) (fun _ _ _ h => h) (Or.inl ⟨by rfl, ?yw4⟩) (by assumption) ?rw4
          case yw4 =>
            intro w' hSw
            try dsimp only at hSw
            go_simp
            try with_reducible rfl
          simp only [Act.put, List.getElem_toArray, List.getElem_cons_succ, List.getElem_cons_zero, List.setIfInBounds_toArray, List.set_cons_zero, List.set_cons_succ]
          refine wpAnyH_ready (rs := [7]) (by kernel_rfl) (by simp) ?_
          refine AllReadyH.cons rfl (fun K hK => ?_) AllReadyH.nil
          go_simp
          refine hK.out _ _ trivial (fun hH => ?_)
          clear hK K a0 fr
          refine wpAnyH_done (by kernel_rfl) ?_ _
          go_wp2_with fail
          go_roundw
          case rel => exact ⟨n + 1, by omega, by go_num, _, A5.out⟩
          case measure => simp [intOf]; omega
        · go_simp
          refine hK.out _ _ trivial (fun hH => ?_)
          clear hK K
          obtain ⟨X4, hX⟩ : ∃ x, x = v3.alloc (.cells #[.int .i64 n, .int .i64 0, .slice none 0 0, .slice none 0 0, .int .i64 0, .int .i64 0, .int .i64 0, .slice none 0 0, .slice none 0 0, .bool false, .int .i64 0, .int .i64 0, .slice none 0 0, .slice none 0 0, .int .i64 0, .int .i64 0, .slice none 0 0, .bool false, .slice none 0 0, .bool false, .int .i64 0, .int .i64 0, .slice none 0 0, .slice none 0 0, .int .i64 0, .int .i64 0, .slice none 0 0] 104) := ⟨_, rfl⟩
          rw [← hX]
          have A4 : Hid (WN w n (.slice va n vc) X4) := A3.out.keep (by rw [hX]; exact below_new _ _)
          have N4 : Hid (∀ j u, (nZ (n : Int))[j]? = some u → X4.cell? ((⟨v3.heap.size, 0, none⟩ : Addr).add j) = some u) := by show ∀ j u, _; rw [hX]; exact node_new v3 n
          have S4 : Hid (w.heap.size + 2 ≤ X4.heap.size) := A4.out.var.lt
          clear hX
          refine wpAnyH_ready (rs := [1]) (by kernel_rfl) (by simp) ?_
          refine AllReadyH.cons rfl (fun K hK => ?_) AllReadyH.nil
          obtain ⟨z0, _⟩ := Blk.cells4 A4.out.var
          go_simp
          refine hK.out _ _ trivial (fun hH => ?_)
          clear hK K z0
          refine wpAnyH_ready (rs := [5]) (by kernel_rfl) (by simp) ?_
          refine AllReadyH.cons rfl (fun K hK => ?_) AllReadyH.nil
          obtain ⟨i0, hi, hz0, hz1, hz2⟩ := info_parts infoNode
          refine step_append_lies (X4) (by rfl) _ _ _ (by rfl) (w.heap.size + 2) 104 i0 _ 27 392 Try.underlying55 hi hz0 hz1 hz2 rfl (by decide) (.slice va n vc) n (flatN n) (by rfl) A4.out.own ⟨v3.heap.size, 0, none⟩ 1 1 (nZ n) (by rfl) (nZ_len _) N4.out (nZ_one _) (by decide) (by unfold maxLen; omega) (by omega) (by have := S4.out; omega) X4.heap.size rfl ?_
          intro g5 cap5 v5 own5 hgr hloc hg5
          have A5 : Hid (WN w (n + 1) (.slice (some ⟨g5, 0, none⟩) (n + 1) cap5) (v5.setCell ⟨w.heap.size + 1, 0, none⟩ (.slice (some ⟨g5, 0, none⟩) (n + 1) cap5))) := A4.out.next own5 hgr
          have K5 : Below (w.heap.size + 2) X4 v5 := Below.grown (Below.refl _ X4) hgr (by have := S4.out; omega) fun x hx => (ownsRow_from A4.out.own x hx).1
          have r2 : Blk v5 (w.heap.size + 1) #[.slice va n vc, .slice none 0 0, .slice none 0 0, .slice none 0 0] 60 := A4.out.var.below K5 (by omega)
          obtain ⟨a0, _⟩ := Blk.cells4 r2
          have fr := r2.frozen
          clear r2
          clear own5 hgr hloc hg5 K5
          refine hK.out _ _ trivial (fun hH => ?_)
          clear hK K
          simp only [Act.put, List.getElem_toArray, List.getElem_cons_succ, List.getElem_cons_zero, List.setIfInBounds_toArray, List.set_cons_zero, List.set_cons_succ]
          refine wpAnyH_take (i := 6) (v := ?vw5) rfl (by kernel_rfl) (by kernel_rfl) (by kernel_rfl) (fun _ _ _ h => h) (Or.inl ⟨by rfl, ?yw5⟩) (by assumption) ?rw5
          case yw5 =>
            intro w' hSw
            try dsimp only at hSw
            go_simp
            try with_reducible rfl
          simp only [Act.put, List.getElem_toArray, List.getElem_cons_succ, List.getElem_cons_zero, List.setIfInBounds_toArray, List.set_cons_zero, List.set_cons_succ]
          refine wpAnyH_ready (rs := [7]) (by kernel_rfl) (by simp) ?_
          refine AllReadyH.cons rfl (fun K hK => ?_) AllReadyH.nil
          go_simp
          refine hK.out _ _ trivial (fun hH => ?_)
          clear hK K a0 fr
          refine wpAnyH_done (by kernel_rfl) ?_ _
          go_wp2_with fail
          go_roundw
          case rel => exact ⟨n + 1, by omega, by go_num, _, A5.out⟩
          case measure => simp [intOf]; omega
    · have hni : ¬ (n : Int) < 3 := by omega
      have e3 : n = 3 := by omega
      subst e3
      obtain ⟨g, cap, hv, hc, hg, hns⟩ := AN.out.ns
      injection hv with hv1 hv2 hv3
      subst hv1
      subst hv3
      obtain ⟨z0, z1, z2, z3⟩ := Blk.cells4 AN.out.res
      obtain ⟨y0, y1, y2, y3⟩ := Blk.cells4 AN.out.var
      have fr := AN.out.res.frozen
      obtain ⟨X, hX⟩ : ∃ X, X = (((wr.setCell ⟨w.heap.size, 0, none⟩ (.slice (some ⟨g, 0, none⟩) 3 vc)).setCell ⟨w.heap.size, 1, none⟩ (.slice none 0 0)).setCell ⟨w.heap.size, 2, none⟩ (.slice none 0 0)).setCell ⟨w.heap.size, 3, none⟩ (.slice none 0 0) := ⟨_, rfl⟩
      have HX : Hid (X = _) := hX
      have CX : Hid (Blk X w.heap.size #[.slice (some ⟨g, 0, none⟩) 3 vc, .slice none 0 0, .slice none 0 0, .slice none 0 0] 60) := by
        show Blk _ _ _ _
        rw [hX]
        exact ((((AN.out.res.set 0 _).set 1 _).set 2 _).set 3 _).eq (by simp)
      have F : Hid (OpenW w (.returned (.agg #[.slice (some ⟨g, 0, none⟩) 3 vc, .slice none 0 0, .slice none 0 0, .slice none 0 0])) X) := by
        have o : Only w.heap.size wr X := by rw [hX]; exact ((((Only.refl _ _).setCell _).setCell _).setCell _).setCell _
        exact ⟨g, vc, rfl, hc, hns.only o (by omega), by omega, AN.out.bel.trans (o.below (Nat.le_refl _))⟩
      clear hX hns
      go_wp2_with fail
      rw [← HX.out]
      obtain ⟨x0, x1, x2, x3⟩ := Blk.cells4 CX.out
      refine bodyPost_ret (v := .agg #[.slice (some ⟨g, 0, none⟩) 3 vc, .slice none 0 0, .slice none 0 0, .slice none 0 0]) (by simp [results, Try.results30, go_sem, x0, x1, x2, x3]) rfl ?_
      exact F.out

set_option maxRecDepth 100000 in
set_option maxHeartbeats 4000000 in
theorem specWorldOpen (w : World) : Calls Try.prog 29 #[] w fun e w' => OpenW w e w' := by
  obtain ⟨W, hW⟩ : ∃ W, W = (w.alloc (.cells #[.slice none 0 0, .slice none 0 0, .slice none 0 0, .slice none 0 0] 60)).alloc (.cells #[.slice none 0 0, .slice none 0 0, .slice none 0 0, .slice none 0 0] 60) := ⟨_, rfl⟩
  have HW : Hid (W = (w.alloc (.cells #[.slice none 0 0, .slice none 0 0, .slice none 0 0, .slice none 0 0] 60)).alloc (.cells #[.slice none 0 0, .slice none 0 0, .slice none 0 0, .slice none 0 0] 60)) := hW
  have AW : Hid (WN w 0 (.slice none 0 0) W) := by
    show WN _ _ _ _
    rw [hW]
    exact ⟨(Blk.new _ _ _).alloc _, Blk.new2 _ _ _ _, World.ownsRow_nil _ _ _ 27, ((Below.refl _ _).alloc (Nat.le_refl _) _).alloc (by simp) _⟩
  clear hW
  go_enter Try.func29, Try.ntmps29
  go_upto_region 2 with fail
  rw [← HW.out]
  clear HW
  go_wp2_with fail
  go_loopw [2] (fun i wr => ∃ n : Nat, n ≤ 3 ∧ i = .int .i64 n ∧ Hid (∃ v, WN w n v wr)) (fun i _ => 3 - (intOf i).toNat)
  case atStart => exact ⟨0, by omega, rfl, _, AW.out⟩
  case round =>
    obtain ⟨n, hn, rfl, HN⟩ := hrel
    obtain ⟨v, hv⟩ := HN.out
    obtain ⟨va, vc, rfl⟩ := hv.form
    have AN : Hid (WN w n (.slice va n vc) wr) := hv
    clear hv HN AW
    by_cases hlt : n < 3
    · have hni : (n : Int) < 3 := by omega
      have CN : Hid (∀ W, Calls Try.prog 66 #[.int .i64 n] W fun e w' => e = .returned (.agg #[.int .i64 n, .int .i64 0, .slice none 0 0, .slice none 0 0, .int .i64 0, .int .i64 0, .int .i64 0, .slice none 0 0, .slice none 0 0, .bool false, .int .i64 0, .int .i64 0, .slice none 0 0, .slice none 0 0, .int .i64 0, .int .i64 0, .slice none 0 0, .bool false, .slice none 0 0, .bool false, .int .i64 0, .int .i64 0, .slice none 0 0, .slice none 0 0, .int .i64 0, .int .i64 0, .slice none 0 0]) ∧ Below W.heap.size W w') := fun W => by
        have h := specNodeOpen n W
        rw [show idOf (n : Int) = n by unfold idOf; rw [if_pos (by omega)]] at h
        exact h
      go_upto_region 5 with fail
      refine wp_region_held_drew (S := (fun w' : World => True)) (by kernel_rfl) trivial (fun hHeld => ?_)
      obtain ⟨v0, hV⟩ : ∃ V, V = wr.drew := ⟨_, rfl⟩
      have A0 : Hid (WN w n (.slice va n vc) v0) := AN.out.keep (by rw [hV]; exact (Below.refl _ _).drew)
      rw [← hV]
      clear hV AN
      refine wpAnyH_take (i := 0) (v := ?vw6) rfl (by kernel_rfl) (by kernel_rfl) (by kernel_rfl) (fun _ _ _ h => h) (Or.inl ⟨by rfl, ?yw6⟩) (by assumption) ?rw6
      case yw6 =>
        intro w' hSw
        try dsimp only at hSw
        go_simp
        try with_reducible rfl
      simp only [Act.put, List.getElem_toArray, List.getElem_cons_succ, List.getElem_cons_zero, List.setIfInBounds_toArray, List.set_cons_zero, List.set_cons_succ]
      refine wpAnyH_take (i := 2) (v := ?vw7) rfl (by kernel_rfl) (by kernel_rfl) (by kernel_rfl) (fun _ _ _ h => h) (Or.inl ⟨by rfl, ?yw7⟩) (by assumption) ?rw7
      case yw7 =>
        intro w' hSw
        try dsimp only at hSw
        go_simp
        try with_reducible rfl
      simp only [Act.put, List.getElem_toArray, List.getElem_cons_succ, List.getElem_cons_zero, List.setIfInBounds_toArray, List.set_cons_zero, List.set_cons_succ]
      refine wpAnyH_ready (rs := [1, 3]) (by kernel_rfl) (by simp) ?_
      refine AllReadyH.cons rfl (fun K hK => ?_) (AllReadyH.cons rfl (fun K hK => ?_) AllReadyH.nil)
      · obtain ⟨z0, _⟩ := Blk.cells4 A0.out.var
        go_simp
        refine hK.out _ _ trivial (fun hH => ?_)
        clear hK K z0
        refine wpAnyH_ready (rs := [3]) (by kernel_rfl) (by simp) ?_
        refine AllReadyH.cons rfl (fun K hK => ?_) AllReadyH.nil
        go_simp
        refine Calls.mono (CN.out v0) ?_
        rintro e v3 ⟨rfl, b3⟩
        have A3 : Hid (WN w n (.slice va n vc) v3) := A0.out.keep b3
        refine hK.out _ _ trivial (fun hH => ?_)
        clear hK K b3
        refine wpAnyH_ready (rs := [4]) (by kernel_rfl) (by simp) ?_
        refine AllReadyH.cons rfl (fun K hK => ?_) AllReadyH.nil
        go_simp
        refine hK.out _ _ trivial (fun hH => ?_)
        clear hK K
        obtain ⟨X4, hX⟩ : ∃ x, x = v3.alloc (.cells #[.int .i64 n, .int .i64 0, .slice none 0 0, .slice none 0 0, .int .i64 0, .int .i64 0, .int .i64 0, .slice none 0 0, .slice none 0 0, .bool false, .int .i64 0, .int .i64 0, .slice none 0 0, .slice none 0 0, .int .i64 0, .int .i64 0, .slice none 0 0, .bool false, .slice none 0 0, .bool false, .int .i64 0, .int .i64 0, .slice none 0 0, .slice none 0 0, .int .i64 0, .int .i64 0, .slice none 0 0] 104) := ⟨_, rfl⟩
        rw [← hX]
        have A4 : Hid (WN w n (.slice va n vc) X4) := A3.out.keep (by rw [hX]; exact below_new _ _)
        have N4 : Hid (∀ j u, (nZ (n : Int))[j]? = some u → X4.cell? ((⟨v3.heap.size, 0, none⟩ : Addr).add j) = some u) := by show ∀ j u, _; rw [hX]; exact node_new v3 n
        have S4 : Hid (w.heap.size + 2 ≤ X4.heap.size) := A4.out.var.lt
        clear hX
        refine wpAnyH_ready (rs := [5]) (by kernel_rfl) (by simp) ?_
        refine AllReadyH.cons rfl (fun K hK => ?_) AllReadyH.nil
        obtain ⟨i0, hi, hz0, hz1, hz2⟩ := info_parts infoNode
        refine step_append_lies (X4) (by rfl) _ _ _ (by rfl) (w.heap.size + 2) 104 i0 _ 27 392 Try.underlying55 hi hz0 hz1 hz2 rfl (by decide) (.slice va n vc) n (flatN n) (by rfl) A4.out.own ⟨v3.heap.size, 0, none⟩ 1 1 (nZ n) (by rfl) (nZ_len _) N4.out (nZ_one _) (by decide) (by unfold maxLen; omega) (by omega) (by have := S4.out; omega) X4.heap.size rfl ?_
        intro g5 cap5 v5 own5 hgr hloc hg5
        have A5 : Hid (WN w (n + 1) (.slice (some ⟨g5, 0, none⟩) (n + 1) cap5) (v5.setCell ⟨w.heap.size + 1, 0, none⟩ (.slice (some ⟨g5, 0, none⟩) (n + 1) cap5))) := A4.out.next own5 hgr
        have K5 : Below (w.heap.size + 2) X4 v5 := Below.grown (Below.refl _ X4) hgr (by have := S4.out; omega) fun x hx => (ownsRow_from A4.out.own x hx).1
        have r2 : Blk v5 (w.heap.size + 1) #[.slice va n vc, .slice none 0 0, .slice none 0 0, .slice none 0 0] 60 := A4.out.var.below K5 (by omega)
        obtain ⟨a0, _⟩ := Blk.cells4 r2
        have fr := r2.frozen
        clear r2
        clear own5 hgr hloc hg5 K5
        refine hK.out _ _ trivial (fun hH => ?_)
        clear hK K
        simp only [Act.put, List.getElem_toArray, List.getElem_cons_succ, List.getElem_cons_zero, List.setIfInBounds_toArray, List.set_cons_zero, List.set_cons_succ]
        refine wpAnyH_take (i := 6) (v := ?vw8) rfl (by kernel_rfl) (by kernel_rfl) (by kernel_rfl) (fun _ _ _ h => h) (Or.inl ⟨by rfl, ?yw8⟩) (by assumption) ?rw8
        case yw8 =>
          intro w' hSw
          try dsimp only at hSw
          go_simp
          try with_reducible rfl
        simp only [Act.put, List.getElem_toArray, List.getElem_cons_succ, List.getElem_cons_zero, List.setIfInBounds_toArray, List.set_cons_zero, List.set_cons_succ]
        refine wpAnyH_ready (rs := [7]) (by kernel_rfl) (by simp) ?_
        refine AllReadyH.cons rfl (fun K hK => ?_) AllReadyH.nil
        go_simp
        refine hK.out _ _ trivial (fun hH => ?_)
        clear hK K a0 fr
        refine wpAnyH_done (by kernel_rfl) ?_ _
        go_wp2_with fail
        go_roundw
        case rel => exact ⟨n + 1, by omega, by go_num, _, A5.out⟩
        case measure => simp [intOf]; omega
      · go_simp
        refine Calls.mono (CN.out v0) ?_
        rintro e v3 ⟨rfl, b3⟩
        have A3 : Hid (WN w n (.slice va n vc) v3) := A0.out.keep b3
        refine hK.out _ _ trivial (fun hH => ?_)
        clear hK K b3
        refine wpAnyH_ready (rs := [1, 4]) (by kernel_rfl) (by simp) ?_
        refine AllReadyH.cons rfl (fun K hK => ?_) (AllReadyH.cons rfl (fun K hK => ?_) AllReadyH.nil)
        · obtain ⟨z0, _⟩ := Blk.cells4 A3.out.var
          go_simp
          refine hK.out _ _ trivial (fun hH => ?_)
          clear hK K z0
          refine wpAnyH_ready (rs := [4]) (by kernel_rfl) (by simp) ?_
          refine AllReadyH.cons rfl (fun K hK => ?_) AllReadyH.nil
          go_simp
          refine hK.out _ _ trivial (fun hH => ?_)
          clear hK K
          obtain ⟨X4, hX⟩ : ∃ x, x = v3.alloc (.cells #[.int .i64 n, .int .i64 0, .slice none 0 0, .slice none 0 0, .int .i64 0, .int .i64 0, .int .i64 0, .slice none 0 0, .slice none 0 0, .bool false, .int .i64 0, .int .i64 0, .slice none 0 0, .slice none 0 0, .int .i64 0, .int .i64 0, .slice none 0 0, .bool false, .slice none 0 0, .bool false, .int .i64 0, .int .i64 0, .slice none 0 0, .slice none 0 0, .int .i64 0, .int .i64 0, .slice none 0 0] 104) := ⟨_, rfl⟩
          rw [← hX]
          have A4 : Hid (WN w n (.slice va n vc) X4) := A3.out.keep (by rw [hX]; exact below_new _ _)
          have N4 : Hid (∀ j u, (nZ (n : Int))[j]? = some u → X4.cell? ((⟨v3.heap.size, 0, none⟩ : Addr).add j) = some u) := by show ∀ j u, _; rw [hX]; exact node_new v3 n
          have S4 : Hid (w.heap.size + 2 ≤ X4.heap.size) := A4.out.var.lt
          clear hX
          refine wpAnyH_ready (rs := [5]) (by kernel_rfl) (by simp) ?_
          refine AllReadyH.cons rfl (fun K hK => ?_) AllReadyH.nil
          obtain ⟨i0, hi, hz0, hz1, hz2⟩ := info_parts infoNode
          refine step_append_lies (X4) (by rfl) _ _ _ (by rfl) (w.heap.size + 2) 104 i0 _ 27 392 Try.underlying55 hi hz0 hz1 hz2 rfl (by decide) (.slice va n vc) n (flatN n) (by rfl) A4.out.own ⟨v3.heap.size, 0, none⟩ 1 1 (nZ n) (by rfl) (nZ_len _) N4.out (nZ_one _) (by decide) (by unfold maxLen; omega) (by omega) (by have := S4.out; omega) X4.heap.size rfl ?_
          intro g5 cap5 v5 own5 hgr hloc hg5
          have A5 : Hid (WN w (n + 1) (.slice (some ⟨g5, 0, none⟩) (n + 1) cap5) (v5.setCell ⟨w.heap.size + 1, 0, none⟩ (.slice (some ⟨g5, 0, none⟩) (n + 1) cap5))) := A4.out.next own5 hgr
          have K5 : Below (w.heap.size + 2) X4 v5 := Below.grown (Below.refl _ X4) hgr (by have := S4.out; omega) fun x hx => (ownsRow_from A4.out.own x hx).1
          have r2 : Blk v5 (w.heap.size + 1) #[.slice va n vc, .slice none 0 0, .slice none 0 0, .slice none 0 0] 60 := A4.out.var.below K5 (by omega)
          obtain ⟨a0, _⟩ := Blk.cells4 r2
          have fr := r2.frozen
          clear r2
          clear own5 hgr hloc hg5 K5
          refine hK.out _ _ trivial (fun hH => ?_)
          clear hK K
          simp only [Act.put, List.getElem_toArray, List.getElem_cons_succ, List.getElem_cons_zero, List.setIfInBounds_toArray, List.set_cons_zero, List.set_cons_succ]
          refine wpAnyH_take (i := 6) (v := ?vw9) rfl (by kernel_rfl) (by kernel_rfl) (by kernel_rfl) (fun _ _ _ h => h) (Or.inl ⟨by rfl, ?yw9⟩) (by assumption) ?rw9
          case yw9 =>
            intro w' hSw
            try dsimp only at hSw
            go_simp
            try with_reducible rfl
          simp only [Act.put, List.getElem_toArray, List.getElem_cons_succ, List.getElem_cons_zero, List.setIfInBounds_toArray, List.set_cons_zero, List.set_cons_succ]
          refine wpAnyH_ready (rs := [7]) (by kernel_rfl) (by simp) ?_
          refine AllReadyH.cons rfl (fun K hK => ?_) AllReadyH.nil
          go_simp
          refine hK.out _ _ trivial (fun hH => ?_)
          clear hK K a0 fr
          refine wpAnyH_done (by kernel_rfl) ?_ _
          go_wp2_with fail
          go_roundw
          case rel => exact ⟨n + 1, by omega, by go_num, _, A5.out⟩
          case measure => simp [intOf]; omega
        · go_simp
          refine hK.out _ _ trivial (fun hH => ?_)
          clear hK K
          obtain ⟨X4, hX⟩ : ∃ x, x = v3.alloc (.cells #[.int .i64 n, .int .i64 0, .slice none 0 0, .slice none 0 0, .int .i64 0, .int .i64 0, .int .i64 0, .slice none 0 0, .slice none 0 0, .bool false, .int .i64 0, .int .i64 0, .slice none 0 0, .slice none 0 0, .int .i64 0, .int .i64 0, .slice none 0 0, .bool false, .slice none 0 0, .bool false, .int .i64 0, .int .i64 0, .slice none 0 0, .slice none 0 0, .int .i64 0, .int .i64 0, .slice none 0 0] 104) := ⟨_, rfl⟩
          rw [← hX]
          have A4 : Hid (WN w n (.slice va n vc) X4) := A3.out.keep (by rw [hX]; exact below_new _ _)
          have N4 : Hid (∀ j u, (nZ (n : Int))[j]? = some u → X4.cell? ((⟨v3.heap.size, 0, none⟩ : Addr).add j) = some u) := by show ∀ j u, _; rw [hX]; exact node_new v3 n
          have S4 : Hid (w.heap.size + 2 ≤ X4.heap.size) := A4.out.var.lt
          clear hX
          refine wpAnyH_ready (rs := [1]) (by kernel_rfl) (by simp) ?_
          refine AllReadyH.cons rfl (fun K hK => ?_) AllReadyH.nil
          obtain ⟨z0, _⟩ := Blk.cells4 A4.out.var
          go_simp
          refine hK.out _ _ trivial (fun hH => ?_)
          clear hK K z0
          refine wpAnyH_ready (rs := [5]) (by kernel_rfl) (by simp) ?_
          refine AllReadyH.cons rfl (fun K hK => ?_) AllReadyH.nil
          obtain ⟨i0, hi, hz0, hz1, hz2⟩ := info_parts infoNode
          refine step_append_lies (X4) (by rfl) _ _ _ (by rfl) (w.heap.size + 2) 104 i0 _ 27 392 Try.underlying55 hi hz0 hz1 hz2 rfl (by decide) (.slice va n vc) n (flatN n) (by rfl) A4.out.own ⟨v3.heap.size, 0, none⟩ 1 1 (nZ n) (by rfl) (nZ_len _) N4.out (nZ_one _) (by decide) (by unfold maxLen; omega) (by omega) (by have := S4.out; omega) X4.heap.size rfl ?_
          intro g5 cap5 v5 own5 hgr hloc hg5
          have A5 : Hid (WN w (n + 1) (.slice (some ⟨g5, 0, none⟩) (n + 1) cap5) (v5.setCell ⟨w.heap.size + 1, 0, none⟩ (.slice (some ⟨g5, 0, none⟩) (n + 1) cap5))) := A4.out.next own5 hgr
          have K5 : Below (w.heap.size + 2) X4 v5 := Below.grown (Below.refl _ X4) hgr (by have := S4.out; omega) fun x hx => (ownsRow_from A4.out.own x hx).1
          have r2 : Blk v5 (w.heap.size + 1) #[.slice va n vc, .slice none 0 0, .slice none 0 0, .slice none 0 0] 60 := A4.out.var.below K5 (by omega)
          obtain ⟨a0, _⟩ := Blk.cells4 r2
          have fr := r2.frozen
          clear r2
          clear own5 hgr hloc hg5 K5
          refine hK.out _ _ trivial (fun hH => ?_)
          clear hK K
          simp only [Act.put, List.getElem_toArray, List.getElem_cons_succ, List.getElem_cons_zero, List.setIfInBounds_toArray, List.set_cons_zero, List.set_cons_succ]
          refine wpAnyH_take (i := 6) (v := ?vw10) rfl (by kernel_rfl) (by kernel_rfl) (by kernel_rfl) (fun _ _ _ h => h) (Or.inl ⟨by rfl, ?yw10⟩) (by assumption) ?rw10
          case yw10 =>
            intro w' hSw
            try dsimp only at hSw
            go_simp
            try with_reducible rfl
          simp only [Act.put, List.getElem_toArray, List.getElem_cons_succ, List.getElem_cons_zero, List.setIfInBounds_toArray, List.set_cons_zero, List.set_cons_succ]
          refine wpAnyH_ready (rs := [7]) (by kernel_rfl) (by simp) ?_
          refine AllReadyH.cons rfl (fun K hK => ?_) AllReadyH.nil
          go_simp
          refine hK.out _ _ trivial (fun hH => ?_)
          clear hK K a0 fr
          refine wpAnyH_done (by kernel_rfl) ?_ _
          go_wp2_with fail
          go_roundw
          case rel => exact ⟨n + 1, by omega, by go_num, _, A5.out⟩
          case measure => simp [intOf]; omega
    · have hni : ¬ (n : Int) < 3 := by omega
      have e3 : n = 3 := by omega
      subst e3
      obtain ⟨g, cap, hv, hc, hg, hns⟩ := AN.out.ns
      injection hv with hv1 hv2 hv3
      subst hv1
      subst hv3
      obtain ⟨z0, z1, z2, z3⟩ := Blk.cells4 AN.out.res
      obtain ⟨y0, y1, y2, y3⟩ := Blk.cells4 AN.out.var
      have fr := AN.out.res.frozen
      obtain ⟨X, hX⟩ : ∃ X, X = (((wr.setCell ⟨w.heap.size, 0, none⟩ (.slice (some ⟨g, 0, none⟩) 3 vc)).setCell ⟨w.heap.size, 1, none⟩ (.slice none 0 0)).setCell ⟨w.heap.size, 2, none⟩ (.slice none 0 0)).setCell ⟨w.heap.size, 3, none⟩ (.slice none 0 0) := ⟨_, rfl⟩
      have HX : Hid (X = _) := hX
      have CX : Hid (Blk X w.heap.size #[.slice (some ⟨g, 0, none⟩) 3 vc, .slice none 0 0, .slice none 0 0, .slice none 0 0] 60) := by
        show Blk _ _ _ _
        rw [hX]
        exact ((((AN.out.res.set 0 _).set 1 _).set 2 _).set 3 _).eq (by simp)
      have F : Hid (OpenW w (.returned (.agg #[.slice (some ⟨g, 0, none⟩) 3 vc, .slice none 0 0, .slice none 0 0, .slice none 0 0])) X) := by
        have o : Only w.heap.size wr X := by rw [hX]; exact ((((Only.refl _ _).setCell _).setCell _).setCell _).setCell _
        exact ⟨g, vc, rfl, hc, hns.only o (by omega), by omega, AN.out.bel.trans (o.below (Nat.le_refl _))⟩
      clear hX hns
      go_wp2_with fail
      rw [← HX.out]
      obtain ⟨x0, x1, x2, x3⟩ := Blk.cells4 CX.out
      refine bodyPost_ret (v := .agg #[.slice (some ⟨g, 0, none⟩) 3 vc, .slice none 0 0, .slice none 0 0, .slice none 0 0]) (by simp [results, Try.results29, go_sem, x0, x1, x2, x3]) rfl ?_
      exact F.out
end Go.Proofs.Ytfifiobcmdmefaa.Own

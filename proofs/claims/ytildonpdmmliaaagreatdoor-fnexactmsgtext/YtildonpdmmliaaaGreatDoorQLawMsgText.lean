/-
  Own text, by program: laws.FnExactMsgText.
-/
import Derived.Test.YtildonpdmmliaaaGreatDoorPk11
import Derived.Test.YtildonpdmmliaaaGreatDoorPk8
namespace Go.Proofs.YtildonpdmmliaaaGreatDoor.Own
open Go.RowKit
set_option linter.unusedVariables false
set_option linter.unusedSimpArgs false

theorem sz_lists {x : MM} (h : x.sz ≤ 1048576) : x.b.xs.length + x.b.ys.length ≤ 2 ^ 21 ∧ ∀ i, i < x.vs.length → (x.vs.getD i v0).b.xs.length + (x.vs.getD i v0).b.ys.length ≤ 2 ^ 21 := by
  unfold MM.sz at h
  exact ⟨by omega, fun i hi => by have := sumV_at x.vs hi; omega⟩
theorem cpM_lists {x : MM} (h : x.sz ≤ 1048576) (g : GM) : (cpM g x).b.xs.length + (cpM g x).b.ys.length ≤ 2 ^ 21 ∧ ∀ i, i < (cpM g x).vs.length → ((cpM g x).vs.getD i v0).b.xs.length + ((cpM g x).vs.getD i v0).b.ys.length ≤ 2 ^ 21 := by
  obtain ⟨h1, h2⟩ := sz_lists h
  refine ⟨h1, fun i hi => ?_⟩
  have hi' : i < (bodies x.vs).length := by rw [← vmsOf_len g.2.2.2]; exact hi
  show ((vmsOf g.2.2.2 (bodies x.vs)).getD i v0).b.xs.length + _ ≤ _
  have e : (cpM g x).vs.getD i v0 = vmOf (g.2.2.2.getD i (0, 0)) ((bodies x.vs).getD i (0, e0)) := vmsOf_at _ _ hi'
  rw [show (vmsOf g.2.2.2 (bodies x.vs)).getD i v0 = _ from e, e, bodies_getD]
  rw [bodies_len] at hi'
  exact h2 i hi'
theorem cpM_wf {x : MM} (h : WfM x) (g : GM) : WfM (cpM g x) := by
  obtain ⟨a, b, c, d, e, f, v⟩ := h
  refine ⟨a, b, c, d, e, f, ?_⟩
  show WfVs (bodies (vmsOf g.2.2.2 (bodies x.vs)))
  rw [vmsOf_bodies]; exact v
theorem specTextM (x : MM) (g : GM) (w : World) (h : OwnM w g x) (hs : x.sz ≤ 1048576) (wf : WfM x) :
    Calls Tryz.prog 5 #[.agg #[.int .i64 x.kind, .int .i64 x.src, .int .i64 x.dst, .int .i64 x.bal, .int .i64 x.slot, .bool x.b.n, .int .i64 x.b.p, .int .i64 x.b.q, .slice (some ⟨g.1, 0, none⟩) x.b.xs.length x.b.xs.length, .slice (some ⟨g.2.1, 0, none⟩) x.b.ys.length x.b.ys.length, .int .i64 x.b.v, .int .i64 x.b.k, .slice (some ⟨g.2.2.1, 0, none⟩) x.vs.length x.vs.length]] w fun e w' => e = .returned (.string (str (msgText x))) ∧ Below w.heap.size w w' := by
  have h := specMsgText (cpM g x) w h.at (cpM_fit hs g) (cpM_wf wf g) (cpM_lists hs g).1 (cpM_lists hs g).2
  rw [cpM_cells, msgText_cp] at h
  exact h
theorem implTextM (x : MM) (g : GM) (w : World) (ht : Tab w) (h : OwnM w g x) (hs : x.sz ≤ 1048576) (wf : WfM x) :
    Calls Tryz.prog 7 #[.agg #[.int .i64 x.kind, .int .i64 x.src, .int .i64 x.dst, .int .i64 x.bal, .int .i64 x.slot, .bool x.b.n, .int .i64 x.b.p, .int .i64 x.b.q, .slice (some ⟨g.1, 0, none⟩) x.b.xs.length x.b.xs.length, .slice (some ⟨g.2.1, 0, none⟩) x.b.ys.length x.b.ys.length, .int .i64 x.b.v, .int .i64 x.b.k, .slice (some ⟨g.2.2.1, 0, none⟩) x.vs.length x.vs.length]] w fun e w' => e = .returned (.string (str (msgText x))) ∧ Below w.heap.size w w' := by
  have h := implMsgText (cpM g x) w ht h.at (cpM_fit hs g) (cpM_wf wf g) (cpM_lists hs g).1 (cpM_lists hs g).2
  rw [cpM_cells, msgText_cp] at h
  exact h

set_option maxRecDepth 100000 in
set_option maxHeartbeats 4000000 in
theorem lawMsgText (x : MM) (w : World) (ht : Tab w) (h1 : InM w x) (wf : WfM x) :
    Calls Tryz.prog 3 #[.agg #[.int .i64 x.kind, .int .i64 x.src, .int .i64 x.dst, .int .i64 x.bal, .int .i64 x.slot, .bool x.b.n, .int .i64 x.b.p, .int .i64 x.b.q, .slice x.a1 x.b.xs.length x.c1, .slice x.a2 x.b.ys.length x.c2, .int .i64 x.b.v, .int .i64 x.b.k, .slice x.a x.vs.length x.c]] w fun e w' => e = .returned (.bool true) ∧ Below w.heap.size w w' := by
  have H1 : Hid (InM w x) := h1
  have HT : Hid (Tab w) := ht
  have WF : Hid (WfM x) := wf
  clear h1 ht wf
  obtain ⟨W, hW⟩ : ∃ W, W = w.alloc (.cells #[.int .i64 x.kind, .int .i64 x.src, .int .i64 x.dst, .int .i64 x.bal, .int .i64 x.slot, .bool x.b.n, .int .i64 x.b.p, .int .i64 x.b.q, .slice x.a1 x.b.xs.length x.c1, .slice x.a2 x.b.ys.length x.c2, .int .i64 x.b.v, .int .i64 x.b.k, .slice x.a x.vs.length x.c] 32) := ⟨_, rfl⟩
  have BW : Hid (Below w.heap.size w W) := by show Below _ _ _; rw [hW]; exact (Below.refl _ _).alloc (Nat.le_refl _) _
  have G0 : Hid (Blk W w.heap.size #[.int .i64 x.kind, .int .i64 x.src, .int .i64 x.dst, .int .i64 x.bal, .int .i64 x.slot, .bool x.b.n, .int .i64 x.b.p, .int .i64 x.b.q, .slice x.a1 x.b.xs.length x.c1, .slice x.a2 x.b.ys.length x.c2, .int .i64 x.b.v, .int .i64 x.b.k, .slice x.a x.vs.length x.c] 32) := by show Blk _ _ _ _; rw [hW]; exact Blk.new _ _ _
  have HW : Hid (W = _) := hW
  clear hW
  have CSZ := szM x 1048576 W (H1.out.below BW.out) (by decide) (by decide)
  by_cases hn : x.sz ≤ 1048576
  · have hs : Hid (x.sz ≤ 1048576) := hn
    rw [if_neg (by omega)] at CSZ
    have hpos : ¬ (1048576 : Int) - (x.sz : Int) < 0 := by omega
    generalize (1048576 : Int) - (x.sz : Int) = z at CSZ hpos
    have HSZ : Hid _ := CSZ
    clear CSZ hn
    go_enter Tryz.func3, Tryz.ntmps3
    go_wp2_with fail
    rw [← HW.out]
    refine Calls.mono HSZ.out ?_
    rintro e w1 ⟨rfl, b1⟩
    have B1 : Hid (Below W.heap.size W w1) := b1
    clear b1
    obtain ⟨q0, q1, q2, q3, q4, q5, q6, q7, q8, q9, q10, q11, q12⟩ := (G0.out.keep B1.out).cells13
    go_wp2_with fail
    refine (toM x w1 ((H1.out.below BW.out).below B1.out) hs.out).mono ?_
    rintro e w2 ⟨g1, rfl, own1, b2⟩
    have R1 : Hid (OwnM w2 g1 x) := own1
    have B2 : Hid (Below W.heap.size W w2) := B1.out.trans (b2.mono B1.out.size)
    clear own1 b2 q0 q1 q2 q3 q4 q5 q6 q7 q8 q9 q10 q11 q12
    go_wp2_with fail
    refine (specTextM x g1 w2 R1.out hs.out WF.out).mono ?_
    rintro e w3 ⟨rfl, b3⟩
    have B3 : Hid (Below W.heap.size W w3) := B2.out.trans (b3.mono B2.out.size)
    clear b3
    obtain ⟨q0, q1, q2, q3, q4, q5, q6, q7, q8, q9, q10, q11, q12⟩ := (G0.out.keep B3.out).cells13
    go_wp2_with fail
    refine (toM x w3 ((H1.out.below BW.out).below B3.out) hs.out).mono ?_
    rintro e w4 ⟨g2, rfl, own2, b4⟩
    have R2 : Hid (OwnM w4 g2 x) := own2
    have B4 : Hid (Below W.heap.size W w4) := B3.out.trans (b4.mono B3.out.size)
    clear own2 b4 q0 q1 q2 q3 q4 q5 q6 q7 q8 q9 q10 q11 q12
    obtain ⟨X, hX⟩ : ∃ X, X = w4.alloc (.cells #[.int .i64 x.kind, .int .i64 x.src, .int .i64 x.dst, .int .i64 x.bal, .int .i64 x.slot, .bool x.b.n, .int .i64 x.b.p, .int .i64 x.b.q, .slice (some ⟨g2.1, 0, none⟩) x.b.xs.length x.b.xs.length, .slice (some ⟨g2.2.1, 0, none⟩) x.b.ys.length x.b.ys.length, .int .i64 x.b.v, .int .i64 x.b.k, .slice (some ⟨g2.2.2.1, 0, none⟩) x.vs.length x.vs.length] 44) := ⟨_, rfl⟩
    have BX : Hid (Below w4.heap.size w4 X) := by show Below _ _ _; rw [hX]; exact (Below.refl _ _).alloc (Nat.le_refl _) _
    have GX : Hid (Blk X w4.heap.size #[.int .i64 x.kind, .int .i64 x.src, .int .i64 x.dst, .int .i64 x.bal, .int .i64 x.slot, .bool x.b.n, .int .i64 x.b.p, .int .i64 x.b.q, .slice (some ⟨g2.1, 0, none⟩) x.b.xs.length x.b.xs.length, .slice (some ⟨g2.2.1, 0, none⟩) x.b.ys.length x.b.ys.length, .int .i64 x.b.v, .int .i64 x.b.k, .slice (some ⟨g2.2.2.1, 0, none⟩) x.vs.length x.vs.length] 44) := by show Blk _ _ _ _; rw [hX]; exact Blk.new _ _ _
    have HX : Hid (X = _) := hX
    clear hX
    go_wp2_with fail
    rw [← HX.out]
    have R3 : Hid (OwnM X g2 x) := R2.out.below BX.out
    have BWX : Hid (Below W.heap.size W X) := B4.out.trans (BX.out.mono B4.out.size)
    refine (implTextM x g2 X (tab_below HT.out HT.out (BW.out.trans (BWX.out.mono BW.out.size)) (Nat.le_refl _)) R3.out hs.out WF.out).mono ?_
    rintro e w5 ⟨rfl, b5⟩
    have R6 : Hid (OwnM w5 g2 x) := R3.out.below b5
    have B6 : Hid (Below W.heap.size W w5) := BWX.out.trans (b5.mono BWX.out.size)
    have G5 : Hid (Blk w5 w4.heap.size _ _) := GX.out.keep b5
    clear b5
    obtain ⟨q0, q1, q2, q3, q4, q5, q6, q7, q8, q9, q10, q11, q12⟩ := (G0.out.keep B6.out).cells13
    obtain ⟨x0, x1, x2, x3, x4, x5, x6, x7, x8, x9, x10, x11, x12⟩ := G5.out.cells13
    generalize str (msgText x) = txt
    have SA : Hid (InM w5 x) := (H1.out.below BW.out).below B6.out
    have AF : Hid (∀ w6, Below w5.heap.size w5 w6 → Blk w6 w4.heap.size #[.int .i64 x.kind, .int .i64 x.src, .int .i64 x.dst, .int .i64 x.bal, .int .i64 x.slot, .bool x.b.n, .int .i64 x.b.p, .int .i64 x.b.q, .slice (some ⟨g2.1, 0, none⟩) x.b.xs.length x.b.xs.length, .slice (some ⟨g2.2.1, 0, none⟩) x.b.ys.length x.b.ys.length, .int .i64 x.b.v, .int .i64 x.b.k, .slice (some ⟨g2.2.2.1, 0, none⟩) x.vs.length x.vs.length] 44 ∧ Below w.heap.size w w6 ∧ OwnM w6 g2 x) := by
      intro w6 hb
      exact ⟨G5.out.keep hb, BW.out.trans ((B6.out.trans (hb.mono B6.out.size)).mono BW.out.size), R6.out.below hb⟩
    go_wp2_with fail
    go_region_with (first | (go_at_call 6; refine (toM x _ ?_ hs.out).mono ?_; exact SA.out; rintro e w6 ⟨g3, rfl, own3, b6⟩; have GG := AF.out w6 (Below.trans ((Below.refl _ _).drew) b6); obtain ⟨y0, y1, y2, y3, y4, y5, y6, y7, y8, y9, y10, y11, y12⟩ := GG.1.cells13; have B7 : Hid (Below w.heap.size w w6) := GG.2.1; have R7 : Hid (OwnM w6 g2 x) := GG.2.2; have S7 : Hid (OwnM w6 g3 x) := own3; clear b6 own3 GG) | (go_at_call 8; refine (eqM x _ _ _ R7.out S7.out hs.out).mono ?_; rintro e w8 ⟨rfl, b8⟩; have B8 : Hid (Below w.heap.size w w8) := B7.out.trans (b8.mono B7.out.size); clear b8))
    all_goals
      go_wp2_with fail
      go_ret
      exact ⟨rfl, B8.out⟩
  · rw [if_pos (by omega)] at CSZ
    have HSZ : Hid _ := CSZ
    clear CSZ
    go_enter Tryz.func3, Tryz.ntmps3
    go_wp2_with fail
    rw [← HW.out]
    refine Calls.mono HSZ.out ?_
    rintro e w1 ⟨rfl, b1⟩
    have B1 : Hid (Below w.heap.size w w1) := BW.out.trans (b1.mono BW.out.size)
    clear b1
    go_wp2_with fail
    go_ret
    exact ⟨rfl, B1.out⟩
end Go.Proofs.YtildonpdmmliaaaGreatDoor.Own

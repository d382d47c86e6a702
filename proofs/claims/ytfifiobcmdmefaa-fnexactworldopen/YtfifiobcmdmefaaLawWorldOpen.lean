/-
  Own text: laws.FnExactWorldOpen.
-/
import Derived.Test.YtfifiobcmdmefaaWorldOpenIS
import Derived.Test.YtfifiobcmdmefaaWorldHeld
import Derived.Test.YtfifiobcmdmefaaWorldEq
import Derived.Test.YtfifiobcmdmefaaBar
namespace Go.Proofs.Ytfifiobcmdmefaa.Own
open Go.RowKit
set_option linter.unusedVariables false
set_option linter.unusedSimpArgs false

theorem NS.bar {w w' : World} {g b : Nat} {L : List (List Value)} (h : NS w g L) (ho : Bar b w w') (hn : g ≠ b) : NS w' g L := by
  have e := ho.block g h.lt hn
  exact ⟨Nat.lt_of_lt_of_le h.lt ho.size, fun o => by rw [World.frozen?_of_block (w := w) (a := ⟨g, o, none⟩) e]; exact h.fr o, h.len, fun i hi j hj => by rw [World.cell?_of_block (w := w) (a := ⟨g, i * 27 + j, none⟩) e]; exact h.cell i hi j hj⟩
theorem Blk.barW {w w' : World} {b c : Nat} {C : Array Value} {t : TypeId} (h : Blk w b C t) (ho : Bar c w w') (hc : b ≠ c) : Blk w' b C t := by
  have := h.lt
  unfold Blk at *
  rw [ho.block b this hc]; exact h

set_option maxRecDepth 100000 in
set_option maxHeartbeats 2000000 in
theorem eqWorld0 (g g' cap cap' : Nat) (w : World) (h : NS w g zL) (h' : NS w g' zL) (hc : 3 ≤ cap) (hc' : 3 ≤ cap') :
    Calls Try.prog 31 #[.agg #[.slice (some ⟨g, 0, none⟩) 3 cap, .slice none 0 0, .slice none 0 0, .slice none 0 0], .agg #[.slice (some ⟨g', 0, none⟩) 3 cap', .slice none 0 0, .slice none 0 0, .slice none 0 0]] w fun e w' => e = .returned (.bool true) ∧ Below w.heap.size w w' := by
  obtain ⟨W, hW⟩ : ∃ W, W = (w.alloc (.cells #[.slice (some ⟨g, 0, none⟩) 3 cap, .slice none 0 0, .slice none 0 0, .slice none 0 0] 60)).alloc (.cells #[.slice (some ⟨g', 0, none⟩) 3 cap', .slice none 0 0, .slice none 0 0, .slice none 0 0] 60) := ⟨_, rfl⟩
  have HW : Hid (W = _) := hW
  have BW : Hid (Below w.heap.size w W) := by show Below _ _ _; rw [hW]; exact ((Below.refl _ _).alloc (Nat.le_refl _) _).alloc (by simp) _
  have PW : Hid (Blk W w.heap.size #[.slice (some ⟨g, 0, none⟩) 3 cap, .slice none 0 0, .slice none 0 0, .slice none 0 0] 60) := by show Blk _ _ _ _; rw [hW]; exact (Blk.new _ _ _).alloc _
  have QW : Hid (Blk W (w.heap.size + 1) #[.slice (some ⟨g', 0, none⟩) 3 cap', .slice none 0 0, .slice none 0 0, .slice none 0 0] 60) := by show Blk _ _ _ _; rw [hW]; exact Blk.new2 _ _ _ _
  have H : Hid (NS W g zL ∧ NS W g' zL) := ⟨h.keep BW.out, h'.keep BW.out⟩
  clear hW h h'
  go_enter Try.func31, Try.ntmps31
  go_upto_region 1 with fail
  rw [← HW.out]
  clear HW
  obtain ⟨c0, c1, c2, c3⟩ := Blk.cells4 PW.out
  obtain ⟨d0, d1, d2, d3⟩ := Blk.cells4 QW.out
  go_wp2_with fail
  refine Calls.mono (eqNodeS3 g g' cap cap' W H.out.1 H.out.2 hc hc') ?_
  rintro e w1 ⟨rfl, b1⟩
  have B1 : Hid (Below w.heap.size w w1) := BW.out.trans (b1.mono BW.out.size)
  clear c0 c1 c2 c3 d0 d1 d2 d3
  obtain ⟨c0, c1, c2, c3⟩ := Blk.cells4 (PW.out.keep b1)
  obtain ⟨d0, d1, d2, d3⟩ := Blk.cells4 (QW.out.keep b1)
  clear b1
  go_wp2_with fail
  refine Calls.mono (eqMsgS0w _) ?_
  rintro e x ⟨rfl, hx⟩
  rw [hx]
  clear hx x
  go_wp2_with fail
  refine Calls.mono (eqAskedS0w _) ?_
  rintro e x ⟨rfl, hx⟩
  rw [hx]
  clear hx x
  go_wp2_with fail
  refine Calls.mono (eqToldS0w _) ?_
  rintro e x ⟨rfl, hx⟩
  rw [hx]
  clear hx x
  go_wp2_with fail
  go_ret
  exact ⟨rfl, B1.out⟩

set_option maxRecDepth 100000 in
set_option maxHeartbeats 2000000 in
theorem markWorld0 (g cap : Nat) (w : World) (h : NS w g zL) (hc : 3 ≤ cap) :
    Calls Try.prog 32 #[.agg #[.slice (some ⟨g, 0, none⟩) 3 cap, .slice none 0 0, .slice none 0 0, .slice none 0 0], .int .i64 1] w fun e w' => e = .returned (.int .i64 49) ∧ (∃ L, NS w' g L ∧ MixN 3 L) ∧ Bar g w w' := by
  obtain ⟨W, hW⟩ : ∃ W, W = w.alloc (.cells #[.slice (some ⟨g, 0, none⟩) 3 cap, .slice none 0 0, .slice none 0 0, .slice none 0 0] 60) := ⟨_, rfl⟩
  have HW : Hid (W = _) := hW
  have BW : Hid (Below w.heap.size w W) := by show Below _ _ _; rw [hW]; exact (Below.refl _ _).alloc (Nat.le_refl _) _
  have PW : Hid (Blk W w.heap.size #[.slice (some ⟨g, 0, none⟩) 3 cap, .slice none 0 0, .slice none 0 0, .slice none 0 0] 60) := by show Blk _ _ _ _; rw [hW]; exact Blk.new _ _ _
  have HG : Hid (g < w.heap.size) := h.lt
  have H : Hid (NS W g zL) := h.keep BW.out
  clear hW h
  go_enter Try.func32, Try.ntmps32
  go_upto_region 1 with fail
  rw [← HW.out]
  clear HW
  obtain ⟨c0, c1, c2, c3⟩ := Blk.cells4 PW.out
  go_wp2_with fail
  refine Calls.mono (markNodeS3 g cap W H.out hc) ?_
  rintro e w1 ⟨rfl, hL, ho⟩
  have F : Hid ((∃ L, NS w1 g L ∧ MixN 3 L) ∧ Bar g w w1) := ⟨hL, (Bar.ofBelow BW.out).trans (Bar.ofOnly ho)⟩
  clear c0 c1 c2 c3 hL
  obtain ⟨c0, c1, c2, c3⟩ := Blk.cells4 (PW.out.only1W ho (by have := HG.out; omega))
  clear ho
  go_wp2_with fail
  refine Calls.mono (markMsgS0w _ _) ?_
  rintro e x ⟨rfl, hx⟩
  rw [hx]
  clear hx x
  go_wp2_with fail
  refine Calls.mono (markAskedS0w _ _) ?_
  rintro e x ⟨rfl, hx⟩
  rw [hx]
  clear hx x
  go_wp2_with fail
  refine Calls.mono (markToldS0w _ _) ?_
  rintro e x ⟨rfl, hx⟩
  rw [hx]
  clear hx x
  go_wp2_with fail
  go_ret
  exact ⟨rfl, F.out.1, F.out.2⟩

set_option maxRecDepth 100000 in
set_option maxHeartbeats 2000000 in
theorem heldWorld0 (g cap : Nat) (w : World) (L : List (List Value)) (h : NS w g L) (hL : MixN 3 L) (hc : 3 ≤ cap) :
    Calls Try.prog 33 #[.agg #[.slice (some ⟨g, 0, none⟩) 3 cap, .slice none 0 0, .slice none 0 0, .slice none 0 0], .int .i64 1] w fun e w' => e = .returned (.int .i64 49) ∧ Below w.heap.size w w' := by
  obtain ⟨W, hW⟩ : ∃ W, W = w.alloc (.cells #[.slice (some ⟨g, 0, none⟩) 3 cap, .slice none 0 0, .slice none 0 0, .slice none 0 0] 60) := ⟨_, rfl⟩
  have HW : Hid (W = _) := hW
  have BW : Hid (Below w.heap.size w W) := by show Below _ _ _; rw [hW]; exact (Below.refl _ _).alloc (Nat.le_refl _) _
  have PW : Hid (Blk W w.heap.size #[.slice (some ⟨g, 0, none⟩) 3 cap, .slice none 0 0, .slice none 0 0, .slice none 0 0] 60) := by show Blk _ _ _ _; rw [hW]; exact Blk.new _ _ _
  have H : Hid (NS W g L) := h.keep BW.out
  clear hW h
  go_enter Try.func33, Try.ntmps33
  go_upto_region 1 with fail
  rw [← HW.out]
  clear HW
  obtain ⟨c0, c1, c2, c3⟩ := Blk.cells4 PW.out
  go_wp2_with fail
  refine Calls.mono (heldNodeS3 g cap W L H.out hL hc) ?_
  rintro e w1 ⟨rfl, b1⟩
  have B1 : Hid (Below w.heap.size w w1) := BW.out.trans (b1.mono BW.out.size)
  clear c0 c1 c2 c3
  obtain ⟨c0, c1, c2, c3⟩ := Blk.cells4 (PW.out.keep b1)
  clear b1
  go_wp2_with fail
  refine Calls.mono (heldMsgS0w _ _) ?_
  rintro e x ⟨rfl, hx⟩
  rw [hx]
  clear hx x
  go_wp2_with fail
  refine Calls.mono (heldAskedS0w _ _) ?_
  rintro e x ⟨rfl, hx⟩
  rw [hx]
  clear hx x
  go_wp2_with fail
  refine Calls.mono (heldToldS0w _ _) ?_
  rintro e x ⟨rfl, hx⟩
  rw [hx]
  clear hx x
  go_wp2_with fail
  go_ret
  exact ⟨rfl, B1.out⟩

set_option maxRecDepth 100000 in
set_option maxHeartbeats 4000000 in
theorem lawWorldOpen (w : World) : Calls Try.prog 8 #[] w fun e w' => e = .returned (.bool true) ∧ Below w.heap.size w w' := by
  go_enter Try.func8, Try.ntmps8
  go_wp2_with fail
  refine Calls.mono (specWorldOpen w) ?_
  rintro e w1 ⟨g0, p0, rfl, q0, n0, l0, b0⟩
  obtain ⟨V1, h_⟩ : ∃ x, x = w1.alloc (.cells #[.slice (some ⟨g0, 0, none⟩) 3 p0, .slice none 0 0, .slice none 0 0, .slice none 0 0] 60) := ⟨_, rfl⟩
  have E_ : Hid (V1 = w1.alloc (.cells #[.slice (some ⟨g0, 0, none⟩) 3 p0, .slice none 0 0, .slice none 0 0, .slice none 0 0] 60)) := h_
  have k_ : Below w1.heap.size w1 V1 := by rw [h_]; exact below_new _ _
  have T1 : Hid (Blk V1 w1.heap.size #[.slice (some ⟨g0, 0, none⟩) 3 p0, .slice none 0 0, .slice none 0 0, .slice none 0 0] 60) := by show Blk _ _ _ _; rw [h_]; exact Blk.new _ _ _
  have N0 : Hid (NS V1 g0 zL) := n0.keep k_
  have BW : Hid (Below w.heap.size w V1) := b0.trans (k_.mono b0.size)
  clear h_ k_ n0 b0
  go_upto_region 2 with fail
  rw [← E_.out]
  clear E_
  go_wp2_with fail
  refine Calls.mono (implWorldOpen V1) ?_
  rintro e w2 ⟨g1, p1, rfl, q1, n1, l1, b1⟩
  obtain ⟨V2, h_⟩ : ∃ x, x = w2.alloc (.cells #[.slice (some ⟨g1, 0, none⟩) 3 p1, .slice none 0 0, .slice none 0 0, .slice none 0 0] 60) := ⟨_, rfl⟩
  have E_ : Hid (V2 = w2.alloc (.cells #[.slice (some ⟨g1, 0, none⟩) 3 p1, .slice none 0 0, .slice none 0 0, .slice none 0 0] 60)) := h_
  have k_ : Below w2.heap.size w2 V2 := by rw [h_]; exact below_new _ _
  have j_ : Below V1.heap.size V1 V2 := b1.trans (k_.mono b1.size)
  have T2 : Hid (Blk V2 w2.heap.size #[.slice (some ⟨g1, 0, none⟩) 3 p1, .slice none 0 0, .slice none 0 0, .slice none 0 0] 60) := by show Blk _ _ _ _; rw [h_]; exact Blk.new _ _ _
  have G1 : Hid (w1.heap.size ≠ g1 ∧ g0 ≠ g1 ∧ w2.heap.size ≠ g1 ∧ w.heap.size ≤ g1) := by
    have a := T1.out.lt
    have b := N0.out.lt
    have c := n1.lt
    have d := BW.out.size
    show _ ∧ _ ∧ _ ∧ _
    omega
  have N1 : Hid (NS V2 g1 zL) := n1.keep k_
  have N0 : Hid (NS V2 g0 zL) := N0.out.keep j_
  have T1 : Hid (Blk V2 w1.heap.size #[.slice (some ⟨g0, 0, none⟩) 3 p0, .slice none 0 0, .slice none 0 0, .slice none 0 0] 60) := T1.out.keep j_
  have BW : Hid (Below w.heap.size w V2) := BW.out.trans (j_.mono BW.out.size)
  clear h_ k_ j_ n1 b1 l0 l1
  go_upto_region 3 with fail
  rw [← E_.out]
  clear E_
  obtain ⟨c0, c1, c2, c3⟩ := Blk.cells4 T1.out
  obtain ⟨d0, d1, d2, d3⟩ := Blk.cells4 T2.out
  go_wp2_with fail
  refine Calls.mono (eqWorld0 g1 g0 p1 p0 V2 N1.out N0.out q1 q0) ?_
  rintro e w3 ⟨rfl, j_⟩
  have N1 : Hid (NS w3 g1 zL) := N1.out.keep j_
  have N0 : Hid (NS w3 g0 zL) := N0.out.keep j_
  have T1 : Hid (Blk w3 w1.heap.size #[.slice (some ⟨g0, 0, none⟩) 3 p0, .slice none 0 0, .slice none 0 0, .slice none 0 0] 60) := T1.out.keep j_
  have T2 : Hid (Blk w3 w2.heap.size #[.slice (some ⟨g1, 0, none⟩) 3 p1, .slice none 0 0, .slice none 0 0, .slice none 0 0] 60) := T2.out.keep j_
  have BW : Hid (Below w.heap.size w w3) := BW.out.trans (j_.mono BW.out.size)
  clear j_ c0 c1 c2 c3 d0 d1 d2 d3
  obtain ⟨d0, d1, d2, d3⟩ := Blk.cells4 T2.out
  go_wp2_with fail
  refine Calls.mono (markWorld0 g1 p1 w3 N1.out q1) ?_
  rintro e w4 ⟨rfl, ⟨L, hn, hm⟩, ho⟩
  have NL : Hid (NS w4 g1 L ∧ MixN 3 L) := ⟨hn, hm⟩
  have N0 : Hid (NS w4 g0 zL) := N0.out.bar ho G1.out.2.1
  have T1 : Hid (Blk w4 w1.heap.size #[.slice (some ⟨g0, 0, none⟩) 3 p0, .slice none 0 0, .slice none 0 0, .slice none 0 0] 60) := T1.out.barW ho G1.out.1
  have T2 : Hid (Blk w4 w2.heap.size #[.slice (some ⟨g1, 0, none⟩) 3 p1, .slice none 0 0, .slice none 0 0, .slice none 0 0] 60) := T2.out.barW ho G1.out.2.2.1
  have BW : Hid (Below w.heap.size w w4) := BW.out.trans (ho.below G1.out.2.2.2 BW.out.size)
  clear hn hm ho d0 d1 d2 d3 N1
  obtain ⟨d0, d1, d2, d3⟩ := Blk.cells4 T2.out
  go_wp2_with fail
  refine Calls.mono (heldWorld0 g1 p1 w4 L NL.out.1 NL.out.2 q1) ?_
  rintro e w5 ⟨rfl, j_⟩
  have NL : Hid (NS w5 g1 L ∧ MixN 3 L) := ⟨NL.out.1.keep j_, NL.out.2⟩
  have N0 : Hid (NS w5 g0 zL) := N0.out.keep j_
  have T1 : Hid (Blk w5 w1.heap.size #[.slice (some ⟨g0, 0, none⟩) 3 p0, .slice none 0 0, .slice none 0 0, .slice none 0 0] 60) := T1.out.keep j_
  have T2 : Hid (Blk w5 w2.heap.size #[.slice (some ⟨g1, 0, none⟩) 3 p1, .slice none 0 0, .slice none 0 0, .slice none 0 0] 60) := T2.out.keep j_
  have BW : Hid (Below w.heap.size w w5) := BW.out.trans (j_.mono BW.out.size)
  clear j_ d0 d1 d2 d3
  go_wp2_with fail
  refine Calls.mono (implWorldOpen w5) ?_
  rintro e w6 ⟨g2, p2, rfl, q2, n2, l2, b2⟩
  obtain ⟨V6, h_⟩ : ∃ x, x = w6.alloc (.cells #[.slice (some ⟨g2, 0, none⟩) 3 p2, .slice none 0 0, .slice none 0 0, .slice none 0 0] 60) := ⟨_, rfl⟩
  have E_ : Hid (V6 = w6.alloc (.cells #[.slice (some ⟨g2, 0, none⟩) 3 p2, .slice none 0 0, .slice none 0 0, .slice none 0 0] 60)) := h_
  have k_ : Below w6.heap.size w6 V6 := by rw [h_]; exact below_new _ _
  have j_ : Below w5.heap.size w5 V6 := b2.trans (k_.mono b2.size)
  have T5 : Hid (Blk V6 w6.heap.size #[.slice (some ⟨g2, 0, none⟩) 3 p2, .slice none 0 0, .slice none 0 0, .slice none 0 0] 60) := by show Blk _ _ _ _; rw [h_]; exact Blk.new _ _ _
  have N2 : Hid (NS V6 g2 zL) := n2.keep k_
  have NL : Hid (NS V6 g1 L ∧ MixN 3 L) := ⟨NL.out.1.keep j_, NL.out.2⟩
  have N0 : Hid (NS V6 g0 zL) := N0.out.keep j_
  have T1 : Hid (Blk V6 w1.heap.size #[.slice (some ⟨g0, 0, none⟩) 3 p0, .slice none 0 0, .slice none 0 0, .slice none 0 0] 60) := T1.out.keep j_
  have T2 : Hid (Blk V6 w2.heap.size #[.slice (some ⟨g1, 0, none⟩) 3 p1, .slice none 0 0, .slice none 0 0, .slice none 0 0] 60) := T2.out.keep j_
  have BW : Hid (Below w.heap.size w V6) := BW.out.trans (j_.mono BW.out.size)
  clear h_ k_ j_ n2 b2 l2
  go_upto_region 14 with fail
  rw [← E_.out]
  clear E_
  obtain ⟨c0, c1, c2, c3⟩ := Blk.cells4 T1.out
  obtain ⟨d0, d1, d2, d3⟩ := Blk.cells4 T5.out
  go_wp2_with fail
  refine Calls.mono (eqWorld0 g2 g0 p2 p0 V6 N2.out N0.out q2 q0) ?_
  rintro e w7 ⟨rfl, j_⟩
  have NL : Hid (NS w7 g1 L ∧ MixN 3 L) := ⟨NL.out.1.keep j_, NL.out.2⟩
  have T2 : Hid (Blk w7 w2.heap.size #[.slice (some ⟨g1, 0, none⟩) 3 p1, .slice none 0 0, .slice none 0 0, .slice none 0 0] 60) := T2.out.keep j_
  have BW : Hid (Below w.heap.size w w7) := BW.out.trans (j_.mono BW.out.size)
  clear j_ c0 c1 c2 c3 d0 d1 d2 d3
  obtain ⟨d0, d1, d2, d3⟩ := Blk.cells4 T2.out
  go_wp2_with fail
  refine Calls.mono (heldWorld0 g1 p1 w7 L NL.out.1 NL.out.2 q1) ?_
  rintro e w8 ⟨rfl, j_⟩
  have BW : Hid (Below w.heap.size w w8) := BW.out.trans (j_.mono BW.out.size)
  clear j_ d0 d1 d2 d3
  go_wp2_with fail
  go_ret
  exact ⟨rfl, BW.out⟩
end Go.Proofs.Ytfifiobcmdmefaa.Own

/-
  Own text: laws.FnExactAccOk.
-/
import Derived.Test.YtbbbfnfpmaogoaaAccOkS
import Derived.Test.YtbbbfnfpmaogoaaAccOkI
import Derived.Test.YtbbbfnfpmaogoaaAccOps
namespace Go.Proofs.Ytbbbfnfpmaogoaa.Own
open Go.RowKit
set_option linter.unusedVariables false

set_option maxRecDepth 100000 in
set_option maxHeartbeats 2000000 in
theorem lawAccOk (m : Int) (a : Option Addr) (c : Nat) (vs : List VM) (w : World) (h1 : SlV w a vs) (hl : vs.length ≤ maxLen) (hm : VM0 vs) :
    Calls Try.prog 4 #[.agg #[.int .i64 m, .slice a vs.length c]] w fun e w' => e = .returned (.bool true) ∧ Below w.heap.size w w' := by
  have H1 : Hid (SlV w a vs) := h1
  have HM : Hid (VM0 vs) := hm
  clear h1 hm
  obtain ⟨W, hW⟩ : ∃ W, W = w.alloc (.cells #[.int .i64 m, .slice a vs.length c] 44) := ⟨_, rfl⟩
  have BW : Hid (Below w.heap.size w W) := by show Below _ _ _; rw [hW]; exact (Below.refl _ _).alloc (Nat.le_refl _) _
  have G0 : Hid (Blk W w.heap.size #[.int .i64 m, .slice a vs.length c] 44) := by show Blk _ _ _ _; rw [hW]; exact Blk.new _ _ _
  have HW : Hid (W = _) := hW
  clear hW
  by_cases hn : vs.length + sumV vs vs.length ≤ 1048576
  · have L0 : VL0 vs := VL0.ofSum (n := 1048576) (by omega) (by decide)
    have HL : Hid (VL0 vs) := L0
    have hb40 : vs.length ≤ 2 ^ 40 := by omega
    have CSZ := szAcc m a c vs 1048576 W (H1.out.below BW.out) hl HM.out (by decide) (by decide)
    rw [if_neg (by omega)] at CSZ
    have hpos : ¬ (1048576 : Int) - ((vs.length + sumV vs vs.length : Nat) : Int) < 0 := by omega
    generalize (1048576 : Int) - ((vs.length + sumV vs vs.length : Nat) : Int) = z at CSZ hpos
    have HSZ : Hid _ := CSZ
    clear CSZ hn L0 hl
    go_enter Try.func4, Try.ntmps4
    go_wp2_with fail
    rw [← HW.out]
    refine Calls.mono HSZ.out ?_
    rintro e w1 ⟨rfl, b1⟩
    have B1 : Hid (Below W.heap.size W w1) := b1
    obtain ⟨q0, q1⟩ := (G0.out.keep b1).cells2
    clear b1
    go_wp2_with fail
    refine (toAcc m a c vs w1 ((H1.out.below BW.out).below B1.out) hb40 HL.out).mono ?_
    rintro e w2 ⟨g1, gs1, rfl, lo1, own1, _, b2⟩
    have R1 : Hid (CopyV w2 g1 gs1 (bodies vs)) := own1
    have B2 : Hid (Below W.heap.size W w2) := B1.out.trans (b2.mono B1.out.size)
    clear own1 b2 lo1 q0 q1
    go_wp2_with fail
    have CS := specAccOk m (some ⟨g1, 0, none⟩) vs.length (vmsOf gs1 (bodies vs)) w2 R1.out.sl (by rw [vmsOf_len, bodies_len]; exact hb40) (CopyV.vls fun i hi => by rw [bodies_len] at hi; rw [bodies_getD]; exact HL.out i hi)
    rw [vmsOf_bodies, vmsOf_len, bodies_len] at CS
    refine CS.mono ?_
    clear CS
    rintro e w3 ⟨rfl, b3⟩
    have B3 : Hid (Below W.heap.size W w3) := B2.out.trans (b3.mono B2.out.size)
    obtain ⟨q0, q1⟩ := (G0.out.keep B3.out).cells2
    clear b3
    go_wp2_with fail
    refine (toAcc m a c vs w3 ((H1.out.below BW.out).below B3.out) hb40 HL.out).mono ?_
    rintro e w4 ⟨g2, gs2, rfl, lo2, own2, _, b4⟩
    have R2 : Hid (CopyV w4 g2 gs2 (bodies vs)) := own2
    have B4 : Hid (Below W.heap.size W w4) := B3.out.trans (b4.mono B3.out.size)
    clear own2 b4 lo2 q0 q1
    obtain ⟨X, hX⟩ : ∃ X, X = w4.alloc (.cells #[.int .i64 m, .slice (some ⟨g2, 0, none⟩) vs.length vs.length] 24) := ⟨_, rfl⟩
    have BX : Hid (Below w4.heap.size w4 X) := by show Below _ _ _; rw [hX]; exact (Below.refl _ _).alloc (Nat.le_refl _) _
    have GX : Hid (Blk X w4.heap.size #[.int .i64 m, .slice (some ⟨g2, 0, none⟩) vs.length vs.length] 24) := by show Blk _ _ _ _; rw [hX]; exact Blk.new _ _ _
    have HX : Hid (X = _) := hX
    clear hX
    go_wp2_with fail
    rw [← HX.out]
    have R3 : Hid (CopyV X g2 gs2 (bodies vs)) := R2.out.below BX.out
    have BWX : Hid (Below W.heap.size W X) := B4.out.trans (BX.out.mono B4.out.size)
    have CI := implAccOk m (some ⟨g2, 0, none⟩) vs.length (vmsOf gs2 (bodies vs)) X R3.out.sl (by rw [vmsOf_len, bodies_len]; exact hb40) (CopyV.vls fun i hi => by rw [bodies_len] at hi; rw [bodies_getD]; exact HL.out i hi)
    rw [vmsOf_bodies, vmsOf_len, bodies_len] at CI
    refine CI.mono ?_
    clear CI
    rintro e w5 ⟨rfl, b5⟩
    have R6 : Hid (CopyV w5 g2 gs2 (bodies vs)) := R3.out.below b5
    have B6 : Hid (Below W.heap.size W w5) := BWX.out.trans (b5.mono BWX.out.size)
    have G5 : Hid (Blk w5 w4.heap.size _ _) := GX.out.keep b5
    obtain ⟨q0, q1⟩ := (G0.out.keep B6.out).cells2
    obtain ⟨x0, x1⟩ := G5.out.cells2
    clear b5
    generalize accOk m (bodies vs) = ok
    have ho : (ok != ok) = false := by simp
    have SA : Hid (SlV w5 a vs) := (H1.out.below BW.out).below B6.out
    have AF : Hid (∀ w6, Below w5.heap.size w5 w6 → (w6.cell? ⟨w4.heap.size, 0, none⟩ = some (.int .i64 m) ∧ w6.cell? ⟨w4.heap.size, 1, none⟩ = some (.slice (some ⟨g2, 0, none⟩) vs.length vs.length)) ∧ Hid (Below w.heap.size w w6) ∧ Hid (CopyV w6 g2 gs2 (bodies vs))) := by
      intro w6 hb
      exact ⟨(G5.out.keep hb).cells2, BW.out.trans ((B6.out.trans (hb.mono B6.out.size)).mono BW.out.size), R6.out.below hb⟩
    have EQ : Hid (∀ gA gsA w6, CopyV w6 g2 gs2 (bodies vs) → CopyV w6 gA gsA (bodies vs) → Calls Try.prog 23 #[.agg #[.int .i64 m, .slice (some ⟨g2, 0, none⟩) vs.length vs.length], .agg #[.int .i64 m, .slice (some ⟨gA, 0, none⟩) vs.length vs.length]] w6 fun e w' => e = .returned (.bool true) ∧ Below w6.heap.size w6 w') := by
      intro gA gsA w6 c1 c2
      have h := eqAcc m (some ⟨g2, 0, none⟩) (some ⟨gA, 0, none⟩) vs.length vs.length (vmsOf gs2 (bodies vs)) (vmsOf gsA (bodies vs)) w6 c1.sl c2.sl (by rw [vmsOf_bodies, vmsOf_bodies]) (by rw [vmsOf_len, bodies_len]; exact hb40) (HL.out.vms gs2)
      rw [vmsOf_len, vmsOf_len, bodies_len] at h
      exact h
    go_wp2_with fail
    go_region_with (first | (go_at_call 21; refine (toAcc m a c vs _ ?_ hb40 HL.out).mono ?_; exact SA.out; rintro e w6 ⟨g3, gs3, rfl, lo3, own3, _, b6⟩; obtain ⟨⟨y0, y1⟩, B7, R7⟩ := AF.out w6 (Below.trans ((Below.refl _ _).drew) b6); have S7 : Hid (CopyV w6 g3 gs3 (bodies vs)) := own3; clear b6 own3 lo3) | (go_at_call 23; refine (EQ.out _ _ _ R7.out S7.out).mono ?_; rintro e w8 ⟨rfl, b8⟩; have B8 : Hid (Below w.heap.size w w8) := B7.out.trans (b8.mono B7.out.size); clear b8))
    all_goals
      go_wp2_with fail
      go_ret
      exact ⟨rfl, B8.out⟩
  · have CSZ := szAcc m a c vs 1048576 W (H1.out.below BW.out) hl HM.out (by decide) (by decide)
    rw [if_pos (by omega)] at CSZ
    have HSZ : Hid _ := CSZ
    clear CSZ
    go_enter Try.func4, Try.ntmps4
    go_wp2_with fail
    rw [← HW.out]
    refine Calls.mono HSZ.out ?_
    rintro e w1 ⟨rfl, b1⟩
    have B1 : Hid (Below w.heap.size w w1) := BW.out.trans (b1.mono BW.out.size)
    clear b1
    go_wp2_with fail
    go_ret
    exact ⟨rfl, B1.out⟩
end Go.Proofs.Ytbbbfnfpmaogoaa.Own

/-
  Own text: laws.FnExactMsgEntry.
-/
import Derived.Test.YtmcpefikmcaemaaDoorEntTextM
import Derived.Test.YtmcpefikmcaemaaDoorEntTextS
import Derived.Test.YtmcpefikmcaemaaDoorEntOps
namespace Go.Proofs.YtmcpefikmcaemaaDoor.Own
open Go.RowKit
set_option linter.unusedVariables false

set_option maxHeartbeats 1000000 in
theorem lawMsgEntry (n : Bool) (p q : Int) (a1 a2 : Option Addr) (c1 c2 : Nat) (xs ys : List P2) (v k : Int) (w : World) (ht : Tab w) (h1 : Sl w a1 xs) (h2 : Sl w a2 ys) (hc1 : xs.length ≤ c1) (hc2 : ys.length ≤ c2) (hm1 : c1 ≤ maxLen) (hm2 : c2 ≤ maxLen) (wf : WfE ⟨n, p, q, xs, ys, v, k⟩) :
    Calls Tryd.prog 6 #[.agg #[.bool n, .int .i64 p, .int .i64 q, .slice a1 xs.length c1, .slice a2 ys.length c2, .int .i64 v, .int .i64 k]] w fun e w' => e = .returned (.bool true) ∧ Below w.heap.size w w' := by
  have m1 : xs.length ≤ maxLen := Nat.le_trans hc1 hm1
  have m2 : ys.length ≤ maxLen := Nat.le_trans hc2 hm2
  clear hc1 hc2 hm1 hm2
  have H1 : Hid (Sl w a1 xs) := h1
  have H2 : Hid (Sl w a2 ys) := h2
  have WF : Hid (WfE ⟨n, p, q, xs, ys, v, k⟩) := wf
  have HT : Hid (Tab w) := ht
  clear h1 h2 wf ht
  obtain ⟨W, hW⟩ : ∃ W, W = w.alloc (.cells #[.bool n, .int .i64 p, .int .i64 q, .slice a1 xs.length c1, .slice a2 ys.length c2, .int .i64 v, .int .i64 k] 51) := ⟨_, rfl⟩
  have hbW : Hid (Below w.heap.size w W) := by show Below _ _ _; rw [hW]; exact (Below.refl _ _).alloc (Nat.le_refl _) _
  have hsW : Hid (W.heap.size = w.heap.size + 1) := by show _ = _; rw [hW]; simp
  have g0 : Hid (W.heap[w.heap.size]? = some (.cells #[.bool n, .int .i64 p, .int .i64 q, .slice a1 xs.length c1, .slice a2 ys.length c2, .int .i64 v, .int .i64 k] 51 (0, 0))) := by show _ = _; rw [hW]; exact heap_new _ _
  have HC : Hid (∀ w', Below W.heap.size W w' → w'.cell? ⟨w.heap.size, 0, none⟩ = some (.bool n) ∧ w'.cell? ⟨w.heap.size, 1, none⟩ = some (.int .i64 p) ∧ w'.cell? ⟨w.heap.size, 2, none⟩ = some (.int .i64 q) ∧ w'.cell? ⟨w.heap.size, 3, none⟩ = some (.slice a1 xs.length c1) ∧ w'.cell? ⟨w.heap.size, 4, none⟩ = some (.slice a2 ys.length c2) ∧ w'.cell? ⟨w.heap.size, 5, none⟩ = some (.int .i64 v) ∧ w'.cell? ⟨w.heap.size, 6, none⟩ = some (.int .i64 k)) := by
    intro w' hb
    have e : ∀ o, w'.cell? ⟨w.heap.size, o, none⟩ = W.cell? ⟨w.heap.size, o, none⟩ := fun o => hb.cell (p := ⟨w.heap.size, o, none⟩) (by show w.heap.size < _; have := hsW.out; omega)
    rw [e, e, e, e, e, e, e, cell_heap g0.out, cell_heap g0.out, cell_heap g0.out, cell_heap g0.out, cell_heap g0.out, cell_heap g0.out, cell_heap g0.out]
    exact ⟨rfl, rfl, rfl, rfl, rfl, rfl, rfl⟩
  have HW : Hid (W = _) := hW
  clear hW
  by_cases hn : xs.length + ys.length ≤ 1048576
  · go_enter Tryd.func6, Tryd.ntmps6
    go_wp2_with fail
    rw [← HW.out]
    refine (szEntry n p q a1 a2 xs.length c1 ys.length c2 v k 1048576 W m1 m2 (by decide) (by decide)).mono ?_
    rintro e w1 ⟨rfl, b1⟩
    rw [if_neg (by omega)]
    have hpos : ¬ (1048576 : Int) - (xs.length : Int) - (ys.length : Int) < 0 := by omega
    obtain ⟨q0, q1, q2, q3, q4, q5, q6⟩ := HC.out w1 b1
    have B1 : Hid (Below W.heap.size W w1) := b1
    clear b1
    go_wp2_with fail
    refine (toEntry n p q a1 a2 c1 c2 xs ys v k w1 ((H1.out.below hbW.out).below B1.out) ((H2.out.below hbW.out).below B1.out) (by omega) (by omega)).mono ?_
    rintro e w2 ⟨g1, g2, rfl, own2, b2⟩
    have R2 : Hid (RunOwn w2 w1.heap.size g1 g2 xs ys) := own2
    have B2 : Hid (Below W.heap.size W w2) := B1.out.trans (b2.mono B1.out.size)
    clear own2 b2 q0 q1 q2 q3 q4 q5 q6
    go_wp2_with fail
    have CS : Hid (Calls Tryd.prog 15 #[.agg #[.bool n, .int .i64 p, .int .i64 q, .slice (some ⟨g1, 0, none⟩) xs.length xs.length, .slice (some ⟨g2, 0, none⟩) ys.length ys.length, .int .i64 v, .int .i64 k]] w2 fun e w' => e = .returned (.string (str (entText ⟨n, p, q, xs, ys, v, k⟩))) ∧ Below w2.heap.size w2 w') := specMsgEntry n p q _ _ xs.length ys.length xs ys v k w2 (.inr ⟨_, _, rfl, R2.out.2.2.2.1⟩) (.inr ⟨_, _, rfl, R2.out.2.2.2.2.1⟩) WF.out (by omega) (by omega)
    refine (CS.out).mono ?_
    rintro e w3 ⟨rfl, b3⟩
    have B3 : Hid (Below W.heap.size W w3) := B2.out.trans (b3.mono B2.out.size)
    obtain ⟨q0, q1, q2, q3, q4, q5, q6⟩ := HC.out w3 B3.out
    clear b3
    go_wp2_with fail
    refine (toEntry n p q a1 a2 c1 c2 xs ys v k w3 ((H1.out.below hbW.out).below B3.out) ((H2.out.below hbW.out).below B3.out) (by omega) (by omega)).mono ?_
    rintro e w4 ⟨g3, g4, rfl, own4, b4⟩
    have R4 : Hid (RunOwn w4 w3.heap.size g3 g4 xs ys) := own4
    have B4 : Hid (Below W.heap.size W w4) := B3.out.trans (b4.mono B3.out.size)
    clear own4 b4 q0 q1 q2 q3 q4 q5 q6
    obtain ⟨X, hX⟩ : ∃ X, X = w4.alloc (.cells #[.bool n, .int .i64 p, .int .i64 q, .slice (some ⟨g3, 0, none⟩) xs.length xs.length, .slice (some ⟨g4, 0, none⟩) ys.length ys.length, .int .i64 v, .int .i64 k] 30) := ⟨_, rfl⟩
    have BX : Hid (Below w4.heap.size w4 X) := by show Below _ _ _; rw [hX]; exact (Below.refl _ _).alloc (Nat.le_refl _) _
    have SX : Hid (X.heap.size = w4.heap.size + 1) := by show _ = _; rw [hX]; simp
    have gX : Hid (X.heap[w4.heap.size]? = some (.cells #[.bool n, .int .i64 p, .int .i64 q, .slice (some ⟨g3, 0, none⟩) xs.length xs.length, .slice (some ⟨g4, 0, none⟩) ys.length ys.length, .int .i64 v, .int .i64 k] 30 (0, 0))) := by show _ = _; rw [hX]; exact heap_new _ _
    have XC : Hid (∀ w', Below X.heap.size X w' → (w'.cell? ⟨w4.heap.size, 0, none⟩ = some (.bool n) ∧ w'.cell? ⟨w4.heap.size, 1, none⟩ = some (.int .i64 p) ∧ w'.cell? ⟨w4.heap.size, 2, none⟩ = some (.int .i64 q) ∧ w'.cell? ⟨w4.heap.size, 3, none⟩ = some (.slice (some ⟨g3, 0, none⟩) xs.length xs.length) ∧ w'.cell? ⟨w4.heap.size, 4, none⟩ = some (.slice (some ⟨g4, 0, none⟩) ys.length ys.length) ∧ w'.cell? ⟨w4.heap.size, 5, none⟩ = some (.int .i64 v) ∧ w'.cell? ⟨w4.heap.size, 6, none⟩ = some (.int .i64 k))) := by
      intro w' hb
      have e : ∀ o, w'.cell? ⟨w4.heap.size, o, none⟩ = X.cell? ⟨w4.heap.size, o, none⟩ := fun o => hb.cell (p := ⟨w4.heap.size, o, none⟩) (by show w4.heap.size < _; have := SX.out; omega)
      rw [e, e, e, e, e, e, e, cell_heap gX.out, cell_heap gX.out, cell_heap gX.out, cell_heap gX.out, cell_heap gX.out, cell_heap gX.out, cell_heap gX.out]
      exact ⟨rfl, rfl, rfl, rfl, rfl, rfl, rfl⟩
    have HX : Hid (X = _) := hX
    clear hX
    go_wp2_with fail
    rw [← HX.out]
    have R5 : Hid (RunOwn X w3.heap.size g3 g4 xs ys) := R4.out.below BX.out
    have BWX : Hid (Below W.heap.size W X) := B4.out.trans (BX.out.mono B4.out.size)
    refine (implMsgEntry n p q _ _ xs.length ys.length xs ys v k X (tab_below HT.out HT.out (hbW.out.trans (BWX.out.mono hbW.out.size)) (Nat.le_refl _)) (.inr ⟨_, _, rfl, R5.out.2.2.2.1⟩) (.inr ⟨_, _, rfl, R5.out.2.2.2.2.1⟩) WF.out (by omega) (by omega)).mono ?_
    rintro e w5 ⟨rfl, b5⟩
    have B5 : Hid (Below X.heap.size X w5) := b5
    have R6 : Hid (RunOwn w5 w3.heap.size g3 g4 xs ys) := R5.out.below b5
    have B6 : Hid (Below W.heap.size W w5) := BWX.out.trans (b5.mono BWX.out.size)
    obtain ⟨q0, q1, q2, q3, q4, q5, q6⟩ := HC.out w5 B6.out
    obtain ⟨x0, x1, x2, x3, x4, x5, x6⟩ := XC.out w5 b5
    clear b5
    generalize str (entText ⟨n, p, q, xs, ys, v, k⟩) = txt
    have SA : Hid (Sl w5 a1 xs) := (H1.out.below hbW.out).below B6.out
    have SB : Hid (Sl w5 a2 ys) := (H2.out.below hbW.out).below B6.out
    have hb40 : xs.length ≤ 2 ^ 40 := by omega
    have hb41 : ys.length ≤ 2 ^ 40 := by omega
    have AF : Hid (∀ w6, Below w5.heap.size w5 w6 → (w6.cell? ⟨w4.heap.size, 0, none⟩ = some (.bool n) ∧ w6.cell? ⟨w4.heap.size, 1, none⟩ = some (.int .i64 p) ∧ w6.cell? ⟨w4.heap.size, 2, none⟩ = some (.int .i64 q) ∧ w6.cell? ⟨w4.heap.size, 3, none⟩ = some (.slice (some ⟨g3, 0, none⟩) xs.length xs.length) ∧ w6.cell? ⟨w4.heap.size, 4, none⟩ = some (.slice (some ⟨g4, 0, none⟩) ys.length ys.length) ∧ w6.cell? ⟨w4.heap.size, 5, none⟩ = some (.int .i64 v) ∧ w6.cell? ⟨w4.heap.size, 6, none⟩ = some (.int .i64 k)) ∧ Hid (Below w.heap.size w w6) ∧ Hid (RunOwn w6 w3.heap.size g3 g4 xs ys)) := by
      intro w6 hb
      exact ⟨XC.out w6 (B5.out.trans (hb.mono B5.out.size)), hbW.out.trans ((B6.out.trans (hb.mono B6.out.size)).mono hbW.out.size), R6.out.below hb⟩
    go_wp2_with fail
    go_region_with (first | (go_at_call 25; refine (toEntry n p q a1 a2 c1 c2 xs ys v k _ ?_ ?_ hb40 hb41).mono ?_; exact SA.out; exact SB.out; rintro e w6 ⟨g5, g6, rfl, own6, b6⟩; obtain ⟨⟨y0, y1, y2, y3, y4, y5, y6⟩, B7, R7⟩ := AF.out w6 (Below.trans ((Below.refl _ _).drew) b6); have S7 : Hid (RunOwn w6 w5.heap.size g5 g6 xs ys) := own6; clear b6 own6) | (go_at_call 26; refine (eqEntry n p q _ _ _ _ xs.length ys.length xs.length ys.length xs ys v k _ ?_ ?_ ?_ ?_ hb40 hb41).mono ?_; exact .inr ⟨_, _, rfl, R7.out.2.2.2.1⟩; exact .inr ⟨_, _, rfl, R7.out.2.2.2.2.1⟩; exact .inr ⟨_, _, rfl, S7.out.2.2.2.1⟩; exact .inr ⟨_, _, rfl, S7.out.2.2.2.2.1⟩; rintro e w8 ⟨rfl, b8⟩; have B8 : Hid (Below w.heap.size w w8) := B7.out.trans (b8.mono B7.out.size); clear b8))
    all_goals
      go_wp2_with fail
      go_ret
      exact ⟨rfl, B8.out⟩
  · go_enter Tryd.func6, Tryd.ntmps6
    go_wp2_with fail
    rw [← HW.out]
    refine (szEntry n p q a1 a2 xs.length c1 ys.length c2 v k 1048576 W m1 m2 (by decide) (by decide)).mono ?_
    rintro e w1 ⟨rfl, b1⟩
    rw [if_pos (by omega)]
    have B1 : Hid (Below w.heap.size w w1) := hbW.out.trans (b1.mono hbW.out.size)
    clear b1
    go_wp2_with fail
    go_ret
    exact ⟨rfl, B1.out⟩
end Go.Proofs.YtmcpefikmcaemaaDoor.Own

/-
  Own text: laws.FnExactCertOk.
-/
import Derived.Test.YtgcencilgpilaaaStOkS
import Derived.Test.YtgcencilgpilaaaStateOps
import Derived.Test.YtgcencilgpilaaaWf4
namespace Go.Proofs.Ytgcencilgpilaaa.Own
open Go.RowKit
set_option linter.unusedVariables false

set_option maxHeartbeats 1000000 in
theorem lawCertOk (z : Int) (a1 a2 : Option Addr) (c1 c2 : Nat) (xs : List P2) (ys : List Q4) (w : World) (h1 : Sl w a1 xs) (h2 : Sl4 w a2 ys) (hc1 : xs.length ≤ c1) (hc2 : ys.length ≤ c2) (hm1 : c1 ≤ maxLen) (hm2 : c2 ≤ maxLen) (wf : Wf4 ys) :
    Calls Try.prog 8 #[.agg #[.int .i64 z, .slice a1 xs.length c1, .slice a2 ys.length c2]] w fun e w' => e = .returned (.bool true) ∧ Below w.heap.size w w' := by
  have m1 : xs.length ≤ maxLen := Nat.le_trans hc1 hm1
  have m2 : ys.length ≤ maxLen := Nat.le_trans hc2 hm2
  clear hc1 hc2 hm1 hm2
  have H1 : Hid (Sl w a1 xs) := h1
  have H2 : Hid (Sl4 w a2 ys) := h2
  clear h1 h2
  obtain ⟨W, hW⟩ : ∃ W, W = w.alloc (.cells #[.int .i64 z, .slice a1 xs.length c1, .slice a2 ys.length c2] 77) := ⟨_, rfl⟩
  have hbW : Hid (Below w.heap.size w W) := by show Below _ _ _; rw [hW]; exact (Below.refl _ _).alloc (Nat.le_refl _) _
  have hsW : Hid (W.heap.size = w.heap.size + 1) := by show _ = _; rw [hW]; simp
  have g0 : Hid (W.heap[w.heap.size]? = some (.cells #[.int .i64 z, .slice a1 xs.length c1, .slice a2 ys.length c2] 77 (0, 0))) := by show _ = _; rw [hW]; exact heap_new _ _
  have HC : Hid (∀ w', Below W.heap.size W w' → w'.cell? ⟨w.heap.size, 0, none⟩ = some (.int .i64 z) ∧ w'.cell? ⟨w.heap.size, 1, none⟩ = some (.slice a1 xs.length c1) ∧ w'.cell? ⟨w.heap.size, 2, none⟩ = some (.slice a2 ys.length c2)) := by
    intro w' hb
    have e : ∀ o, w'.cell? ⟨w.heap.size, o, none⟩ = W.cell? ⟨w.heap.size, o, none⟩ := fun o => hb.cell (p := ⟨w.heap.size, o, none⟩) (by show w.heap.size < _; have := hsW.out; omega)
    rw [e, e, e, cell_heap g0.out, cell_heap g0.out, cell_heap g0.out]
    exact ⟨rfl, rfl, rfl⟩
  have HW : Hid (W = _) := hW
  clear hW
  by_cases hn : xs.length + ys.length ≤ 1048576
  · go_enter Try.func8, Try.ntmps8
    go_wp2_with fail
    rw [← HW.out]
    refine (szState z a1 a2 xs.length c1 ys.length c2 1048576 W m1 m2 (by decide) (by decide)).mono ?_
    rintro e w1 ⟨rfl, b1⟩
    rw [if_neg (by omega)]
    have hpos : ¬ (1048576 : Int) - (xs.length : Int) - (ys.length : Int) < 0 := by omega
    obtain ⟨q0, q1, q2⟩ := HC.out w1 b1
    have B1 : Hid (Below W.heap.size W w1) := b1
    clear b1
    go_wp2_with fail
    refine (toState z a1 a2 c1 c2 xs ys w1 ((H1.out.below hbW.out).below B1.out) ((H2.out.below hbW.out).below B1.out) (by omega) (by omega)).mono ?_
    rintro e w2 ⟨g1, g2, rfl, own2, b2⟩
    have R2 : Hid (StOwn w2 w1.heap.size g1 g2 xs ys) := own2
    have B2 : Hid (Below W.heap.size W w2) := B1.out.trans (b2.mono B1.out.size)
    clear own2 b2 q0 q1 q2
    go_wp2_with fail
    refine (specCertOk z _ _ xs.length ys.length xs ys w2 (.inr ⟨_, _, rfl, R2.out.2.2.2.1⟩) (.inr ⟨_, _, rfl, R2.out.2.2.2.2.1⟩) (by omega) (by omega)).mono ?_
    rintro e w3 ⟨rfl, b3⟩
    have B3 : Hid (Below W.heap.size W w3) := B2.out.trans (b3.mono B2.out.size)
    obtain ⟨q0, q1, q2⟩ := HC.out w3 B3.out
    clear b3
    go_wp2_with fail
    refine (toState z a1 a2 c1 c2 xs ys w3 ((H1.out.below hbW.out).below B3.out) ((H2.out.below hbW.out).below B3.out) (by omega) (by omega)).mono ?_
    rintro e w4 ⟨g3, g4, rfl, own4, b4⟩
    have R4 : Hid (StOwn w4 w3.heap.size g3 g4 xs ys) := own4
    have B4 : Hid (Below W.heap.size W w4) := B3.out.trans (b4.mono B3.out.size)
    clear own4 b4 q0 q1 q2
    obtain ⟨X, hX⟩ : ∃ X, X = w4.alloc (.cells #[.int .i64 z, .slice (some ⟨g3, 0, none⟩) xs.length xs.length, .slice (some ⟨g4, 0, none⟩) ys.length ys.length] 70) := ⟨_, rfl⟩
    have BX : Hid (Below w4.heap.size w4 X) := by show Below _ _ _; rw [hX]; exact (Below.refl _ _).alloc (Nat.le_refl _) _
    have SX : Hid (X.heap.size = w4.heap.size + 1) := by show _ = _; rw [hX]; simp
    have gX : Hid (X.heap[w4.heap.size]? = some (.cells #[.int .i64 z, .slice (some ⟨g3, 0, none⟩) xs.length xs.length, .slice (some ⟨g4, 0, none⟩) ys.length ys.length] 70 (0, 0))) := by show _ = _; rw [hX]; exact heap_new _ _
    have XC : Hid (∀ w', Below X.heap.size X w' → (w'.cell? ⟨w4.heap.size, 0, none⟩ = some (.int .i64 z) ∧ w'.cell? ⟨w4.heap.size, 1, none⟩ = some (.slice (some ⟨g3, 0, none⟩) xs.length xs.length) ∧ w'.cell? ⟨w4.heap.size, 2, none⟩ = some (.slice (some ⟨g4, 0, none⟩) ys.length ys.length))) := by
      intro w' hb
      have e : ∀ o, w'.cell? ⟨w4.heap.size, o, none⟩ = X.cell? ⟨w4.heap.size, o, none⟩ := fun o => hb.cell (p := ⟨w4.heap.size, o, none⟩) (by show w4.heap.size < _; have := SX.out; omega)
      rw [e, e, e, cell_heap gX.out, cell_heap gX.out, cell_heap gX.out]
      exact ⟨rfl, rfl, rfl⟩
    have HX : Hid (X = _) := hX
    clear hX
    go_wp2_with fail
    rw [← HX.out]
    have R5 : Hid (StOwn X w3.heap.size g3 g4 xs ys) := R4.out.below BX.out
    have BWX : Hid (Below W.heap.size W X) := B4.out.trans (BX.out.mono B4.out.size)
    refine (implCertOk z _ _ xs.length ys.length xs ys X (.inr ⟨_, _, rfl, R5.out.2.2.2.1⟩) (.inr ⟨_, _, rfl, R5.out.2.2.2.2.1⟩) (Nat.le_refl _) (by omega)).mono ?_
    rintro e w5 ⟨rfl, b5⟩
    have B5 : Hid (Below X.heap.size X w5) := b5
    have R6 : Hid (StOwn w5 w3.heap.size g3 g4 xs ys) := R5.out.below b5
    have B6 : Hid (Below W.heap.size W w5) := BWX.out.trans (b5.mono BWX.out.size)
    obtain ⟨q0, q1, q2⟩ := HC.out w5 B6.out
    obtain ⟨x0, x1, x2⟩ := XC.out w5 b5
    clear b5
    generalize stOk z xs ys = ok
    have ho : (ok != ok) = false := by simp
    have SA : Hid (Sl w5 a1 xs) := (H1.out.below hbW.out).below B6.out
    have SB : Hid (Sl4 w5 a2 ys) := (H2.out.below hbW.out).below B6.out
    have hb40 : xs.length ≤ 2 ^ 40 := by omega
    have hb41 : ys.length ≤ 2 ^ 40 := by omega
    have AF : Hid (∀ w6, Below w5.heap.size w5 w6 → (w6.cell? ⟨w4.heap.size, 0, none⟩ = some (.int .i64 z) ∧ w6.cell? ⟨w4.heap.size, 1, none⟩ = some (.slice (some ⟨g3, 0, none⟩) xs.length xs.length) ∧ w6.cell? ⟨w4.heap.size, 2, none⟩ = some (.slice (some ⟨g4, 0, none⟩) ys.length ys.length)) ∧ Hid (Below w.heap.size w w6) ∧ Hid (StOwn w6 w3.heap.size g3 g4 xs ys)) := by
      intro w6 hb
      exact ⟨XC.out w6 (B5.out.trans (hb.mono B5.out.size)), hbW.out.trans ((B6.out.trans (hb.mono B6.out.size)).mono hbW.out.size), R6.out.below hb⟩
    go_wp2_with fail
    go_region_with (first | (go_at_call 51; refine (toState z a1 a2 c1 c2 xs ys _ ?_ ?_ hb40 hb41).mono ?_; exact SA.out; exact SB.out; rintro e w6 ⟨g5, g6, rfl, own6, b6⟩; obtain ⟨⟨y0, y1, y2⟩, B7, R7⟩ := AF.out w6 (Below.trans ((Below.refl _ _).drew) b6); have S7 : Hid (StOwn w6 w5.heap.size g5 g6 xs ys) := own6; clear b6 own6) | (go_at_call 46; refine (eqState z _ _ _ _ xs.length ys.length xs.length ys.length xs ys _ ?_ ?_ ?_ ?_ hb40 hb41).mono ?_; exact .inr ⟨_, _, rfl, R7.out.2.2.2.1⟩; exact .inr ⟨_, _, rfl, R7.out.2.2.2.2.1⟩; exact .inr ⟨_, _, rfl, S7.out.2.2.2.1⟩; exact .inr ⟨_, _, rfl, S7.out.2.2.2.2.1⟩; rintro e w8 ⟨rfl, b8⟩; have B8 : Hid (Below w.heap.size w w8) := B7.out.trans (b8.mono B7.out.size); clear b8))
    all_goals
      go_wp2_with fail
      go_ret
      exact ⟨rfl, B8.out⟩
  · go_enter Try.func8, Try.ntmps8
    go_wp2_with fail
    rw [← HW.out]
    refine (szState z a1 a2 xs.length c1 ys.length c2 1048576 W m1 m2 (by decide) (by decide)).mono ?_
    rintro e w1 ⟨rfl, b1⟩
    rw [if_pos (by omega)]
    have B1 : Hid (Below w.heap.size w w1) := hbW.out.trans (b1.mono hbW.out.size)
    clear b1
    go_wp2_with fail
    go_ret
    exact ⟨rfl, B1.out⟩
end Go.Proofs.Ytgcencilgpilaaa.Own

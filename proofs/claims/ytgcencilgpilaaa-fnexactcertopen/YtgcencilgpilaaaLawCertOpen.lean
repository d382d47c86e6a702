/-
  Own text: laws.FnExactCertOpen returns true and turns nothing that was there. No condition.
-/
import Derived.Test.YtgcencilgpilaaaStOpen
import Derived.Test.YtgcencilgpilaaaMarkSt
import Derived.Test.YtgcencilgpilaaaStateOps
import Derived.Deep.Cut
namespace Go.Proofs.Ytgcencilgpilaaa.Own
open Go.RowKit
set_option linter.unusedVariables false
set_option linter.unusedSimpArgs false

set_option maxRecDepth 100000 in
set_option maxHeartbeats 2000000 in
theorem lawCertOpen (w : World) : Calls Try.prog 7 #[] w fun e w' => e = .returned (.bool true) ∧ Below w.heap.size w w' := by
  have z4 : zero4.length = 4 := rfl
  have ES : Hid (∀ (a b : Option Addr) (W : World), Sl W a zero4 → Sl W b zero4 → Calls Try.prog 46 #[.agg #[.int .i64 0, .slice a 4 4, .slice none 0 0], .agg #[.int .i64 0, .slice b 4 4, .slice none 0 0]] W fun e w' => e = .returned (.bool true) ∧ Below W.heap.size W w') := fun a b W h1 h2 =>
    eqState 0 a none b none 4 0 4 0 zero4 [] W h1 (.inl rfl) h2 (.inl rfl) (by decide) (by decide)
  clear z4
  go_enter Try.func7, Try.ntmps7
  go_wp2_with fail
  refine (specCertOpen w).mono ?_
  rintro e w1 ⟨g1, rfl, s1, b1⟩
  obtain ⟨X1, hX1⟩ : ∃ X, X = w1.alloc (.cells #[.int .i64 0, .slice (some ⟨g1, 0, none⟩) 4 4, .slice none 0 0] 70) := ⟨_, rfl⟩
  have c1 : Below w1.heap.size w1 X1 := by rw [hX1]; exact below_new _ _
  have B1 : Hid (Below w.heap.size w X1) := b1.trans (c1.mono b1.size)
  have S1 : Hid (StB zero4 [] w.heap.size X1 (some ⟨g1, 0, none⟩) none) := s1.below c1
  have P1 : Hid (Blk X1 w1.heap.size #[.int .i64 0, .slice (some ⟨g1, 0, none⟩) 4 4, .slice none 0 0] 70) := by show Blk _ _ _ _; rw [hX1]; exact Blk.new _ _ _
  have L1 : Hid (w.heap.size ≤ w1.heap.size) := b1.size
  have HX1 : Hid (X1 = _) := hX1
  clear hX1 c1 b1 s1
  go_wp2_with fail
  rw [← HX1.out]
  refine (implCertOpen X1).mono ?_
  rintro e w2 ⟨g2, rfl, s2, b2⟩
  obtain ⟨X2, hX2⟩ : ∃ X, X = w2.alloc (.cells #[.int .i64 0, .slice (some ⟨g2, 0, none⟩) 4 4, .slice none 0 0] 70) := ⟨_, rfl⟩
  have c2 : Below w2.heap.size w2 X2 := by rw [hX2]; exact below_new _ _
  have d2 : Below X1.heap.size X1 X2 := b2.trans (c2.mono b2.size)
  have B2 : Hid (Below w.heap.size w X2) := B1.out.trans (d2.mono B1.out.size)
  have S2 : Hid (StB zero4 [] w.heap.size X2 (some ⟨g1, 0, none⟩) none) := S1.out.below d2
  have T2 : Hid (StB zero4 [] X1.heap.size X2 (some ⟨g2, 0, none⟩) none) := s2.below c2
  have P2 : Hid (Blk X2 w1.heap.size _ _) := P1.out.keep d2
  have Q2 : Hid (Blk X2 w2.heap.size #[.int .i64 0, .slice (some ⟨g2, 0, none⟩) 4 4, .slice none 0 0] 70) := by show Blk _ _ _ _; rw [hX2]; exact Blk.new _ _ _
  have NE : Hid (g2 ≠ g1 ∧ g2 ≠ w1.heap.size ∧ g2 ≠ w2.heap.size ∧ w.heap.size ≤ g2) := by
    have f1 := (S1.out.far1 _ rfl).2
    have f2 := s2.far1 _ rfl
    have f3 := P1.out.lt
    have f4 := B1.out.size
    simp only at f1 f2
    exact ⟨by omega, by omega, by omega, by omega⟩
  have HX2 : Hid (X2 = _) := hX2
  clear hX2 c2 b2 d2 s2
  obtain ⟨p0, p1, p2⟩ := P2.out.cells3
  obtain ⟨q0, q1, q2⟩ := Q2.out.cells3
  go_upto_region 3 with fail
  rw [← HX2.out]
  go_wp2_with fail
  refine (ES.out (some ⟨g2, 0, none⟩) (some ⟨g1, 0, none⟩) X2 T2.out.boxes.sl S2.out.boxes.sl).mono ?_
  rintro e w3 ⟨rfl, b3⟩
  have B3 : Hid (Below w.heap.size w w3) := B2.out.trans (b3.mono B2.out.size)
  have S3 : Hid (StB zero4 [] w.heap.size w3 (some ⟨g1, 0, none⟩) none) := S2.out.below b3
  have T3 : Hid (StB zero4 [] X1.heap.size w3 (some ⟨g2, 0, none⟩) none) := T2.out.below b3
  have P3 : Hid (Blk w3 w1.heap.size _ _) := P2.out.keep b3
  have Q3 : Hid (Blk w3 w2.heap.size _ _) := Q2.out.keep b3
  clear b3 p0 p1 p2 q0 q1 q2
  obtain ⟨q0, q1, q2⟩ := Q3.out.cells3
  go_wp2_with fail
  refine (markStB 0 (some ⟨g2, 0, none⟩) none 4 0 4 0 X1.heap.size zero4 [] 1 [g2] w3 T3.out rfl rfl (by decide) (by decide) (by decide) (by decide) (fun x e => by injection e with e; subst e; simp) (fun x e => by cases e)).mono ?_
  rintro e w4 ⟨rfl, s4, t4⟩
  have B4 : Hid (Below w.heap.size w w4) := B3.out.trans (t4.below (fun x hx => by simp at hx; rw [hx]; exact NE.out.2.2.2) B3.out.size)
  have T4 : Hid (StB (marks 1 4) (marks4 (1 + 2 * 4) 0) X1.heap.size w4 (some ⟨g2, 0, none⟩) none) := s4
  have S4 : Hid (StB zero4 [] w.heap.size w4 (some ⟨g1, 0, none⟩) none) := S3.out.turned t4 (fun x e => by injection e with e; subst e; simp; have := NE.out.1; omega) (fun x e => by cases e)
  have P4 : Hid (Blk w4 w1.heap.size _ _) := P3.out.turned t4 (by simp; have := NE.out.2.1; omega)
  have Q4' : Hid (Blk w4 w2.heap.size _ _) := Q3.out.turned t4 (by simp; have := NE.out.2.2.1; omega)
  clear s4 t4 q0 q1 q2
  obtain ⟨q0, q1, q2⟩ := Q4'.out.cells3
  go_wp2_with fail
  refine (heldStB 0 (some ⟨g2, 0, none⟩) none 4 0 4 0 X1.heap.size 1 w4 T4.out (by decide) (by decide) (by decide) (by decide)).mono ?_
  rintro e w5 ⟨rfl, b5⟩
  have B5 : Hid (Below w.heap.size w w5) := B4.out.trans (b5.mono B4.out.size)
  have T5 : Hid (StB (marks 1 4) (marks4 (1 + 2 * 4) 0) X1.heap.size w5 (some ⟨g2, 0, none⟩) none) := T4.out.below b5
  have S5 : Hid (StB zero4 [] w.heap.size w5 (some ⟨g1, 0, none⟩) none) := S4.out.below b5
  have P5 : Hid (Blk w5 w1.heap.size _ _) := P4.out.keep b5
  have Q5 : Hid (Blk w5 w2.heap.size _ _) := Q4'.out.keep b5
  clear b5 q0 q1 q2
  go_wp2_with fail
  refine (implCertOpen w5).mono ?_
  rintro e w6 ⟨g6, rfl, s6, b6⟩
  obtain ⟨X6, hX6⟩ : ∃ X, X = w6.alloc (.cells #[.int .i64 0, .slice (some ⟨g6, 0, none⟩) 4 4, .slice none 0 0] 70) := ⟨_, rfl⟩
  have c6 : Below w6.heap.size w6 X6 := by rw [hX6]; exact below_new _ _
  have d6 : Below w5.heap.size w5 X6 := b6.trans (c6.mono b6.size)
  have B6 : Hid (Below w.heap.size w X6) := B5.out.trans (d6.mono B5.out.size)
  have S6 : Hid (StB zero4 [] w.heap.size X6 (some ⟨g1, 0, none⟩) none) := S5.out.below d6
  have T6 : Hid (StB (marks 1 4) (marks4 (1 + 2 * 4) 0) X1.heap.size X6 (some ⟨g2, 0, none⟩) none) := T5.out.below d6
  have U6 : Hid (StB zero4 [] w5.heap.size X6 (some ⟨g6, 0, none⟩) none) := s6.below c6
  have P6 : Hid (Blk X6 w1.heap.size _ _) := P5.out.keep d6
  have Q6 : Hid (Blk X6 w2.heap.size _ _) := Q5.out.keep d6
  have R6 : Hid (Blk X6 w6.heap.size #[.int .i64 0, .slice (some ⟨g6, 0, none⟩) 4 4, .slice none 0 0] 70) := by show Blk _ _ _ _; rw [hX6]; exact Blk.new _ _ _
  have HX6 : Hid (X6 = _) := hX6
  clear hX6 c6 b6 d6 s6
  obtain ⟨p0, p1, p2⟩ := P6.out.cells3
  obtain ⟨r0, r1, r2⟩ := R6.out.cells3
  go_upto_region 14 with fail
  rw [← HX6.out]
  go_wp2_with fail
  refine (ES.out (some ⟨g6, 0, none⟩) (some ⟨g1, 0, none⟩) X6 U6.out.boxes.sl S6.out.boxes.sl).mono ?_
  rintro e w7 ⟨rfl, b7⟩
  have B7 : Hid (Below w.heap.size w w7) := B6.out.trans (b7.mono B6.out.size)
  have T7 : Hid (StB (marks 1 4) (marks4 (1 + 2 * 4) 0) X1.heap.size w7 (some ⟨g2, 0, none⟩) none) := T6.out.below b7
  have Q7 : Hid (Blk w7 w2.heap.size _ _) := Q6.out.keep b7
  clear b7 p0 p1 p2 r0 r1 r2
  obtain ⟨q0, q1, q2⟩ := Q7.out.cells3
  go_wp2_with fail
  refine (heldStB 0 (some ⟨g2, 0, none⟩) none 4 0 4 0 X1.heap.size 1 w7 T7.out (by decide) (by decide) (by decide) (by decide)).mono ?_
  rintro e w8 ⟨rfl, b8⟩
  have B8 : Hid (Below w.heap.size w w8) := B7.out.trans (b8.mono B7.out.size)
  clear b8 q0 q1 q2
  go_wp2_with fail
  go_ret
  exact ⟨rfl, B8.out⟩
end Go.Proofs.Ytgcencilgpilaaa.Own

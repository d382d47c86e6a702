/-
  Own text: laws.FnExactBoxRead.
-/
import Derived.Test.YtipbabkbmiaalaaDoorReadSide
import Derived.Test.YtipbabkbmiaalaaDoorMark
import Derived.Test.YtipbabkbmiaalaaDoorEq
namespace Go.Proofs.YtipbabkbmiaalaaDoor.Own
open Go.RowKit
set_option linter.unusedVariables false

theorem markNil (k : Int) (w : World) : Calls Tryd.prog 23 #[.slice none 0 0, .int .i64 k] w fun e w' => e = .returned (.int .i64 k) ∧ w' = w := by
  go_enter Tryd.func23, Tryd.ntmps23
  go_wp2
  go_loop [1, 5] (fun q i => i = .int .i64 0 ∧ q = .int .i64 k) (fun _ _ => 0)
  case atStart => exact ⟨rfl, rfl⟩
  case round =>
    obtain ⟨rfl, rfl⟩ := hrel
    go_wp2
    go_ret
    exact ⟨rfl, rfl⟩

theorem heldNil (k : Int) (w : World) : Calls Tryd.prog 24 #[.slice none 0 0, .int .i64 k] w fun e w' => e = .returned (.int .i64 k) ∧ w' = w := by
  go_enter Tryd.func24, Tryd.ntmps24
  go_wp2
  go_loop [1, 5] (fun q i => i = .int .i64 0 ∧ q = .int .i64 k) (fun _ _ => 0)
  case atStart => exact ⟨rfl, rfl⟩
  case round =>
    obtain ⟨rfl, rfl⟩ := hrel
    go_wp2
    go_ret
    exact ⟨rfl, rfl⟩

theorem eq4 (g1 g2 c1 c2 : Nat) (xs : List (Int × Int)) (w : World) (hl : xs.length = 4) (h1 : BoxAt w g1 0 xs) (h2 : BoxAt w g2 0 xs) :
    Calls Tryd.prog 22 #[.slice (some ⟨g1, 0, none⟩) 4 c1, .slice (some ⟨g2, 0, none⟩) 4 c2] w fun e w' => e = .returned (.bool true) ∧ Below w.heap.size w w' := by
  have h := eqBoxS (some ⟨g1, 0, none⟩) (some ⟨g2, 0, none⟩) c1 c2 xs xs w (.inr ⟨_, _, rfl, h1⟩) (.inr ⟨_, _, rfl, h2⟩) (by omega) (by omega)
  rw [hl, show (xs == xs) = true from by simp] at h
  exact h
theorem eqNil (w : World) : Calls Tryd.prog 22 #[.slice none 0 0, .slice none 0 0] w fun e w' => e = .returned (.bool true) ∧ Below w.heap.size w w' :=
  eqBoxS none none 0 0 [] [] w (.inl rfl) (.inl rfl) (by decide) (by decide)

/-- Where the boxes of the text are known, the program's reader hands back these. -/
theorem implGood (s : ByteArray) (xs : List (Int × Int)) (w : World) (hs : s.size ≤ 1048576) (hE : Env w) (ok : boxOk xs = true) (ht : textOf xs = s.data.toList) : Calls Tryd.prog 9 #[.string s] w fun e w' =>
    (∃ g, w.heap.size ≤ g ∧ e = .returned (.tuple #[.slice (some ⟨g, 0, none⟩) 4 4, .bool true]) ∧ BoxAt w' g 0 xs ∧ Row w' g 4) ∧ Below w.heap.size w w' := by
  refine (implRead s w hs hE).mono ?_
  rintro e w' ⟨h, hb⟩
  refine ⟨?_, hb⟩
  rcases h with ⟨ys, g, h1, h2, h3, h4, h5, h6⟩ | ⟨hn, _⟩
  · have : ys = xs := textOf_inj (by rw [h2, ht])
    subst this
    exact ⟨g, h3, h4, h5, h6⟩
  · exact absurd ht (hn xs ok)
/-- Where no boxes that are ok have the text, it hands back nothing. -/
theorem implBad (s : ByteArray) (w : World) (hs : s.size ≤ 1048576) (hE : Env w) (hn : NoBoxes s.data.toList) : Calls Tryd.prog 9 #[.string s] w fun e w' =>
    e = .returned (.tuple #[.slice none 0 0, .bool false]) ∧ Below w.heap.size w w' := by
  refine (implRead s w hs hE).mono ?_
  rintro e w' ⟨h, hb⟩
  refine ⟨?_, hb⟩
  rcases h with ⟨ys, g, h1, h2, _⟩ | ⟨_, h⟩
  · exact absurd h2 (hn ys h1)
  · exact h

theorem row_cells {w : World} {g : Nat} (h : Row w g 4) : ∀ i, i < 2 * 4 → ∃ v, w.cell? ⟨g, 0 + i, none⟩ = some v ∧ v.oneCell' = true := by
  intro i hi
  rw [Nat.zero_add]
  exact h.cell i (by omega)

set_option maxHeartbeats 4000000 in
theorem lawRead (s : ByteArray) (w : World) (hE : Env w) (hm : s.size ≤ maxLen) :
    Calls Tryd.prog 6 #[.string s] w fun e w' => e = .returned (.bool true) ∧ Below w.heap.size w w' := by
  have HE : Hid (Env w) := hE
  clear hE
  unfold maxLen at hm
  by_cases hs' : ¬ s.size ≤ 1048576
  · have hz : (1048576 : Int) < s.size := by omega
    go_enter Tryd.func6, Tryd.ntmps6
    go_wp2
    go_ret
    exact ⟨rfl, Below.refl _ _⟩
  have hs : s.size ≤ 1048576 := by omega
  clear hs' hm
  go_enter Tryd.func6, Tryd.ntmps6
  go_wp2_with fail
  refine (specRead s w hs).mono ?_
  rintro e w1 ⟨h1, b1⟩
  have B1 : Hid (Below w.heap.size w w1) := b1
  clear b1
  rcases h1 with ⟨xs, g, cap, ok, ht, hg, rfl, hat⟩ | ⟨hn, rfl⟩
  · have HOK : Hid (boxOk xs = true) := ok
    have HT : Hid (textOf xs = s.data.toList) := ht
    have HL : Hid (xs.length = 4) := ((boxOk_iff xs).1 ok).1
    have A1 : Hid (BoxAt w1 g 0 xs) := hat
    clear ok ht hat
    go_wp2_with fail
    refine (implGood s xs w1 hs (HE.out.keep B1.out) HOK.out HT.out).mono ?_
    rintro e w2 ⟨⟨g2, hg2, rfl, hat2, hrow2⟩, b2⟩
    have A2 : Hid (BoxAt w2 g 0 xs) := A1.out.below b2
    have A2' : Hid (BoxAt w2 g2 0 xs) := hat2
    have R2 : Hid (Row w2 g2 4) := hrow2
    have B2 : Hid (Below w.heap.size w w2) := B1.out.trans (b2.mono B1.out.size)
    have NE : Hid (g ≠ g2) := by have := A1.out.1; show _ ≠ _; omega
    have G2 : Hid (w.heap.size ≤ g2) := by have := B1.out.size; show _ ≤ _; omega
    clear b2 hat2 hrow2 hg2
    go_wp2_with fail
    refine (eq4 g2 g 4 cap xs w2 HL.out A2'.out A2.out).mono ?_
    rintro e w3 ⟨rfl, b3⟩
    have A3 : Hid (BoxAt w3 g 0 xs) := A2.out.below b3
    have R3 : Hid (Row w3 g2 4) := R2.out.below b3 R2.out.lt
    have B3 : Hid (Below w.heap.size w w3) := B2.out.trans (b3.mono B2.out.size)
    clear b3
    go_wp2_with fail
    refine (markBoxS g2 0 4 4 1 w3 (by decide) (by decide) (by decide) (fun o => R3.out.frozen o) (row_cells R3.out) R3.out.lt).mono ?_
    rintro e w4 ⟨rfl, hm4, ho4⟩
    have M4 : Hid (BoxAt w4 g2 0 (marks 1 4)) := hm4
    have A4 : Hid (BoxAt w4 g 0 xs) := A3.out.only ho4 NE.out
    have B4 : Hid (Below w.heap.size w w4) := B3.out.trans (ho4.below G2.out)
    clear hm4 ho4
    go_wp2_with fail
    refine (heldBoxS g2 0 4 4 1 w4 (by decide) (by decide) (by decide) M4.out).mono ?_
    rintro e w4' ⟨rfl, hw4⟩
    subst hw4
    go_wp2_with fail
    refine (implGood s xs w4' hs (HE.out.keep B4.out) HOK.out HT.out).mono ?_
    rintro e w5 ⟨⟨g3, hg3, rfl, hat5, hrow5⟩, b5⟩
    have A5 : Hid (BoxAt w5 g 0 xs) := A4.out.below b5
    have A5' : Hid (BoxAt w5 g3 0 xs) := hat5
    have M5 : Hid (BoxAt w5 g2 0 (marks 1 4)) := M4.out.below b5
    have B5 : Hid (Below w.heap.size w w5) := B4.out.trans (b5.mono B4.out.size)
    clear b5 hat5 hrow5 hg3
    go_wp2_with fail
    refine (eq4 g3 g 4 cap xs w5 HL.out A5'.out A5.out).mono ?_
    rintro e w6 ⟨rfl, b6⟩
    have M6 : Hid (BoxAt w6 g2 0 (marks 1 4)) := M5.out.below b6
    have B6 : Hid (Below w.heap.size w w6) := B5.out.trans (b6.mono B5.out.size)
    clear b6
    go_wp2_with fail
    refine (heldBoxS g2 0 4 4 1 w6 (by decide) (by decide) (by decide) M6.out).mono ?_
    rintro e w7 ⟨rfl, hw7⟩
    subst hw7
    go_wp2_with fail
    go_ret
    exact ⟨rfl, B6.out⟩
  · have HN : Hid (NoBoxes s.data.toList) := hn
    clear hn
    go_wp2_with fail
    refine (implBad s w1 hs (HE.out.keep B1.out) HN.out).mono ?_
    rintro e w2 ⟨rfl, b2⟩
    have B2 : Hid (Below w.heap.size w w2) := B1.out.trans (b2.mono B1.out.size)
    clear b2
    go_wp2_with fail
    refine (eqNil w2).mono ?_
    rintro e w3 ⟨rfl, b3⟩
    have B3 : Hid (Below w.heap.size w w3) := B2.out.trans (b3.mono B2.out.size)
    clear b3
    go_wp2_with fail
    refine (markNil 1 w3).mono ?_
    rintro e w4 ⟨rfl, rfl⟩
    go_wp2_with fail
    refine (heldNil 1 w4).mono ?_
    rintro e w5 ⟨rfl, rfl⟩
    go_wp2_with fail
    refine (implBad s w5 hs (HE.out.keep B3.out) HN.out).mono ?_
    rintro e w6 ⟨rfl, b6⟩
    have B6 : Hid (Below w.heap.size w w6) := B3.out.trans (b6.mono B3.out.size)
    clear b6
    go_wp2_with fail
    refine (eqNil w6).mono ?_
    rintro e w7 ⟨rfl, b7⟩
    have B7 : Hid (Below w.heap.size w w7) := B6.out.trans (b7.mono B6.out.size)
    clear b7
    go_wp2_with fail
    refine (heldNil 1 w7).mono ?_
    rintro e w8 ⟨rfl, rfl⟩
    go_wp2_with fail
    go_ret
    exact ⟨rfl, B7.out⟩
end Go.Proofs.YtipbabkbmiaalaaDoor.Own

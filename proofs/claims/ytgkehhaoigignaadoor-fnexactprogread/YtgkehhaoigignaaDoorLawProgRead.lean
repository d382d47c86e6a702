/-
  Own text: laws.FnExactProgRead.
-/
import Derived.Test.YtgkehhaoigignaaDoorReadS3
import Derived.Test.YtgkehhaoigignaaDoorMark4
import Derived.Test.YtgkehhaoigignaaDoorHeld4
import Derived.Test.YtgkehhaoigignaaDoorEq4
namespace Go.Proofs.YtgkehhaoigignaaDoor.Own
open Go.RowKit
set_option linter.unusedVariables false

/-- v's instructions have been marked from 1 on. -/
def HeldQ (w : World) (B : Nat) (v : Value) (n : Nat) : Prop := ∃ a cap, v = .slice a n cap ∧ (n = 0 ∨ ∃ g, a = some ⟨g, 0, none⟩ ∧ B ≤ g ∧ At4 w g 0 (marks4 1 n))
theorem HeldQ.keep {w w' : World} {B n : Nat} {v : Value} (h : HeldQ w B v n) (hb : Below w.heap.size w w') : HeldQ w' B v n := by
  obtain ⟨a, cap, hv, h⟩ := h
  refine ⟨a, cap, hv, ?_⟩
  rcases h with h | ⟨g, ha, hg, h⟩
  · exact .inl h
  · exact .inr ⟨g, ha, hg, h.below hb⟩

theorem eqOwnQ (v1 v2 : Value) (B1 B2 : Nat) (xs : List Q4) (w : World) (h1 : OwnQ w B1 v1 xs) (h2 : OwnQ w B2 v2 xs) (hl : xs.length ≤ 2 ^ 40) :
    Calls Tryd.prog 17 #[v1, v2] w fun e w' => e = .returned (.bool true) ∧ Below w.heap.size w w' := by
  obtain ⟨a1, c1, rfl, s1, _⟩ := h1.open
  obtain ⟨a2, c2, rfl, s2, _⟩ := h2.open
  refine (eqInsS a1 a2 c1 c2 xs xs w s1 s2 hl hl).mono ?_
  rintro e w' ⟨rfl, hb⟩
  exact ⟨by simp, hb⟩

theorem markOwnQ (v : Value) (B : Nat) (xs : List Q4) (w : World) (h : OwnQ w B v xs) (hl : xs.length ≤ 2 ^ 38) (hB : B ≤ w.heap.size) :
    Calls Tryd.prog 20 #[v, .int .i64 1] w fun e w' => e = .returned (.int .i64 (1 + 4 * (xs.length : Int))) ∧ HeldQ w' B v xs.length ∧ Below B w w' := by
  obtain ⟨h1, h2⟩ := h
  rcases h2 with ⟨hv, h0⟩ | ⟨g, cap, cur, hv, hg, hh, hmc, hml, hsz, htk⟩
  · subst hv
    refine (markInsS0 none 0 1 w).mono ?_
    rintro e w' ⟨rfl, rfl⟩
    exact ⟨by rw [h0]; rfl, ⟨none, 0, by rw [h0], .inl h0⟩, Below.refl _ _⟩
  · subst hv
    have hc : ∀ i, i < 4 * xs.length → ∃ v, w.cell? ⟨g, 0 + i, none⟩ = some v ∧ v.oneCell' = true := by
      intro i hi
      rw [Nat.zero_add, cell_heap hh]
      have hfl := flat4_length xs
      have hi2 : i < (flat4 xs).length := by omega
      have e : (cur.toList.take (xs.length * 4))[i]? = some (flat4 xs)[i] := by
        rw [htk, List.getElem?_eq_getElem hi2]
      rw [List.getElem?_take_of_lt (by omega)] at e
      refine ⟨(flat4 xs)[i], by simpa using e, ?_⟩
      have hm : (flat4 xs)[i] ∈ flat4 xs := List.getElem_mem hi2
      simp only [flat4, List.mem_flatMap] at hm
      obtain ⟨p, _, hp⟩ := hm
      simp at hp
      rcases hp with hp | hp | hp | hp
      all_goals
        have e2 : (flat4 xs)[i] = _ := hp
        rw [e2]; rfl
    refine (markInsS g 0 xs.length cap 1 w (by omega) (by decide) (by decide) (fun o => frozen_heap hh o) hc (Array.getElem?_eq_some_iff.1 hh).1).mono ?_
    rintro e w' ⟨rfl, hat, ho⟩
    exact ⟨rfl, ⟨_, _, rfl, .inr ⟨g, rfl, hg, hat⟩⟩, ho.below hg⟩

theorem heldOwnQ (v : Value) (B n : Nat) (w : World) (h : HeldQ w B v n) (hl : n ≤ 2 ^ 38) :
    Calls Tryd.prog 21 #[v, .int .i64 1] w fun e w' => e = .returned (.int .i64 (1 + 4 * (n : Int))) ∧ w' = w := by
  obtain ⟨a, cap, rfl, h⟩ := h
  rcases h with rfl | ⟨g, rfl, hg, h⟩
  · refine (heldInsS0 a cap 1 w).mono ?_
    rintro e w' ⟨rfl, rfl⟩
    exact ⟨rfl, rfl⟩
  · exact heldInsS g 0 n cap 1 w (by omega) (by decide) (by decide) h

/-- What is to be answered to a text. -/
def Right (l : List UInt8) (xs : List Q4) (ok : Bool) : Prop := (ok = true ∧ progOk xs = true ∧ progText xs = l) ∨ (ok = false ∧ xs = [] ∧ NoProg l)

theorem reads_right {l : List UInt8} {B : Nat} {e : Ending} {w' : World} (h : ReadsProg l B e w') : ∃ (xs : List Q4) (ok : Bool) (v : Value), Right l xs ok ∧ e = .returned (.tuple #[v, .bool ok]) ∧ OwnQ w' B v xs := by
  rcases h with ⟨xs, v, h1, h2, h3, h4⟩ | ⟨h1, h2⟩
  · exact ⟨xs, true, v, .inl ⟨rfl, h1, h2⟩, h3, h4⟩
  · exact ⟨[], false, _, .inr ⟨rfl, rfl, h1⟩, h2, World.ownsRow_nil _ _ _ _⟩

theorem reads_same {l : List UInt8} {B : Nat} {e : Ending} {w' : World} {xs : List Q4} {ok : Bool} (h : ReadsProg l B e w') (r : Right l xs ok) : ∃ v : Value, e = .returned (.tuple #[v, .bool ok]) ∧ OwnQ w' B v xs := by
  rcases h with ⟨ys, v, h1, h2, h3, h4⟩ | ⟨h1, h2⟩
  · rcases r with ⟨rfl, r1, r2⟩ | ⟨_, _, r1⟩
    · have : ys = xs := progText_inj h1 r1 (by rw [h2, r2])
      subst this
      exact ⟨v, h3, h4⟩
    · exact absurd h2 (r1 ys h1)
  · rcases r with ⟨rfl, r1, r2⟩ | ⟨rfl, rfl, _⟩
    · exact absurd r2 (h1 xs r1)
    · exact ⟨_, h2, World.ownsRow_nil _ _ _ _⟩

theorem right_len {l : List UInt8} {xs : List Q4} {ok : Bool} (h : Right l xs ok) : xs.length ≤ 10 := by
  rcases h with ⟨_, h, _⟩ | ⟨_, rfl, _⟩
  · exact ((progOk_iff xs).1 h).1
  · simp

set_option maxHeartbeats 4000000 in
theorem lawProgRead (s : ByteArray) (w : World) (hE : Env w) (hm : s.size ≤ maxLen) :
    Calls Tryd.prog 5 #[.string s] w fun e w' => e = .returned (.bool true) ∧ Below w.heap.size w w' := by
  have HE : Hid (Env w) := hE
  clear hE
  unfold maxLen at hm
  by_cases hs' : ¬ s.size ≤ 1048576
  · have hz : (1048576 : Int) < s.size := by omega
    go_enter Tryd.func5, Tryd.ntmps5
    go_wp2
    go_ret
    exact ⟨rfl, Below.refl _ _⟩
  have hs : s.size ≤ 1048576 := by omega
  clear hs' hm
  have IMPL : Hid (∀ (xs : List Q4) (ok : Bool) (W : World), Right s.data.toList xs ok → Env W → Calls Tryd.prog 19 #[.string s] W fun e w' => (∃ v : Value, e = .returned (.tuple #[v, .bool ok]) ∧ OwnQ w' W.heap.size v xs) ∧ Below W.heap.size W w') := by
    intro xs ok W r hW
    refine (implProgRead s W hs hW).mono ?_
    rintro e w' ⟨h, hb⟩
    exact ⟨reads_same h r, hb⟩
  go_enter Tryd.func5, Tryd.ntmps5
  go_wp2_with fail
  refine (specProgRead s w hs).mono ?_
  rintro e w1 ⟨h1, b1⟩
  obtain ⟨xs, ok, v0, hr, rfl, o1⟩ := reads_right h1
  have R : Hid (Right s.data.toList xs ok) := hr
  have hl := right_len hr
  have O1 : Hid (OwnQ w1 w.heap.size v0 xs) := o1
  have B1 : Hid (Below w.heap.size w w1) := b1
  clear h1 hr o1 b1
  go_wp2_with fail
  refine (IMPL.out xs ok w1 R.out (HE.out.keep B1.out)).mono ?_
  rintro e w2 ⟨⟨v1, rfl, o2⟩, b2⟩
  have O2 : Hid (OwnQ w2 w1.heap.size v1 xs) := o2
  have P2 : Hid (OwnQ w2 w.heap.size v0 xs) := O1.out.keep b2
  have K2 : Hid (Below w1.heap.size w1 w2) := b2
  have B2 : Hid (Below w.heap.size w w2) := B1.out.trans (b2.mono B1.out.size)
  clear o2 b2
  go_wp2_with fail
  refine (eqOwnQ v1 v0 _ _ xs w2 O2.out P2.out (by omega)).mono ?_
  rintro e w3 ⟨rfl, b3⟩
  have O3 : Hid (OwnQ w3 w1.heap.size v1 xs) := O2.out.keep b3
  have K3 : Hid (Below w1.heap.size w1 w3) := K2.out.trans (b3.mono K2.out.size)
  have B3 : Hid (Below w.heap.size w w3) := B2.out.trans (b3.mono B2.out.size)
  clear b3
  go_wp2_with fail
  refine (markOwnQ v1 w1.heap.size xs w3 O3.out (by omega) K3.out.size).mono ?_
  rintro e w4 ⟨rfl, m4, b4⟩
  have M4 : Hid (HeldQ w4 w1.heap.size v1 xs.length) := m4
  have K4 : Hid (Below w1.heap.size w1 w4) := K3.out.trans b4
  have B4 : Hid (Below w.heap.size w w4) := B3.out.trans (b4.mono B1.out.size)
  clear m4 b4
  go_wp2_with fail
  refine (heldOwnQ v1 w1.heap.size xs.length w4 M4.out (by omega)).mono ?_
  rintro e w4' ⟨rfl, hw⟩
  subst hw
  go_wp2_with fail
  refine (IMPL.out xs ok w4' R.out (HE.out.keep B4.out)).mono ?_
  rintro e w5 ⟨⟨v3, rfl, o5⟩, b5⟩
  have O5 : Hid (OwnQ w5 w4'.heap.size v3 xs) := o5
  have M5 : Hid (HeldQ w5 w1.heap.size v1 xs.length) := M4.out.keep b5
  have P5 : Hid (OwnQ w5 w.heap.size v0 xs) := O1.out.keep (K4.out.trans (b5.mono K4.out.size))
  have B5 : Hid (Below w.heap.size w w5) := B4.out.trans (b5.mono B4.out.size)
  clear o5 b5
  go_wp2_with fail
  refine (eqOwnQ v3 v0 _ _ xs w5 O5.out P5.out (by omega)).mono ?_
  rintro e w6 ⟨rfl, b6⟩
  have M6 : Hid (HeldQ w6 w1.heap.size v1 xs.length) := M5.out.keep b6
  have B6 : Hid (Below w.heap.size w w6) := B5.out.trans (b6.mono B5.out.size)
  clear b6
  go_wp2_with fail
  refine (heldOwnQ v1 w1.heap.size xs.length w6 M6.out (by omega)).mono ?_
  rintro e w6' ⟨rfl, hw⟩
  subst hw
  go_wp2_with fail
  go_ret
  exact ⟨rfl, B6.out⟩
end Go.Proofs.YtgkehhaoigignaaDoor.Own

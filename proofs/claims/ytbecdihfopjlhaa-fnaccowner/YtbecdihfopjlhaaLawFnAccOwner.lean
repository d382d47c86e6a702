/-
  Own text: laws.FnAccOwner.
-/
import Derived.Test.YtbecdihfopjlhaaAccNextI
import Derived.Test.YtbecdihfopjlhaaPick
namespace Go.Proofs.Ytbecdihfopjlhaa.Own
open Go.RowKit
set_option linter.unusedVariables false

theorem nums_newO (w : World) (zs : List Int) (cs : Array Value) (t : TypeId) (h : cs = (zs.map (Value.int .i64)).toArray) : Nums (w.alloc (.cells cs t)) w.heap.size zs := by
  subst h
  refine ⟨by rw [size_new]; omega, fun i hi => ?_⟩
  rw [cell_heap (heap_new _ _)]
  simp [List.getD, hi]

set_option maxRecDepth 100000 in
set_option maxHeartbeats 1000000 in
theorem drawAccOwner (a : Option Addr) (n c : Nat) (w : World) (h : Bytes w w.heap.size a n) (hc : n ≤ c) (hm : c ≤ maxLen) :
    Calls Try.prog 32 #[.slice a n c] w fun e w' => (∃ b : Int, e = .returned (.int .i64 b) ∧ -1 ≤ b ∧ b ≤ 3001) ∧ Below w.heap.size w w' := by
  have HB : Hid (Bytes w w.heap.size a n) := h
  have HM : Hid (c ≤ maxLen) := hm
  clear h hm
  go_enter Try.func32, Try.ntmps32
  go_wp2_with fail
  refine (l15Open a n c w HB.out hc HM.out).mono ?_
  rintro e w1 ⟨rfl, hR, hb⟩
  have D1 : Hid (Rd w1 w.heap.size (w.heap.size + 1) 0) := hR
  have B1 : Hid (Below w.heap.size w w1) := hb
  clear hR hb
  go_wp2_with fail
  refine (num w.heap.size (w.heap.size + 1) 0 w1.heap.size 9 9 [0, 1, 2, 3, 4, 7, 3000, 3001, -1] _ (D1.out.alloc _) (by omega) (nums_newO _ _ _ _ rfl) rfl (by omega) (by omega) (by have := D1.out.2.1; omega)).mono ?_
  rintro e w2 ⟨⟨b, rfl, hz⟩, _, hO⟩
  have F : Hid ((-1 ≤ b ∧ b ≤ 3001) ∧ Below w.heap.size w w2) := ⟨by simp at hz; omega, (B1.out.alloc B1.out.size _).trans ((hO.below (Nat.le_refl _)).mono (Nat.le_refl _))⟩
  clear hz hO
  go_wp2
  go_ret
  exact ⟨⟨b, rfl, F.out.1⟩, F.out.2⟩

theorem owner_facts {b : Int} (h1 : 1 ≤ b) (h2 : b ≤ 2997) : (ownerOf b != ownerOf (b + 1)) = true ∧ (ownerOf (b + 1) != ownerOf (b + 2)) = true ∧ (ownerOf b != ownerOf (b + 2)) = true ∧ (ownerOf (b + 3) == ownerOf b) = true ∧
    (nextOf b (ownerOf b) == b + 3) = true ∧ (nextOf b (ownerOf (b + 1)) == b + 1) = true := by
  have e : ∀ x, 1 ≤ x → x ≤ 3000 → ownerOf x = x % 3 := fun x a c => by unfold ownerOf; rw [if_pos (isBal_iff.2 ⟨a, c⟩)]
  rw [e b h1 (by omega), e (b + 1) (by omega) (by omega), e (b + 2) (by omega) (by omega), e (b + 3) (by omega) (by omega)]
  have n : ∀ p, 0 ≤ p → p < 3 → nextOf b p = aboveB b p := fun p a c => by
    unfold nextOf; rw [if_pos ⟨by omega, by omega, a, c, by unfold aboveB; omega⟩]
  rw [n _ (by omega) (by omega), n _ (by omega) (by omega)]
  unfold aboveB
  simp only [bne_iff_ne, ne_eq, beq_iff_eq]
  refine ⟨by omega, by omega, by omega, by omega, by omega, by omega⟩

set_option maxRecDepth 100000 in
set_option maxHeartbeats 4000000 in
theorem lawFnAccOwner (a : Option Addr) (n c : Nat) (w : World) (h : Bytes w w.heap.size a n) (hc : n ≤ c) (hm : c ≤ maxLen) :
    Calls Try.prog 7 #[.slice a n c] w fun e w' => e = .returned (.bool true) ∧ Below w.heap.size w w' := by
  have HB : Hid (Bytes w w.heap.size a n) := h
  have HM : Hid (c ≤ maxLen) := hm
  have SO : Hid (∀ n V, Calls Try.prog 33 #[.int .i64 n] V fun e w' => e = .returned (.int .i64 (ownerOf n)) ∧ w' = V) := specOwner
  have IO : Hid (∀ n V, Calls Try.prog 28 #[.int .i64 n] V fun e w' => e = .returned (.int .i64 (ownerOf n)) ∧ w' = V) := implOwner
  have IN : Hid (∀ n p V, Calls Try.prog 26 #[.int .i64 n, .int .i64 p] V fun e w' => e = .returned (.int .i64 (nextOf n p)) ∧ w' = V) := implNext
  clear h
  unfold maxLen at hm
  by_cases hn : n ≤ 1048576
  · have hd : decide ((1048576 : Int) < (n : Int)) = false := by simp; omega
    go_enter Try.func7, Try.ntmps7
    go_wp2_with fail
    refine (drawAccOwner a n c w HB.out hc HM.out).mono ?_
    rintro e w1 ⟨⟨b, rfl, hb1, hb2⟩, hb⟩
    have B1 : Hid (Below w.heap.size w w1) := hb
    clear hb
    by_cases hr : 1 ≤ b ∧ b ≤ 2997
    · obtain ⟨hr1, hr2⟩ := hr
      obtain ⟨f1, f2, f3, f4, f5, f6⟩ := owner_facts hr1 hr2
      have I0 : Hid (∀ V, Calls Try.prog 28 #[.int .i64 b] V fun e w' => e = .returned (.int .i64 (ownerOf b)) ∧ w' = V) := IO.out b
      have S0 : Hid (∀ V, Calls Try.prog 33 #[.int .i64 b] V fun e w' => e = .returned (.int .i64 (ownerOf b)) ∧ w' = V) := SO.out b
      have I1 : Hid (∀ V, Calls Try.prog 28 #[.int .i64 (b + 1)] V fun e w' => e = .returned (.int .i64 (ownerOf (b + 1))) ∧ w' = V) := IO.out (b + 1)
      have I2 : Hid (∀ V, Calls Try.prog 28 #[.int .i64 (b + 2)] V fun e w' => e = .returned (.int .i64 (ownerOf (b + 2))) ∧ w' = V) := IO.out (b + 2)
      have I3 : Hid (∀ V, Calls Try.prog 28 #[.int .i64 (b + 3)] V fun e w' => e = .returned (.int .i64 (ownerOf (b + 3))) ∧ w' = V) := IO.out (b + 3)
      have N0 : Hid (∀ V, Calls Try.prog 26 #[.int .i64 b, .int .i64 (ownerOf b)] V fun e w' => e = .returned (.int .i64 (nextOf b (ownerOf b))) ∧ w' = V) := IN.out b _
      have N1 : Hid (∀ V, Calls Try.prog 26 #[.int .i64 b, .int .i64 (ownerOf (b + 1))] V fun e w' => e = .returned (.int .i64 (nextOf b (ownerOf (b + 1)))) ∧ w' = V) := IN.out b _
      have g0 : (ownerOf b != ownerOf b) = false := by simp
      clear IO SO IN
      generalize nextOf b (ownerOf b) = m0 at N0 f5
      generalize nextOf b (ownerOf (b + 1)) = m1 at N1 f6
      generalize ownerOf b = o0 at *
      generalize ownerOf (b + 1) = o1 at *
      generalize ownerOf (b + 2) = o2 at *
      generalize ownerOf (b + 3) = o3 at *
      go_wp2_with fail
      refine Calls.mono (I0.out w1) ?_
      rintro e w2 ⟨rfl, rfl⟩
      go_wp2_with fail
      refine Calls.mono (S0.out _) ?_
      rintro e w3 ⟨rfl, rfl⟩
      go_wp2_with fail
      refine Calls.mono (I1.out _) ?_
      rintro e w4 ⟨rfl, rfl⟩
      go_wp2_with fail
      refine Calls.mono (I2.out _) ?_
      rintro e w5 ⟨rfl, rfl⟩
      go_wp2_with (first | (go_at_call 28; refine Calls.mono (I3.out _) ?_; rintro e w6 ⟨rfl, rfl⟩) | (go_at_call_of 26 (Value.int .i64 o0); refine Calls.mono (N0.out _) ?_; rintro e w7 ⟨rfl, rfl⟩) | (go_at_call_of 26 (Value.int .i64 o1); refine Calls.mono (N1.out _) ?_; rintro e w8 ⟨rfl, rfl⟩))
      go_ret
      exact ⟨rfl, B1.out⟩
    · have hor : b < 1 ∨ 2997 < b := by omega
      have I0 : Hid (∀ V, Calls Try.prog 28 #[.int .i64 b] V fun e w' => e = .returned (.int .i64 (ownerOf b)) ∧ w' = V) := IO.out b
      have S0 : Hid (∀ V, Calls Try.prog 33 #[.int .i64 b] V fun e w' => e = .returned (.int .i64 (ownerOf b)) ∧ w' = V) := SO.out b
      have g0 : (ownerOf b != ownerOf b) = false := by simp
      clear IO SO IN
      by_cases hbal : 1 ≤ b ∧ b ≤ 3000
      · obtain ⟨hx1, hx2⟩ := hbal
        have hx3 : 2997 < b := by omega
        have ho : (ownerOf b == -1) = false := by
          unfold ownerOf; rw [if_pos (isBal_iff.2 ⟨hx1, hx2⟩)]
          simp; omega
        clear hor hr
        generalize ownerOf b = o0 at *
        go_wp2_with fail
        refine Calls.mono (I0.out w1) ?_
        rintro e w2 ⟨rfl, rfl⟩
        go_wp2_with fail
        refine Calls.mono (S0.out _) ?_
        rintro e w3 ⟨rfl, rfl⟩
        go_wp2_with fail
        go_ret
        refine ⟨ret_bool ?_, B1.out⟩
        first | rfl | (simp; omega) | (simp; done)
      · have ho : (ownerOf b == -1) = true := by
          unfold ownerOf; rw [if_neg (by rw [isBal_iff]; exact hbal)]
          rfl
        by_cases hx1 : b < 1
        · clear hor hr hbal
          generalize ownerOf b = o0 at *
          go_wp2_with fail
          refine Calls.mono (I0.out w1) ?_
          rintro e w2 ⟨rfl, rfl⟩
          go_wp2_with fail
          refine Calls.mono (S0.out _) ?_
          rintro e w3 ⟨rfl, rfl⟩
          go_wp2_with fail
          go_ret
          refine ⟨ret_bool ?_, B1.out⟩
          first | rfl | (simp; omega) | (simp; done)
        · have hx2 : 3000 < b := by omega
          clear hor hr hbal
          generalize ownerOf b = o0 at *
          go_wp2_with fail
          refine Calls.mono (I0.out w1) ?_
          rintro e w2 ⟨rfl, rfl⟩
          go_wp2_with fail
          refine Calls.mono (S0.out _) ?_
          rintro e w3 ⟨rfl, rfl⟩
          go_wp2_with fail
          go_ret
          refine ⟨ret_bool ?_, B1.out⟩
          first | rfl | (simp; omega) | (simp; done)
  · have hd : decide ((1048576 : Int) < (n : Int)) = true := by simp; omega
    go_enter Try.func7, Try.ntmps7
    go_wp2_with fail
    go_ret
    exact ⟨rfl, Below.refl _ _⟩
end Go.Proofs.Ytbecdihfopjlhaa.Own

/-
  Own text: what (impl.insKind).form does at every kind, and what impl.kindOf does.
-/
import Derived.Test.YtbcnmmofccackaaGreatDoorReadI2
namespace Go.Proofs.YtbcnmmofccackaaGreatDoor.Own
open Go.RowKit
set_option linter.unusedVariables false
set_option linter.unusedSimpArgs false

def hiA (k : Int) : Int := if 1 ≤ k ∧ k ≤ 6 then 3 else 0
def hiB (k : Int) : Int := if k = 1 ∨ k = 2 ∨ k = 4 ∨ k = 5 ∨ k = 6 then 3 else 0
def loN (k : Int) : Int := if k = 3 then -1000000 else if k = 6 then 1 else 0
def hiN (k : Int) : Int := if k = 3 then 1000000 else if k = 6 then 10 else 0

theorem formC (k : Int) (W : World) : Calls Tryz.prog 41 #[.int .i64 k] W fun e w' => e = .returned (.agg #[.string (str (wordOf k)), .int .i64 0, .int .i64 (hiA k), .int .i64 0, .int .i64 (hiB k), .int .i64 (loN k), .int .i64 (hiN k)]) ∧ Below W.heap.size W w' := by
  by_cases h1 : k = 1
  · subst h1; exact form1 W
  by_cases h2 : k = 2
  · subst h2; exact form2 W
  by_cases h3 : k = 3
  · subst h3; exact form3 W
  by_cases h4 : k = 4
  · subst h4; exact form4 W
  by_cases h5 : k = 5
  · subst h5; exact form5 W
  by_cases h6 : k = 6
  · subst h6; exact form6 W
  by_cases h7 : k = 7
  · subst h7; exact form7 W
  have e1 : wordOf k = [] := by simp [wordOf, h1, h2, h3, h4, h5, h6, h7]
  have e2 : hiA k = 0 := by unfold hiA; rw [if_neg (by omega)]
  have e3 : hiB k = 0 := by simp [hiB, h1, h2, h4, h5, h6]
  have e4 : loN k = 0 := by simp [loN, h3, h6]
  have e5 : hiN k = 0 := by simp [hiN, h3, h6]
  rw [e1, e2, e3, e4, e5]
  exact formNo k W (noKindT h1 h2 h3 h4 h5 h6 h7)

theorem span_has {k : Int} (h : IsKind k) : (!noSpan 0 (hiA k)) = hasA k ∧ (!noSpan 0 (hiB k)) = hasB k ∧ (!noSpan (loN k) (hiN k)) = hasN k := by
  rcases kind_cases h with rfl | rfl | rfl | rfl | rfl | rfl | rfl <;> decide
theorem span_none : noSpan 0 (hiA 0) = true ∧ noSpan 0 (hiB 0) = true ∧ noSpan (loN 0) (hiN 0) = true := by decide

theorem fieldWord (t : ByteArray) (x1 x2 x3 x4 : Int) (w : World) : (Instr.field 76 (.agg #[.string t, .int .i64 0, .int .i64 x1, .int .i64 0, .int .i64 x2, .int .i64 x3, .int .i64 x4]) 0).run Tryz.prog w = .ok (.string t) w := by kernel_rfl

set_option maxRecDepth 100000 in
set_option maxHeartbeats 2000000 in
theorem kindOfC (s : ByteArray) (w : World) : Calls Tryz.prog 44 #[.string s] w fun e w' =>
    (∃ k : Int, e = .returned (.int .i64 k) ∧ ((IsKind k ∧ s.data.toList = wordOf k) ∨ (k = 0 ∧ ∀ j, IsKind j → s.data.toList ≠ wordOf j))) ∧ Below w.heap.size w w' := by
  go_enter Tryz.func44, Tryz.ntmps44
  go_wp2
  go_loopw [3] (fun v wr => ∃ k : Nat, 1 ≤ k ∧ k ≤ 8 ∧ v = .int .i64 k ∧ Hid (∀ j, IsKind j → j < (k : Int) → s.data.toList ≠ wordOf j) ∧ Hid (Below w.heap.size w wr)) (fun v _ => 8 - (intOf v).toNat)
  case atStart => exact ⟨1, by omega, by omega, rfl, fun j hj h => absurd h (by unfold IsKind at hj; simp; omega), Below.refl _ _⟩
  case round =>
    obtain ⟨k, hk1, hk8, rfl, HN, HB⟩ := hrel
    by_cases hlt : k ≤ 7
    · have hlt' : (k : Int) ≤ 7 := by omega
      have CF := fun W => formC (k : Int) W
      obtain ⟨t, ht⟩ : ∃ t, t = str (wordOf (k : Int)) := ⟨_, rfl⟩
      rw [← ht] at CF
      have HT : Hid (t = str (wordOf (k : Int))) := ht
      clear ht
      generalize hiA (k : Int) = x1 at CF
      generalize hiB (k : Int) = x2 at CF
      generalize loN (k : Int) = x3 at CF
      generalize hiN (k : Int) = x4 at CF
      have HC : Hid (∀ W, Calls Tryz.prog 41 #[.int .i64 k] W fun e w' => e = .returned (.agg #[.string t, .int .i64 0, .int .i64 x1, .int .i64 0, .int .i64 x2, .int .i64 x3, .int .i64 x4]) ∧ Below W.heap.size W w') := CF
      clear CF
      have hfw := fieldWord t x1 x2 x3 x4
      by_cases hst : t = s
      · have FIN : Hid (IsKind (k : Int) ∧ s.data.toList = wordOf (k : Int)) := ⟨by unfold IsKind; omega, by rw [← hst, HT.out, str_list]⟩
        subst hst
        go_wp2_with fail
        refine (HC.out _).mono ?_
        rintro e w1 ⟨rfl, hb1⟩
        have B1 : Hid (Below w.heap.size w w1) := HB.out.trans (hb1.mono HB.out.size)
        clear hb1
        go_wp2_with fail
        go_ret
        exact ⟨⟨_, rfl, .inl FIN.out⟩, B1.out⟩
      · have NX : Hid (∀ j, IsKind j → j < ((k + 1 : Nat) : Int) → s.data.toList ≠ wordOf j) := by
          intro j hj h e
          by_cases hjk : j = (k : Int)
          · subst hjk
            exact hst (by rw [HT.out, ← e]; exact (str_eq rfl).symm)
          · exact HN.out j hj (by omega) e
        have hbe : (t.toList == s.toList) = false := by rw [toList_same2, decide_eq_false hst]
        clear hst
        go_wp2_with fail
        refine (HC.out _).mono ?_
        rintro e w1 ⟨rfl, hb1⟩
        have B1 : Hid (Below w.heap.size w w1) := HB.out.trans (hb1.mono HB.out.size)
        clear hb1
        go_wp2
        go_roundw
        case rel => exact ⟨k + 1, by omega, by omega, by go_num, NX.out, B1.out⟩
        case measure => simp [intOf]; omega
    · have hgt : (7 : Int) < (k : Int) := by omega
      go_wp2
      go_ret
      refine ⟨⟨0, rfl, .inr ⟨rfl, fun j hj => HN.out j hj ?_⟩⟩, HB.out⟩
      unfold IsKind at hj; omega
end Go.Proofs.YtbcnmmofccackaaGreatDoor.Own

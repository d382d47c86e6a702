/-
  Own text: what spec.ExecOk does.
-/
import Derived.Test.YtbbbfnfpmaogoaaExecOkS
namespace Go.Proofs.Ytbbbfnfpmaogoaa.Own
open Go.RowKit
set_option linter.unusedVariables false
set_option linter.unusedSimpArgs false

theorem BoxAt.pre {w : World} {b off : Nat} {xs : List P2} (h : BoxAt w b off xs) (n : Nat) (hn : n ≤ xs.length) : BoxAt w b off (xs.take n) := by
  refine ⟨h.1, fun i hi => ?_⟩
  rw [List.length_take] at hi
  have e : (xs.take n).getD i (0, 0) = xs.getD i (0, 0) := by simp [List.getD, show i < n by omega]
  rw [e]; exact h.2 i (by omega)

/-- The first test of spec.ExecOk. -/
theorem endOk_true {k v : Int} {nr np : Nat} (h : endOk k v nr np = true) : (k = 0 ∧ numOk v = true) ∨ ((k = 1 ∨ k = 2) ∧ v = 0 ∧ np = 0) ∨ (k = 3 ∧ v = 0 ∧ np = 0 ∧ nr = 0) := by
  unfold endOk at h
  split at h
  · exact .inl ⟨by assumption, h⟩
  split at h
  · simp at h; exact .inr (.inl ⟨by assumption, h.1, h.2⟩)
  split at h
  · simp at h; exact .inr (.inr ⟨by assumption, h.1.1, h.1.2, h.2⟩)
  · cases h
theorem endOk_falls {k v : Int} {nr np : Nat} (h : endOk k v nr np = false) : k < 0 ∨ 3 < k ∨ (0 ≤ k ∧ k ≤ 3 ∧ numOk v = false) ∨ (1 ≤ k ∧ k ≤ 3 ∧ numOk v = true ∧ v ≠ 0) ∨ (1 ≤ k ∧ k ≤ 3 ∧ v = 0 ∧ 0 < np) ∨ (k = 3 ∧ v = 0 ∧ np = 0 ∧ 0 < nr) := by
  by_cases h1 : k < 0
  · exact .inl h1
  by_cases h2 : 3 < k
  · exact .inr (.inl h2)
  cases hn : numOk v with
  | false => exact .inr (.inr (.inl ⟨by omega, by omega, rfl⟩))
  | true =>
    by_cases h0 : k = 0
    · subst h0; rw [endOk_0, hn] at h; cases h
    by_cases hv : v = 0
    · subst hv
      by_cases hp : 0 < np
      · exact .inr (.inr (.inr (.inr (.inl ⟨by omega, by omega, rfl, hp⟩))))
      by_cases h3 : k = 3
      · subst h3
        by_cases hr : 0 < nr
        · exact .inr (.inr (.inr (.inr (.inr ⟨rfl, rfl, by omega, hr⟩))))
        · rw [endOk_3] at h; simp at h; omega
      · have : k = 1 ∨ k = 2 := by omega
        rcases this with rfl | rfl
        · rw [endOk_1] at h; simp at h; omega
        · rw [endOk_2] at h; simp at h; omega
    · exact .inr (.inr (.inr (.inl ⟨by omega, by omega, rfl, hv⟩)))

set_option maxRecDepth 100000 in
set_option maxHeartbeats 2000000 in
theorem specExecOk_no (a1 a2 : Option Addr) (n1 c1 n2 c2 : Nat) (v k : Int) (w : World) (h : endOk k v n1 n2 = false) :
    Calls Try.prog 127 #[.agg #[.slice a1 n1 c1, .slice a2 n2 c2, .int .i64 v, .int .i64 k]] w fun e w' => e = .returned (.bool false) ∧ Below w.heap.size w w' := by
  have B0 : ∀ o, Hid (Below w.heap.size w (w.alloc o)) := fun o => (Below.refl _ _).alloc (Nat.le_refl _) _
  rcases endOk_falls h with h | h | ⟨h1, h2, h3⟩ | ⟨h1, h2, h3, h4⟩ | ⟨h1, h2, rfl, h4⟩ | ⟨rfl, rfl, rfl, h4⟩
  · go_enter Try.func127, Try.ntmps127
    go_wp2
    go_ret
    exact ⟨rfl, (B0 _).out⟩
  · have h' : ¬ k < 0 := by omega
    go_enter Try.func127, Try.ntmps127
    go_wp2
    go_ret
    exact ⟨rfl, (B0 _).out⟩
  · have H3 : Hid (numOk v = false) := h3
    clear h3
    go_enter Try.func127, Try.ntmps127
    go_wp2_with fail
    refine (l1Num v _).mono ?_
    rintro e w1 ⟨rfl, rfl⟩
    rw [H3.out]
    go_wp2
    go_ret
    exact ⟨rfl, (B0 _).out⟩
  · have H3 : Hid (numOk v = true) := h3
    have e0 : (k != 0) = true := by simp; omega
    have e1 : (v != 0) = true := by simpa using h4
    clear h3 h4
    go_enter Try.func127, Try.ntmps127
    go_wp2_with fail
    refine (l1Num v _).mono ?_
    rintro e w1 ⟨rfl, rfl⟩
    rw [H3.out]
    go_wp2
    go_ret
    exact ⟨rfl, (B0 _).out⟩
  · have e0 : (k != 0) = true := by simp; omega
    have e1 : decide ((0 : Int) < (n2 : Int)) = true := by simp; omega
    go_enter Try.func127, Try.ntmps127
    go_wp2_with fail
    refine (l1Num 0 _).mono ?_
    rintro e w1 ⟨rfl, rfl⟩
    rw [show numOk 0 = true from rfl]
    go_wp2
    go_ret
    exact ⟨rfl, (B0 _).out⟩
  · have e1 : decide ((0 : Int) < (n1 : Int)) = true := by simp; omega
    go_enter Try.func127, Try.ntmps127
    go_wp2_with fail
    refine (l1Num 0 _).mono ?_
    rintro e w1 ⟨rfl, rfl⟩
    rw [show numOk 0 = true from rfl]
    go_wp2
    go_ret
    exact ⟨rfl, (B0 _).out⟩
end Go.Proofs.Ytbbbfnfpmaogoaa.Own

/-
  Own text: the cells of a list of pairs, one behind the other. Nothing of the program.
-/
import Derived.Test.YtfifiobcmdmefaaBase
namespace Go.Proofs.Ytfifiobcmdmefaa.Own
open Go.RowKit
set_option linter.unusedVariables false

def flat (xs : List (Int × Int)) : List Value := xs.flatMap fun p => [.int .i64 p.1, .int .i64 p.2]
theorem flat_length (xs : List (Int × Int)) : (flat xs).length = xs.length * 2 := by
  induction xs with
  | nil => rfl
  | cons p r ih => simp [flat] at ih ⊢; omega
theorem flat_one (xs : List (Int × Int)) : ∀ v ∈ flat xs, v.oneCell' = true := by
  intro v hv
  simp [flat] at hv
  obtain ⟨a, b, _, h⟩ := hv
  rcases h with rfl | rfl <;> rfl
theorem flat_even (xs : List (Int × Int)) (i : Nat) (h : i < xs.length) : (flat xs)[i * 2]? = some (.int .i64 (xs.getD i (0, 0)).1) ∧ (flat xs)[i * 2 + 1]? = some (.int .i64 (xs.getD i (0, 0)).2) := by
  induction xs generalizing i with
  | nil => simp at h
  | cons p r ih =>
    cases i with
    | zero => simp [flat]
    | succ i =>
      have := ih i (by simpa using h)
      simp only [flat, List.flatMap_cons] at this ⊢
      rw [show (i + 1) * 2 = i * 2 + 2 by omega, show i * 2 + 2 + 1 = i * 2 + 1 + 2 by omega]
      simpa using this
end Go.Proofs.Ytfifiobcmdmefaa.Own

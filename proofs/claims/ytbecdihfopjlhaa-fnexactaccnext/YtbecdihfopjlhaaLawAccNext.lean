/-
  Own text: laws.FnExactAccNext.
-/
import Derived.Test.YtbecdihfopjlhaaAccNextI
namespace Go.Proofs.Ytbecdihfopjlhaa.Own
open Go.RowKit
set_option linter.unusedVariables false

set_option maxRecDepth 100000 in
set_option maxHeartbeats 1000000 in
theorem lawAccNext (n p : Int) (w : World) (_ : (Lit.int .i64 n).wf = true) (_ : (Lit.int .i64 p).wf = true) :
    Calls Try.prog 12 #[.int .i64 n, .int .i64 p] w fun e w' => e = .returned (.bool true) ∧ Below w.heap.size w w' := by
  have S : Hid (Calls Try.prog 27 #[.int .i64 n, .int .i64 p] w fun e w' => e = .returned (.int .i64 (nextOf n p)) ∧ w' = w) := specNext n p w
  have I : Hid (Calls Try.prog 26 #[.int .i64 n, .int .i64 p] w fun e w' => e = .returned (.int .i64 (nextOf n p)) ∧ w' = w) := implNext n p w
  generalize nextOf n p = k at S I
  have ho : (k != k) = false := by simp
  go_enter Try.func12, Try.ntmps12
  go_wp2_with fail
  refine Calls.mono S.out ?_
  rintro e w1 ⟨rfl, rfl⟩
  go_wp2_with fail
  refine Calls.mono I.out ?_
  rintro e w2 ⟨rfl, rfl⟩
  go_wp2_with fail
  go_ret
  exact ⟨rfl, Below.refl _ _⟩
end Go.Proofs.Ytbecdihfopjlhaa.Own

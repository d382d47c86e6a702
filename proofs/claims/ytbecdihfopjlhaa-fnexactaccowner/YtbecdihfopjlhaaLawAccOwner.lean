/-
  Own text: laws.FnExactAccOwner.
-/
import Derived.Test.YtbecdihfopjlhaaAccOwn
namespace Go.Proofs.Ytbecdihfopjlhaa.Own
open Go.RowKit
set_option linter.unusedVariables false

set_option maxRecDepth 100000 in
set_option maxHeartbeats 1000000 in
theorem lawAccOwner (n : Int) (w : World) (_ : (Lit.int .i64 n).wf = true) :
    Calls Try.prog 11 #[.int .i64 n] w fun e w' => e = .returned (.bool true) ∧ Below w.heap.size w w' := by
  have S : Hid (Calls Try.prog 33 #[.int .i64 n] w fun e w' => e = .returned (.int .i64 (ownerOf n)) ∧ w' = w) := specOwner n w
  have I : Hid (Calls Try.prog 28 #[.int .i64 n] w fun e w' => e = .returned (.int .i64 (ownerOf n)) ∧ w' = w) := implOwner n w
  generalize ownerOf n = k at S I
  have ho : (k != k) = false := by simp
  go_enter Try.func11, Try.ntmps11
  go_wp2_with fail
  refine Calls.mono S.out ?_
  rintro e w1 ⟨rfl, rfl⟩
  go_wp2_with fail
  refine Calls.mono I.out ?_
  rintro e w2 ⟨rfl, rfl⟩
  go_wp2_with fail
  go_ret
  exact ⟨rfl, Below.refl _ _⟩
end Go.Proofs.Ytbecdihfopjlhaa.Own

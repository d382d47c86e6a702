/-
  Own text: what (impl.Ins).puts does.
-/
import Derived.Test.YtgcencilgpilaaaPk4
namespace Go.Proofs.Ytgcencilgpilaaa.Own
open Go.RowKit
set_option linter.unusedVariables false

set_option maxHeartbeats 1000000 in
theorem putsC (p1 p2 p3 p4 b : Int) (w : World) : Calls Try.prog 151 #[.agg #[.int .i64 p1, .int .i64 p2, .int .i64 p3, .int .i64 p4], .int .i64 b] w fun e w' => e = .returned (.bool (putsQ (p1, p2, p3, p4) b)) ∧ Below w.heap.size w w' := by
  have E : Hid (putsQ (p1, p2, p3, p4) b = (p1 == 2 && p2 == b)) := rfl
  generalize putsQ (p1, p2, p3, p4) b = r at E ⊢
  cases h1 : (p1 == 2) with
  | false =>
    go_enter Try.func151, Try.ntmps151
    go_wp2
    go_ret
    exact ⟨ret_bool (by rw [E.out, h1]; rfl), (Below.refl _ _).alloc (Nat.le_refl _) _⟩
  | true =>
    go_enter Try.func151, Try.ntmps151
    go_wp2
    go_ret
    exact ⟨ret_bool (by rw [E.out, h1]; rfl), (Below.refl _ _).alloc (Nat.le_refl _) _⟩

end Go.Proofs.Ytgcencilgpilaaa.Own

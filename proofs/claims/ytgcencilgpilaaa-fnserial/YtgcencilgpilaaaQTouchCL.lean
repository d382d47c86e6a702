/-
  Own text: what (impl.Ins).loads does.
-/
import Derived.Test.YtgcencilgpilaaaPk4
namespace Go.Proofs.Ytgcencilgpilaaa.Own
open Go.RowKit
set_option linter.unusedVariables false

set_option maxHeartbeats 1000000 in
theorem loadsC (p1 p2 p3 p4 b : Int) (w : World) : Calls Try.prog 152 #[.agg #[.int .i64 p1, .int .i64 p2, .int .i64 p3, .int .i64 p4], .int .i64 b] w fun e w' => e = .returned (.bool (loadsQ (p1, p2, p3, p4) b)) ∧ Below w.heap.size w w' := by
  have E : Hid (loadsQ (p1, p2, p3, p4) b = (p1 == 1 && p3 == b)) := rfl
  generalize loadsQ (p1, p2, p3, p4) b = r at E ⊢
  cases h1 : (p1 == 1) with
  | false =>
    go_enter Try.func152, Try.ntmps152
    go_wp2
    go_ret
    exact ⟨ret_bool (by rw [E.out, h1]; rfl), (Below.refl _ _).alloc (Nat.le_refl _) _⟩
  | true =>
    go_enter Try.func152, Try.ntmps152
    go_wp2
    go_ret
    exact ⟨ret_bool (by rw [E.out, h1]; rfl), (Below.refl _ _).alloc (Nat.le_refl _) _⟩

end Go.Proofs.Ytgcencilgpilaaa.Own

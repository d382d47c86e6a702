/-
  Own text: what impl.BoxOpen does.
-/
import Derived.Test.YtgcencilgpilaaaOpen
namespace Go.Proofs.Ytgcencilgpilaaa.Own
open Go.RowKit

set_option maxHeartbeats 400000 in
theorem implOpen (w : World) : Calls Try.prog 99 #[] w
    fun e w' => e = .returned (.slice (some ⟨w.heap.size + 1, 0, none⟩) 4 4) ∧ w'.heap[w.heap.size + 1]? = some (.cells zeros8 38 (0, 0)) ∧ Below w.heap.size w w' ∧ w'.heap.size = w.heap.size + 2 := by
  go_enter Try.func99, Try.ntmps99
  go_wp2_with (go_at_call 65; refine (arrList 0 0 0 0 0 0 0 0 _).mono ?_; rintro e w' ⟨rfl, hc, hb, hs⟩)
  go_ret
  exact ⟨rfl, hc, hb, hs⟩

end Go.Proofs.Ytgcencilgpilaaa.Own

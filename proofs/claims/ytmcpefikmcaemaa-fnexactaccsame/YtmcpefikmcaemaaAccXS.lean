/-
  Own text: two acceptors of one's own are compared, both sides.
-/
import Derived.Test.YtmcpefikmcaemaaAccX
import Derived.Test.YtmcpefikmcaemaaSameVS
import Derived.Test.YtmcpefikmcaemaaSameVI
namespace Go.Proofs.Ytmcpefikmcaemaa.Own
open Go.RowKit
set_option linter.unusedVariables false

def sameA (x y : AM) : Bool := x.m == y.m && sameVs (bodies x.vs) (bodies y.vs)
theorem specSameA (x y : AM) (g g' : Nat × List (Nat × Nat)) (w : World) (h : OwnA w g x) (h' : OwnA w g' y) (hs : x.sz ≤ 1048576) (hs' : y.sz ≤ 1048576) :
    Calls Try.prog 44 #[.agg #[.int .i64 x.m, .slice (some ⟨g.1, 0, none⟩) x.vs.length x.vs.length], .agg #[.int .i64 y.m, .slice (some ⟨g'.1, 0, none⟩) y.vs.length y.vs.length]] w fun e w' => e = .returned (.bool (sameA x y)) ∧ Below w.heap.size w w' := by
  have h := specAccSame x.m y.m (some ⟨g.1, 0, none⟩) (some ⟨g'.1, 0, none⟩) x.vs.length y.vs.length (vmsOf g.2 (bodies x.vs)) (vmsOf g'.2 (bodies y.vs)) w (CopyV.sl h) (CopyV.sl h') (by rw [vmsOf_len, bodies_len]; exact (AM.small hs).1) (by rw [vmsOf_len, bodies_len]; exact (AM.small hs').1) (vls_of (AM.small hs).2 g.2) (vls_of (AM.small hs').2 g'.2)
  rw [vmsOf_len, vmsOf_len, bodies_len, bodies_len, vmsOf_bodies, vmsOf_bodies] at h
  exact h
theorem implSameA (x y : AM) (g g' : Nat × List (Nat × Nat)) (w : World) (h : OwnA w g x) (h' : OwnA w g' y) (hs : x.sz ≤ 1048576) (hs' : y.sz ≤ 1048576) :
    Calls Try.prog 27 #[.agg #[.int .i64 x.m, .slice (some ⟨g.1, 0, none⟩) x.vs.length x.vs.length], .agg #[.int .i64 y.m, .slice (some ⟨g'.1, 0, none⟩) y.vs.length y.vs.length]] w fun e w' => e = .returned (.bool (sameA x y)) ∧ Below w.heap.size w w' := by
  have h := implAccSame x.m y.m (some ⟨g.1, 0, none⟩) (some ⟨g'.1, 0, none⟩) x.vs.length y.vs.length (vmsOf g.2 (bodies x.vs)) (vmsOf g'.2 (bodies y.vs)) w (CopyV.sl h) (CopyV.sl h') (by rw [vmsOf_len, bodies_len]; exact (AM.small hs).1) (by rw [vmsOf_len, bodies_len]; exact (AM.small hs').1) (vls_of (AM.small hs).2 g.2) (vls_of (AM.small hs').2 g'.2)
  rw [vmsOf_len, vmsOf_len, bodies_len, bodies_len, vmsOf_bodies, vmsOf_bodies] at h
  exact h
end Go.Proofs.Ytmcpefikmcaemaa.Own

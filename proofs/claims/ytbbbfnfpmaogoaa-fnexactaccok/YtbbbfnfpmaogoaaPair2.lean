/-
  Own text: the equality of two numbers each. Nothing of the program.
-/
import Derived.Test.YtbbbfnfpmaogoaaBase4
import Derived.Test.YtbbbfnfpmaogoaaExecMath
import Derived.ChangeKeysEq
import Derived.BigQuiet
import Derived.Deep.QuietTactic
namespace Go.Proofs.Ytbbbfnfpmaogoaa.Own
open Go.RowKit

def eq2 (p q : P2) : Bool := p.1 == q.1 && p.2 == q.2
theorem eq2_iff (p q : P2) : eq2 p q = true ↔ p = q := by
  obtain ⟨a, b⟩ := p
  obtain ⟨a', b'⟩ := q
  simp [eq2]
theorem eq2_false (p q : P2) : eq2 p q = false ↔ p ≠ q := by
  rw [← Bool.not_eq_true, eq2_iff]

/-- Two runs are one. -/
def sameRun (xs ys zs us : List P2) (v k v' k' : Int) : Bool := k == k' && v == v' && xs == zs && ys == us
end Go.Proofs.Ytbbbfnfpmaogoaa.Own

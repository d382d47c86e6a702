/-
  Own text: instructions whose numbers fit. Nothing of the program.
-/
import Derived.Test.YtbbbfnfpmaogoaaBase4
namespace Go.Proofs.Ytbbbfnfpmaogoaa.Own

def FitsQ (p : Q4) : Prop := Fits p.1 ∧ Fits p.2.1 ∧ Fits p.2.2.1 ∧ Fits p.2.2.2
def Wf4 (xs : List Q4) : Prop := ∀ k, k < xs.length → FitsQ (xs.getD k q0)

end Go.Proofs.Ytbbbfnfpmaogoaa.Own

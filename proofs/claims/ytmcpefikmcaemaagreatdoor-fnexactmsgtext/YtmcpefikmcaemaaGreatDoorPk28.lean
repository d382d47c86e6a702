/-
  Own texts, bundled: Wf4.
-/
import Derived.Test.YtmcpefikmcaemaaGreatDoorPk3
namespace Go.Proofs.YtmcpefikmcaemaaGreatDoor.Own

def FitsQ (p : Q4) : Prop := Fits p.1 ∧ Fits p.2.1 ∧ Fits p.2.2.1 ∧ Fits p.2.2.2
def Wf4 (xs : List Q4) : Prop := ∀ k, k < xs.length → FitsQ (xs.getD k q0)

end Go.Proofs.YtmcpefikmcaemaaGreatDoor.Own

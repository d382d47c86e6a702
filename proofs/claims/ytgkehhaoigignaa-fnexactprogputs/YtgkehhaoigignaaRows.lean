/-
  No cell of these rows narrows 'for every input' (looked for: loops, veiled, ifaces, maps, wideKeys, modest, calm, conditions, laid).
  DERIVED. THE GIVEN ROWS OF THIS SEAT. 5 by the template 'for every input the law returns true; each argument reads behind the call as it read before'; 0 by the template 'total and deterministic' (their statements: YtgkehhaoigignaaTotals.lean).
  GIVEN WITH THE SEED: the statements are not yours to turn. If you find one false, say at which input.
  Laid BY PROGRAM, IN A SANDBOX (cutbox-rows.mjs): the forced cells as the released guide's own fill.sh prints them over the translation a1f553d296d87d29… (all of the seat's roots in one cut). By AI agents, Wed Nov 11 2026. No macro, syntax, notation, axiom, sorry.
-/
import Derived.Test.YtgkehhaoigignaaChecked
import GoSem.Claim
import GoSem.ClaimJoined
import GoSem.ClaimMapViews
import Derived.JoinedTies
import Derived.KernelRfl
namespace Go.Proofs.Ytgkehhaoigignaa
/- THE CELL 'sum', in the pinned program and in every row, IS THE sha256 OF THE DUMP (.gsa) THAT YtgkehhaoigignaaProg.lean LOADS. Nothing in Lean hashes anything: it is a label: what it is worth is what the hold of that sum in a sandbox is worth. -/
noncomputable def Try.pinned : Pinned := { name := "ytgkehhaoigignaa", sum := "a1f553d296d87d29ea5b274dc27237369f92706db26c9f30e5c54fb48c544cae", checked := Try.checked }
namespace Rows
def none {H : Type} : Left H := { results := [], args := [] }

/-- 'laws.FnProgPart': WHATEVER THE INPUT: true; the input reads as it did. -/
def fnProgPartSpec : ChangeSpec := { name := "fnProgPart", fn := fun _ => fun
  | [d1, d2] => { results := [.lit (.bool true)], args := [d1, d2] }
  | _ => none }
def fnProgPartRow : OpenClaim := { program := "ytgkehhaoigignaa", sum := "a1f553d296d87d29ea5b274dc27237369f92706db26c9f30e5c54fb48c544cae", func := "loop.example/thingstead/laws.FnProgPart", spec := "fnProgPart", unfollowed := true, recurses := true, apart := false }
def FnProgPartSaid : Prop := fnProgPartRow.holds Try.pinned (OpenSpec.ofChange fnProgPartSpec)

/-- ITS FALSE NEIGHBOUR: 'it returns false'. Refute it at one input. -/
def fnProgPartWrong : ChangeSpec := { name := "fnProgPart", fn := fun _ => fun
  | [d1, d2] => { results := [.lit (.bool false)], args := [d1, d2] }
  | _ => none }
def FnProgPartWrongFalsely : Prop := fnProgPartRow.holds Try.pinned (OpenSpec.ofChange fnProgPartWrong)

/-- 'laws.FnExactProgOk': WHATEVER THE INPUT: true; the input reads as it did. -/
def fnExactProgOkSpec : ChangeSpec := { name := "fnExactProgOk", fn := fun _ => fun
  | [d] => { results := [.lit (.bool true)], args := [d] }
  | _ => none }
def fnExactProgOkRow : OpenClaim := { program := "ytgkehhaoigignaa", sum := "a1f553d296d87d29ea5b274dc27237369f92706db26c9f30e5c54fb48c544cae", func := "loop.example/thingstead/laws.FnExactProgOk", spec := "fnExactProgOk", apart := false }
def FnExactProgOkSaid : Prop := fnExactProgOkRow.holds Try.pinned (OpenSpec.ofChange fnExactProgOkSpec)

/-- ITS FALSE NEIGHBOUR: 'it returns false'. Refute it at one input. -/
def fnExactProgOkWrong : ChangeSpec := { name := "fnExactProgOk", fn := fun _ => fun
  | [d] => { results := [.lit (.bool false)], args := [d] }
  | _ => none }
def FnExactProgOkWrongFalsely : Prop := fnExactProgOkRow.holds Try.pinned (OpenSpec.ofChange fnExactProgOkWrong)

/-- 'laws.FnExactProgSame': WHATEVER THE INPUT: true; the input reads as it did. -/
def fnExactProgSameSpec : ChangeSpec := { name := "fnExactProgSame", fn := fun _ => fun
  | [d1, d2] => { results := [.lit (.bool true)], args := [d1, d2] }
  | _ => none }
def fnExactProgSameRow : OpenClaim := { program := "ytgkehhaoigignaa", sum := "a1f553d296d87d29ea5b274dc27237369f92706db26c9f30e5c54fb48c544cae", func := "loop.example/thingstead/laws.FnExactProgSame", spec := "fnExactProgSame", apart := false }
def FnExactProgSameSaid : Prop := fnExactProgSameRow.holds Try.pinned (OpenSpec.ofChange fnExactProgSameSpec)

/-- ITS FALSE NEIGHBOUR: 'it returns false'. Refute it at one input. -/
def fnExactProgSameWrong : ChangeSpec := { name := "fnExactProgSame", fn := fun _ => fun
  | [d1, d2] => { results := [.lit (.bool false)], args := [d1, d2] }
  | _ => none }
def FnExactProgSameWrongFalsely : Prop := fnExactProgSameRow.holds Try.pinned (OpenSpec.ofChange fnExactProgSameWrong)

/-- 'laws.FnExactProgLoads': WHATEVER THE INPUT: true; the input reads as it did. -/
def fnExactProgLoadsSpec : ChangeSpec := { name := "fnExactProgLoads", fn := fun _ => fun
  | [d] => { results := [.lit (.bool true)], args := [d] }
  | _ => none }
def fnExactProgLoadsRow : OpenClaim := { program := "ytgkehhaoigignaa", sum := "a1f553d296d87d29ea5b274dc27237369f92706db26c9f30e5c54fb48c544cae", func := "loop.example/thingstead/laws.FnExactProgLoads", spec := "fnExactProgLoads", unfollowed := true, recurses := true, apart := false }
def FnExactProgLoadsSaid : Prop := fnExactProgLoadsRow.holds Try.pinned (OpenSpec.ofChange fnExactProgLoadsSpec)

/-- ITS FALSE NEIGHBOUR: 'it returns false'. Refute it at one input. -/
def fnExactProgLoadsWrong : ChangeSpec := { name := "fnExactProgLoads", fn := fun _ => fun
  | [d] => { results := [.lit (.bool false)], args := [d] }
  | _ => none }
def FnExactProgLoadsWrongFalsely : Prop := fnExactProgLoadsRow.holds Try.pinned (OpenSpec.ofChange fnExactProgLoadsWrong)

/-- 'laws.FnExactProgPuts': WHATEVER THE INPUT: true; the input reads as it did. -/
def fnExactProgPutsSpec : ChangeSpec := { name := "fnExactProgPuts", fn := fun _ => fun
  | [d] => { results := [.lit (.bool true)], args := [d] }
  | _ => none }
def fnExactProgPutsRow : OpenClaim := { program := "ytgkehhaoigignaa", sum := "a1f553d296d87d29ea5b274dc27237369f92706db26c9f30e5c54fb48c544cae", func := "loop.example/thingstead/laws.FnExactProgPuts", spec := "fnExactProgPuts", unfollowed := true, recurses := true, apart := false }
def FnExactProgPutsSaid : Prop := fnExactProgPutsRow.holds Try.pinned (OpenSpec.ofChange fnExactProgPutsSpec)

/-- ITS FALSE NEIGHBOUR: 'it returns false'. Refute it at one input. -/
def fnExactProgPutsWrong : ChangeSpec := { name := "fnExactProgPuts", fn := fun _ => fun
  | [d] => { results := [.lit (.bool false)], args := [d] }
  | _ => none }
def FnExactProgPutsWrongFalsely : Prop := fnExactProgPutsRow.holds Try.pinned (OpenSpec.ofChange fnExactProgPutsWrong)

/- THE SECOND FORM. 'bulk': how many values and letters a reading holds, each counted each time it is reached (what is shared counts as often as it is met; a slice's spare places count too). A statement '..UptoSaid' is the law's where the arguments, and the package variables that the reading takes, are together of bulk at most 1048576: NARROWER than '..Said'. Prove '..Said' where nothing that the law and all that it calls make is longer than what came in: it says more and counts as full. Else prove '..UptoSaid'. A law counts once. -/
mutual
def uptoBulk {H : Type} : DataW H → Nat
  | .lit (.string bytes) => bytes.length + 1
  | .lit _ => 1
  | .nil => 1
  | .ptr d => uptoBulk d + 1
  | .slice elems spare => uptoBulkAll elems + uptoBulkAll spare + 1
  | .agg parts => uptoBulkAll parts + 1
  | .iface _ d => uptoBulk d + 1
  | .map entries => uptoBulkEntries entries + 1
  | .held _ => 1
def uptoBulkAll {H : Type} : List (DataW H) → Nat
  | [] => 0
  | d :: r => uptoBulk d + uptoBulkAll r
def uptoBulkEntries {H : Type} : List (Lit × DataW H) → Nat
  | [] => 0
  | x :: r => uptoBulkEntry x + uptoBulkEntries r
def uptoBulkEntry {H : Type} : Lit × DataW H → Nat
  | (.string bytes, d) => bytes.length + uptoBulk d + 1
  | (_, d) => uptoBulk d + 1
 end
def uptoSmall : (H : Type) → List (DataW H) → Bool := fun _ ds => decide (uptoBulkAll ds ≤ 1048576)
def OpenSpec.upto (s : _root_.Go.ChangeSpec) : _root_.Go.OpenSpec := { _root_.Go.OpenSpec.ofChange s with cond := some uptoSmall }

/-- 'laws.FnProgPart', WHERE WHAT IT READS IS OF BULK AT MOST 1048576: true; the input reads as it did. -/
def fnProgPartUptoRow : OpenClaim := { program := "ytgkehhaoigignaa", sum := "a1f553d296d87d29ea5b274dc27237369f92706db26c9f30e5c54fb48c544cae", func := "loop.example/thingstead/laws.FnProgPart", spec := "fnProgPart", unfollowed := true, recurses := true, apart := false, narrowed := true }
def FnProgPartUptoSaid : Prop := fnProgPartUptoRow.holds Try.pinned (OpenSpec.upto fnProgPartSpec)

/-- 'laws.FnExactProgOk', WHERE WHAT IT READS IS OF BULK AT MOST 1048576: true; the input reads as it did. -/
def fnExactProgOkUptoRow : OpenClaim := { program := "ytgkehhaoigignaa", sum := "a1f553d296d87d29ea5b274dc27237369f92706db26c9f30e5c54fb48c544cae", func := "loop.example/thingstead/laws.FnExactProgOk", spec := "fnExactProgOk", apart := false, narrowed := true }
def FnExactProgOkUptoSaid : Prop := fnExactProgOkUptoRow.holds Try.pinned (OpenSpec.upto fnExactProgOkSpec)

/-- 'laws.FnExactProgSame', WHERE WHAT IT READS IS OF BULK AT MOST 1048576: true; the input reads as it did. -/
def fnExactProgSameUptoRow : OpenClaim := { program := "ytgkehhaoigignaa", sum := "a1f553d296d87d29ea5b274dc27237369f92706db26c9f30e5c54fb48c544cae", func := "loop.example/thingstead/laws.FnExactProgSame", spec := "fnExactProgSame", apart := false, narrowed := true }
def FnExactProgSameUptoSaid : Prop := fnExactProgSameUptoRow.holds Try.pinned (OpenSpec.upto fnExactProgSameSpec)

/-- 'laws.FnExactProgLoads', WHERE WHAT IT READS IS OF BULK AT MOST 1048576: true; the input reads as it did. -/
def fnExactProgLoadsUptoRow : OpenClaim := { program := "ytgkehhaoigignaa", sum := "a1f553d296d87d29ea5b274dc27237369f92706db26c9f30e5c54fb48c544cae", func := "loop.example/thingstead/laws.FnExactProgLoads", spec := "fnExactProgLoads", unfollowed := true, recurses := true, apart := false, narrowed := true }
def FnExactProgLoadsUptoSaid : Prop := fnExactProgLoadsUptoRow.holds Try.pinned (OpenSpec.upto fnExactProgLoadsSpec)

/-- 'laws.FnExactProgPuts', WHERE WHAT IT READS IS OF BULK AT MOST 1048576: true; the input reads as it did. -/
def fnExactProgPutsUptoRow : OpenClaim := { program := "ytgkehhaoigignaa", sum := "a1f553d296d87d29ea5b274dc27237369f92706db26c9f30e5c54fb48c544cae", func := "loop.example/thingstead/laws.FnExactProgPuts", spec := "fnExactProgPuts", unfollowed := true, recurses := true, apart := false, narrowed := true }
def FnExactProgPutsUptoSaid : Prop := fnExactProgPutsUptoRow.holds Try.pinned (OpenSpec.upto fnExactProgPutsSpec)

end Rows
end Go.Proofs.Ytgkehhaoigignaa

/-
  No cell of these rows narrows 'for every input' (looked for: loops, veiled, ifaces, maps, wideKeys, modest, calm, conditions, laid).
  DERIVED. THE GIVEN ROWS OF THIS SEAT. 11 by the template 'for every input the law returns true; each argument reads behind the call as it read before'; 0 by the template 'total and deterministic' (their statements: YtbcnmmofccackaaTotals.lean).
  GIVEN WITH THE SEED: the statements are not yours to turn. If you find one false, say at which input.
  Laid BY PROGRAM, IN A SANDBOX (cutbox-rows.mjs): the forced cells as the released guide's own fill.sh prints them over the translation 0e82d91884107759… (all of the seat's roots in one cut). By AI agents, Wed Nov 11 2026. No macro, syntax, notation, axiom, sorry.
-/
import Derived.Test.YtbcnmmofccackaaChecked
import GoSem.Claim
import GoSem.ClaimJoined
import GoSem.ClaimMapViews
import Derived.JoinedTies
import Derived.KernelRfl
namespace Go.Proofs.Ytbcnmmofccackaa
/- THE CELL 'sum', in the pinned program and in every row, IS THE sha256 OF THE DUMP (.gsa) THAT YtbcnmmofccackaaProg.lean LOADS. Nothing in Lean hashes anything: it is a label: what it is worth is what the hold of that sum in a sandbox is worth. -/
noncomputable def Try.pinned : Pinned := { name := "ytbcnmmofccackaa", sum := "0e82d9188410775959817998b3adb6cc1716056bd6cbf61b18f1944d6e91a08f", checked := Try.checked }
namespace Rows
def none {H : Type} : Left H := { results := [], args := [] }

/-- 'laws.FnProgPart': WHATEVER THE INPUT: true; the input reads as it did. -/
def fnProgPartSpec : ChangeSpec := { name := "fnProgPart", fn := fun _ => fun
  | [d1, d2] => { results := [.lit (.bool true)], args := [d1, d2] }
  | _ => none }
def fnProgPartRow : OpenClaim := { program := "ytbcnmmofccackaa", sum := "0e82d9188410775959817998b3adb6cc1716056bd6cbf61b18f1944d6e91a08f", func := "loop.example/thingstead/laws.FnProgPart", spec := "fnProgPart", unfollowed := true, recurses := true, apart := false }
def FnProgPartSaid : Prop := fnProgPartRow.holds Try.pinned (OpenSpec.ofChange fnProgPartSpec)

/-- ITS FALSE NEIGHBOUR: 'it returns false'. Refute it at one input. -/
def fnProgPartWrong : ChangeSpec := { name := "fnProgPart", fn := fun _ => fun
  | [d1, d2] => { results := [.lit (.bool false)], args := [d1, d2] }
  | _ => none }
def FnProgPartWrongFalsely : Prop := fnProgPartRow.holds Try.pinned (OpenSpec.ofChange fnProgPartWrong)

/-- 'laws.FnExec': WHATEVER THE INPUT: true; the input reads as it did. -/
def fnExecSpec : ChangeSpec := { name := "fnExec", fn := fun _ => fun
  | [d1, d2] => { results := [.lit (.bool true)], args := [d1, d2] }
  | _ => none }
def fnExecRow : OpenClaim := { program := "ytbcnmmofccackaa", sum := "0e82d9188410775959817998b3adb6cc1716056bd6cbf61b18f1944d6e91a08f", func := "loop.example/thingstead/laws.FnExec", spec := "fnExec", unfollowed := true, recurses := true, apart := false }
def FnExecSaid : Prop := fnExecRow.holds Try.pinned (OpenSpec.ofChange fnExecSpec)

/-- ITS FALSE NEIGHBOUR: 'it returns false'. Refute it at one input. -/
def fnExecWrong : ChangeSpec := { name := "fnExec", fn := fun _ => fun
  | [d1, d2] => { results := [.lit (.bool false)], args := [d1, d2] }
  | _ => none }
def FnExecWrongFalsely : Prop := fnExecRow.holds Try.pinned (OpenSpec.ofChange fnExecWrong)

/-- 'laws.FnExecDo': WHATEVER THE INPUT: true; the input reads as it did. -/
def fnExecDoSpec : ChangeSpec := { name := "fnExecDo", fn := fun _ => fun
  | [d] => { results := [.lit (.bool true)], args := [d] }
  | _ => none }
def fnExecDoRow : OpenClaim := { program := "ytbcnmmofccackaa", sum := "0e82d9188410775959817998b3adb6cc1716056bd6cbf61b18f1944d6e91a08f", func := "loop.example/thingstead/laws.FnExecDo", spec := "fnExecDo", apart := false }
def FnExecDoSaid : Prop := fnExecDoRow.holds Try.pinned (OpenSpec.ofChange fnExecDoSpec)

/-- ITS FALSE NEIGHBOUR: 'it returns false'. Refute it at one input. -/
def fnExecDoWrong : ChangeSpec := { name := "fnExecDo", fn := fun _ => fun
  | [d] => { results := [.lit (.bool false)], args := [d] }
  | _ => none }
def FnExecDoWrongFalsely : Prop := fnExecDoRow.holds Try.pinned (OpenSpec.ofChange fnExecDoWrong)

/-- 'laws.FnExecOwn': WHATEVER THE INPUT: true; the input reads as it did. -/
def fnExecOwnSpec : ChangeSpec := { name := "fnExecOwn", fn := fun _ => fun
  | [d1, d2] => { results := [.lit (.bool true)], args := [d1, d2] }
  | _ => none }
def fnExecOwnRow : OpenClaim := { program := "ytbcnmmofccackaa", sum := "0e82d9188410775959817998b3adb6cc1716056bd6cbf61b18f1944d6e91a08f", func := "loop.example/thingstead/laws.FnExecOwn", spec := "fnExecOwn", unfollowed := true, recurses := true, apart := false }
def FnExecOwnSaid : Prop := fnExecOwnRow.holds Try.pinned (OpenSpec.ofChange fnExecOwnSpec)

/-- ITS FALSE NEIGHBOUR: 'it returns false'. Refute it at one input. -/
def fnExecOwnWrong : ChangeSpec := { name := "fnExecOwn", fn := fun _ => fun
  | [d1, d2] => { results := [.lit (.bool false)], args := [d1, d2] }
  | _ => none }
def FnExecOwnWrongFalsely : Prop := fnExecOwnRow.holds Try.pinned (OpenSpec.ofChange fnExecOwnWrong)

/-- 'laws.FnExecSame': WHATEVER THE INPUT: true; the input reads as it did. -/
def fnExecSameSpec : ChangeSpec := { name := "fnExecSame", fn := fun _ => fun
  | [d] => { results := [.lit (.bool true)], args := [d] }
  | _ => none }
def fnExecSameRow : OpenClaim := { program := "ytbcnmmofccackaa", sum := "0e82d9188410775959817998b3adb6cc1716056bd6cbf61b18f1944d6e91a08f", func := "loop.example/thingstead/laws.FnExecSame", spec := "fnExecSame", apart := false }
def FnExecSameSaid : Prop := fnExecSameRow.holds Try.pinned (OpenSpec.ofChange fnExecSameSpec)

/-- ITS FALSE NEIGHBOUR: 'it returns false'. Refute it at one input. -/
def fnExecSameWrong : ChangeSpec := { name := "fnExecSame", fn := fun _ => fun
  | [d] => { results := [.lit (.bool false)], args := [d] }
  | _ => none }
def FnExecSameWrongFalsely : Prop := fnExecSameRow.holds Try.pinned (OpenSpec.ofChange fnExecSameWrong)

/-- 'laws.FnExecGrow': WHATEVER THE INPUT: true; the input reads as it did. -/
def fnExecGrowSpec : ChangeSpec := { name := "fnExecGrow", fn := fun _ => fun
  | [d1, d2] => { results := [.lit (.bool true)], args := [d1, d2] }
  | _ => none }
def fnExecGrowRow : OpenClaim := { program := "ytbcnmmofccackaa", sum := "0e82d9188410775959817998b3adb6cc1716056bd6cbf61b18f1944d6e91a08f", func := "loop.example/thingstead/laws.FnExecGrow", spec := "fnExecGrow", unfollowed := true, recurses := true, apart := false }
def FnExecGrowSaid : Prop := fnExecGrowRow.holds Try.pinned (OpenSpec.ofChange fnExecGrowSpec)

/-- ITS FALSE NEIGHBOUR: 'it returns false'. Refute it at one input. -/
def fnExecGrowWrong : ChangeSpec := { name := "fnExecGrow", fn := fun _ => fun
  | [d1, d2] => { results := [.lit (.bool false)], args := [d1, d2] }
  | _ => none }
def FnExecGrowWrongFalsely : Prop := fnExecGrowRow.holds Try.pinned (OpenSpec.ofChange fnExecGrowWrong)

/-- 'laws.FnExactExecRun': WHATEVER THE INPUT: true; the input reads as it did. -/
def fnExactExecRunSpec : ChangeSpec := { name := "fnExactExecRun", fn := fun _ => fun
  | [d1, d2] => { results := [.lit (.bool true)], args := [d1, d2] }
  | _ => none }
def fnExactExecRunRow : OpenClaim := { program := "ytbcnmmofccackaa", sum := "0e82d9188410775959817998b3adb6cc1716056bd6cbf61b18f1944d6e91a08f", func := "loop.example/thingstead/laws.FnExactExecRun", spec := "fnExactExecRun", unfollowed := true, recurses := true, apart := false }
def FnExactExecRunSaid : Prop := fnExactExecRunRow.holds Try.pinned (OpenSpec.ofChange fnExactExecRunSpec)

/-- ITS FALSE NEIGHBOUR: 'it returns false'. Refute it at one input. -/
def fnExactExecRunWrong : ChangeSpec := { name := "fnExactExecRun", fn := fun _ => fun
  | [d1, d2] => { results := [.lit (.bool false)], args := [d1, d2] }
  | _ => none }
def FnExactExecRunWrongFalsely : Prop := fnExactExecRunRow.holds Try.pinned (OpenSpec.ofChange fnExactExecRunWrong)

/-- 'laws.FnExactExecOk': WHATEVER THE INPUT: true; the input reads as it did. -/
def fnExactExecOkSpec : ChangeSpec := { name := "fnExactExecOk", fn := fun _ => fun
  | [d] => { results := [.lit (.bool true)], args := [d] }
  | _ => none }
def fnExactExecOkRow : OpenClaim := { program := "ytbcnmmofccackaa", sum := "0e82d9188410775959817998b3adb6cc1716056bd6cbf61b18f1944d6e91a08f", func := "loop.example/thingstead/laws.FnExactExecOk", spec := "fnExactExecOk", apart := false }
def FnExactExecOkSaid : Prop := fnExactExecOkRow.holds Try.pinned (OpenSpec.ofChange fnExactExecOkSpec)

/-- ITS FALSE NEIGHBOUR: 'it returns false'. Refute it at one input. -/
def fnExactExecOkWrong : ChangeSpec := { name := "fnExactExecOk", fn := fun _ => fun
  | [d] => { results := [.lit (.bool false)], args := [d] }
  | _ => none }
def FnExactExecOkWrongFalsely : Prop := fnExactExecOkRow.holds Try.pinned (OpenSpec.ofChange fnExactExecOkWrong)

/-- 'laws.FnExactExecSame': WHATEVER THE INPUT: true; the input reads as it did. -/
def fnExactExecSameSpec : ChangeSpec := { name := "fnExactExecSame", fn := fun _ => fun
  | [d1, d2] => { results := [.lit (.bool true)], args := [d1, d2] }
  | _ => none }
def fnExactExecSameRow : OpenClaim := { program := "ytbcnmmofccackaa", sum := "0e82d9188410775959817998b3adb6cc1716056bd6cbf61b18f1944d6e91a08f", func := "loop.example/thingstead/laws.FnExactExecSame", spec := "fnExactExecSame", apart := false }
def FnExactExecSameSaid : Prop := fnExactExecSameRow.holds Try.pinned (OpenSpec.ofChange fnExactExecSameSpec)

/-- ITS FALSE NEIGHBOUR: 'it returns false'. Refute it at one input. -/
def fnExactExecSameWrong : ChangeSpec := { name := "fnExactExecSame", fn := fun _ => fun
  | [d1, d2] => { results := [.lit (.bool false)], args := [d1, d2] }
  | _ => none }
def FnExactExecSameWrongFalsely : Prop := fnExactExecSameRow.holds Try.pinned (OpenSpec.ofChange fnExactExecSameWrong)

/-- 'laws.FnExactExecFresh': WHATEVER THE INPUT: true; the input reads as it did. -/
def fnExactExecFreshSpec : ChangeSpec := { name := "fnExactExecFresh", fn := fun _ => fun
  | [d1, d2] => { results := [.lit (.bool true)], args := [d1, d2] }
  | _ => none }
def fnExactExecFreshRow : OpenClaim := { program := "ytbcnmmofccackaa", sum := "0e82d9188410775959817998b3adb6cc1716056bd6cbf61b18f1944d6e91a08f", func := "loop.example/thingstead/laws.FnExactExecFresh", spec := "fnExactExecFresh", apart := false }
def FnExactExecFreshSaid : Prop := fnExactExecFreshRow.holds Try.pinned (OpenSpec.ofChange fnExactExecFreshSpec)

/-- ITS FALSE NEIGHBOUR: 'it returns false'. Refute it at one input. -/
def fnExactExecFreshWrong : ChangeSpec := { name := "fnExactExecFresh", fn := fun _ => fun
  | [d1, d2] => { results := [.lit (.bool false)], args := [d1, d2] }
  | _ => none }
def FnExactExecFreshWrongFalsely : Prop := fnExactExecFreshRow.holds Try.pinned (OpenSpec.ofChange fnExactExecFreshWrong)

/-- 'laws.FnExactExecDo': WHATEVER THE INPUT: true; the input reads as it did. -/
def fnExactExecDoSpec : ChangeSpec := { name := "fnExactExecDo", fn := fun _ => fun
  | [d1, d2] => { results := [.lit (.bool true)], args := [d1, d2] }
  | _ => none }
def fnExactExecDoRow : OpenClaim := { program := "ytbcnmmofccackaa", sum := "0e82d9188410775959817998b3adb6cc1716056bd6cbf61b18f1944d6e91a08f", func := "loop.example/thingstead/laws.FnExactExecDo", spec := "fnExactExecDo", apart := false }
def FnExactExecDoSaid : Prop := fnExactExecDoRow.holds Try.pinned (OpenSpec.ofChange fnExactExecDoSpec)

/-- ITS FALSE NEIGHBOUR: 'it returns false'. Refute it at one input. -/
def fnExactExecDoWrong : ChangeSpec := { name := "fnExactExecDo", fn := fun _ => fun
  | [d1, d2] => { results := [.lit (.bool false)], args := [d1, d2] }
  | _ => none }
def FnExactExecDoWrongFalsely : Prop := fnExactExecDoRow.holds Try.pinned (OpenSpec.ofChange fnExactExecDoWrong)

/- THE SECOND FORM. 'bulk': how many values and letters a reading holds, each counted each time it is reached (what is shared counts as often as it is met; a slice's spare places count too). A statement '..UptoSaid' is the law's where the arguments, and the package variables that the reading takes, are together of bulk at most 1048576: NARROWER than '..Said'. Prove '..Said' where nothing that the law and all that it calls make is longer than what came in: it says more and counts as full. Else prove '..UptoSaid'. A law counts once. -/
mutual
def uptoBulk {H : Type} : DataW H → Nat
  | .lit (.string bytes) => bytes.length + 1
  | .lit _ => 1
  | .nil => 1
  | .ptr d => uptoBulk d + 1
  | .slice elems spare => uptoBulkAll elems + uptoBulkAll spare + 1
  | .agg parts => uptoBulkAll parts + 1
  | .iface _ d => uptoBulk d + 1
  | .map entries => uptoBulkEntries entries + 1
  | .held _ => 1
def uptoBulkAll {H : Type} : List (DataW H) → Nat
  | [] => 0
  | d :: r => uptoBulk d + uptoBulkAll r
def uptoBulkEntries {H : Type} : List (Lit × DataW H) → Nat
  | [] => 0
  | x :: r => uptoBulkEntry x + uptoBulkEntries r
def uptoBulkEntry {H : Type} : Lit × DataW H → Nat
  | (.string bytes, d) => bytes.length + uptoBulk d + 1
  | (_, d) => uptoBulk d + 1
 end
def uptoSmall : (H : Type) → List (DataW H) → Bool := fun _ ds => decide (uptoBulkAll ds ≤ 1048576)
def OpenSpec.upto (s : _root_.Go.ChangeSpec) : _root_.Go.OpenSpec := { _root_.Go.OpenSpec.ofChange s with cond := some uptoSmall }

/-- 'laws.FnProgPart', WHERE WHAT IT READS IS OF BULK AT MOST 1048576: true; the input reads as it did. -/
def fnProgPartUptoRow : OpenClaim := { program := "ytbcnmmofccackaa", sum := "0e82d9188410775959817998b3adb6cc1716056bd6cbf61b18f1944d6e91a08f", func := "loop.example/thingstead/laws.FnProgPart", spec := "fnProgPart", unfollowed := true, recurses := true, apart := false, narrowed := true }
def FnProgPartUptoSaid : Prop := fnProgPartUptoRow.holds Try.pinned (OpenSpec.upto fnProgPartSpec)

/-- 'laws.FnExec', WHERE WHAT IT READS IS OF BULK AT MOST 1048576: true; the input reads as it did. -/
def fnExecUptoRow : OpenClaim := { program := "ytbcnmmofccackaa", sum := "0e82d9188410775959817998b3adb6cc1716056bd6cbf61b18f1944d6e91a08f", func := "loop.example/thingstead/laws.FnExec", spec := "fnExec", unfollowed := true, recurses := true, apart := false, narrowed := true }
def FnExecUptoSaid : Prop := fnExecUptoRow.holds Try.pinned (OpenSpec.upto fnExecSpec)

/-- 'laws.FnExecDo', WHERE WHAT IT READS IS OF BULK AT MOST 1048576: true; the input reads as it did. -/
def fnExecDoUptoRow : OpenClaim := { program := "ytbcnmmofccackaa", sum := "0e82d9188410775959817998b3adb6cc1716056bd6cbf61b18f1944d6e91a08f", func := "loop.example/thingstead/laws.FnExecDo", spec := "fnExecDo", apart := false, narrowed := true }
def FnExecDoUptoSaid : Prop := fnExecDoUptoRow.holds Try.pinned (OpenSpec.upto fnExecDoSpec)

/-- 'laws.FnExecOwn', WHERE WHAT IT READS IS OF BULK AT MOST 1048576: true; the input reads as it did. -/
def fnExecOwnUptoRow : OpenClaim := { program := "ytbcnmmofccackaa", sum := "0e82d9188410775959817998b3adb6cc1716056bd6cbf61b18f1944d6e91a08f", func := "loop.example/thingstead/laws.FnExecOwn", spec := "fnExecOwn", unfollowed := true, recurses := true, apart := false, narrowed := true }
def FnExecOwnUptoSaid : Prop := fnExecOwnUptoRow.holds Try.pinned (OpenSpec.upto fnExecOwnSpec)

/-- 'laws.FnExecSame', WHERE WHAT IT READS IS OF BULK AT MOST 1048576: true; the input reads as it did. -/
def fnExecSameUptoRow : OpenClaim := { program := "ytbcnmmofccackaa", sum := "0e82d9188410775959817998b3adb6cc1716056bd6cbf61b18f1944d6e91a08f", func := "loop.example/thingstead/laws.FnExecSame", spec := "fnExecSame", apart := false, narrowed := true }
def FnExecSameUptoSaid : Prop := fnExecSameUptoRow.holds Try.pinned (OpenSpec.upto fnExecSameSpec)

/-- 'laws.FnExecGrow', WHERE WHAT IT READS IS OF BULK AT MOST 1048576: true; the input reads as it did. -/
def fnExecGrowUptoRow : OpenClaim := { program := "ytbcnmmofccackaa", sum := "0e82d9188410775959817998b3adb6cc1716056bd6cbf61b18f1944d6e91a08f", func := "loop.example/thingstead/laws.FnExecGrow", spec := "fnExecGrow", unfollowed := true, recurses := true, apart := false, narrowed := true }
def FnExecGrowUptoSaid : Prop := fnExecGrowUptoRow.holds Try.pinned (OpenSpec.upto fnExecGrowSpec)

/-- 'laws.FnExactExecRun', WHERE WHAT IT READS IS OF BULK AT MOST 1048576: true; the input reads as it did. -/
def fnExactExecRunUptoRow : OpenClaim := { program := "ytbcnmmofccackaa", sum := "0e82d9188410775959817998b3adb6cc1716056bd6cbf61b18f1944d6e91a08f", func := "loop.example/thingstead/laws.FnExactExecRun", spec := "fnExactExecRun", unfollowed := true, recurses := true, apart := false, narrowed := true }
def FnExactExecRunUptoSaid : Prop := fnExactExecRunUptoRow.holds Try.pinned (OpenSpec.upto fnExactExecRunSpec)

/-- 'laws.FnExactExecOk', WHERE WHAT IT READS IS OF BULK AT MOST 1048576: true; the input reads as it did. -/
def fnExactExecOkUptoRow : OpenClaim := { program := "ytbcnmmofccackaa", sum := "0e82d9188410775959817998b3adb6cc1716056bd6cbf61b18f1944d6e91a08f", func := "loop.example/thingstead/laws.FnExactExecOk", spec := "fnExactExecOk", apart := false, narrowed := true }
def FnExactExecOkUptoSaid : Prop := fnExactExecOkUptoRow.holds Try.pinned (OpenSpec.upto fnExactExecOkSpec)

/-- 'laws.FnExactExecSame', WHERE WHAT IT READS IS OF BULK AT MOST 1048576: true; the input reads as it did. -/
def fnExactExecSameUptoRow : OpenClaim := { program := "ytbcnmmofccackaa", sum := "0e82d9188410775959817998b3adb6cc1716056bd6cbf61b18f1944d6e91a08f", func := "loop.example/thingstead/laws.FnExactExecSame", spec := "fnExactExecSame", apart := false, narrowed := true }
def FnExactExecSameUptoSaid : Prop := fnExactExecSameUptoRow.holds Try.pinned (OpenSpec.upto fnExactExecSameSpec)

/-- 'laws.FnExactExecFresh', WHERE WHAT IT READS IS OF BULK AT MOST 1048576: true; the input reads as it did. -/
def fnExactExecFreshUptoRow : OpenClaim := { program := "ytbcnmmofccackaa", sum := "0e82d9188410775959817998b3adb6cc1716056bd6cbf61b18f1944d6e91a08f", func := "loop.example/thingstead/laws.FnExactExecFresh", spec := "fnExactExecFresh", apart := false, narrowed := true }
def FnExactExecFreshUptoSaid : Prop := fnExactExecFreshUptoRow.holds Try.pinned (OpenSpec.upto fnExactExecFreshSpec)

/-- 'laws.FnExactExecDo', WHERE WHAT IT READS IS OF BULK AT MOST 1048576: true; the input reads as it did. -/
def fnExactExecDoUptoRow : OpenClaim := { program := "ytbcnmmofccackaa", sum := "0e82d9188410775959817998b3adb6cc1716056bd6cbf61b18f1944d6e91a08f", func := "loop.example/thingstead/laws.FnExactExecDo", spec := "fnExactExecDo", apart := false, narrowed := true }
def FnExactExecDoUptoSaid : Prop := fnExactExecDoUptoRow.holds Try.pinned (OpenSpec.upto fnExactExecDoSpec)

end Rows
end Go.Proofs.Ytbcnmmofccackaa

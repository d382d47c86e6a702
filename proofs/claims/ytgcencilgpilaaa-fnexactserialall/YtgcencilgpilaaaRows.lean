/-
  No cell of these rows narrows 'for every input' (looked for: loops, veiled, ifaces, maps, wideKeys, modest, calm, conditions, laid).
  DERIVED. THE GIVEN ROWS OF THIS SEAT. 9 by the template 'for every input the law returns true; each argument reads behind the call as it read before'; 0 by the template 'total and deterministic' (their statements: YtgcencilgpilaaaTotals.lean).
  GIVEN WITH THE SEED: the statements are not yours to turn. If you find one false, say at which input.
  Laid BY PROGRAM, IN A SANDBOX (cutbox-rows.mjs): the forced cells as the released guide's own fill.sh prints them over the translation 1f62cca78bb73d13… (all of the seat's roots in one cut). By AI agents, Wed Nov 11 2026. No macro, syntax, notation, axiom, sorry.
-/
import Derived.Test.YtgcencilgpilaaaChecked
import GoSem.Claim
import GoSem.ClaimJoined
import GoSem.ClaimMapViews
import Derived.JoinedTies
import Derived.KernelRfl
namespace Go.Proofs.Ytgcencilgpilaaa
/- THE CELL 'sum', in the pinned program and in every row, IS THE sha256 OF THE DUMP (.gsa) THAT YtgcencilgpilaaaProg.lean LOADS. Nothing in Lean hashes anything: it is a label: what it is worth is what the hold of that sum in a sandbox is worth. -/
noncomputable def Try.pinned : Pinned := { name := "ytgcencilgpilaaa", sum := "1f62cca78bb73d1303eaae7f34cb29ecb5430c7a4bf10a2fac7352ada2b028da", checked := Try.checked }
namespace Rows
def none {H : Type} : Left H := { results := [], args := [] }

/-- 'laws.FnExecDo': WHATEVER THE INPUT: true; the input reads as it did. -/
def fnExecDoSpec : ChangeSpec := { name := "fnExecDo", fn := fun _ => fun
  | [d] => { results := [.lit (.bool true)], args := [d] }
  | _ => none }
def fnExecDoRow : OpenClaim := { program := "ytgcencilgpilaaa", sum := "1f62cca78bb73d1303eaae7f34cb29ecb5430c7a4bf10a2fac7352ada2b028da", func := "loop.example/thingstead/laws.FnExecDo", spec := "fnExecDo", plainKeys := false, apart := false }
def FnExecDoSaid : Prop := fnExecDoRow.holds Try.pinned (OpenSpec.ofChange fnExecDoSpec)

/-- ITS FALSE NEIGHBOUR: 'it returns false'. Refute it at one input. -/
def fnExecDoWrong : ChangeSpec := { name := "fnExecDo", fn := fun _ => fun
  | [d] => { results := [.lit (.bool false)], args := [d] }
  | _ => none }
def FnExecDoWrongFalsely : Prop := fnExecDoRow.holds Try.pinned (OpenSpec.ofChange fnExecDoWrong)

/-- 'laws.FnExecSame': WHATEVER THE INPUT: true; the input reads as it did. -/
def fnExecSameSpec : ChangeSpec := { name := "fnExecSame", fn := fun _ => fun
  | [d] => { results := [.lit (.bool true)], args := [d] }
  | _ => none }
def fnExecSameRow : OpenClaim := { program := "ytgcencilgpilaaa", sum := "1f62cca78bb73d1303eaae7f34cb29ecb5430c7a4bf10a2fac7352ada2b028da", func := "loop.example/thingstead/laws.FnExecSame", spec := "fnExecSame", plainKeys := false, apart := false }
def FnExecSameSaid : Prop := fnExecSameRow.holds Try.pinned (OpenSpec.ofChange fnExecSameSpec)

/-- ITS FALSE NEIGHBOUR: 'it returns false'. Refute it at one input. -/
def fnExecSameWrong : ChangeSpec := { name := "fnExecSame", fn := fun _ => fun
  | [d] => { results := [.lit (.bool false)], args := [d] }
  | _ => none }
def FnExecSameWrongFalsely : Prop := fnExecSameRow.holds Try.pinned (OpenSpec.ofChange fnExecSameWrong)

/-- 'laws.FnSerial': WHATEVER THE INPUT: true; the input reads as it did. -/
def fnSerialSpec : ChangeSpec := { name := "fnSerial", fn := fun _ => fun
  | [d1, d2] => { results := [.lit (.bool true)], args := [d1, d2] }
  | _ => none }
def fnSerialRow : OpenClaim := { program := "ytgcencilgpilaaa", sum := "1f62cca78bb73d1303eaae7f34cb29ecb5430c7a4bf10a2fac7352ada2b028da", func := "loop.example/thingstead/laws.FnSerial", spec := "fnSerial", unfollowed := true, recurses := true, plainKeys := false, apart := false }
def FnSerialSaid : Prop := fnSerialRow.holds Try.pinned (OpenSpec.ofChange fnSerialSpec)

/-- ITS FALSE NEIGHBOUR: 'it returns false'. Refute it at one input. -/
def fnSerialWrong : ChangeSpec := { name := "fnSerial", fn := fun _ => fun
  | [d1, d2] => { results := [.lit (.bool false)], args := [d1, d2] }
  | _ => none }
def FnSerialWrongFalsely : Prop := fnSerialRow.holds Try.pinned (OpenSpec.ofChange fnSerialWrong)

/-- 'laws.FnExactSerialAll': WHATEVER THE INPUT: true; the input reads as it did. -/
def fnExactSerialAllSpec : ChangeSpec := { name := "fnExactSerialAll", fn := fun _ => fun
  | [d1, d2] => { results := [.lit (.bool true)], args := [d1, d2] }
  | _ => none }
def fnExactSerialAllRow : OpenClaim := { program := "ytgcencilgpilaaa", sum := "1f62cca78bb73d1303eaae7f34cb29ecb5430c7a4bf10a2fac7352ada2b028da", func := "loop.example/thingstead/laws.FnExactSerialAll", spec := "fnExactSerialAll", unfollowed := true, recurses := true, plainKeys := false, apart := false }
def FnExactSerialAllSaid : Prop := fnExactSerialAllRow.holds Try.pinned (OpenSpec.ofChange fnExactSerialAllSpec)

/-- ITS FALSE NEIGHBOUR: 'it returns false'. Refute it at one input. -/
def fnExactSerialAllWrong : ChangeSpec := { name := "fnExactSerialAll", fn := fun _ => fun
  | [d1, d2] => { results := [.lit (.bool false)], args := [d1, d2] }
  | _ => none }
def FnExactSerialAllWrongFalsely : Prop := fnExactSerialAllRow.holds Try.pinned (OpenSpec.ofChange fnExactSerialAllWrong)

/-- 'laws.FnExactCertOpen': WHATEVER THE INPUT: true; the input reads as it did. -/
def fnExactCertOpenSpec : ChangeSpec := { name := "fnExactCertOpen", fn := fun _ => fun
  | [] => { results := [.lit (.bool true)], args := [] }
  | _ => none }
def fnExactCertOpenRow : OpenClaim := { program := "ytgcencilgpilaaa", sum := "1f62cca78bb73d1303eaae7f34cb29ecb5430c7a4bf10a2fac7352ada2b028da", func := "loop.example/thingstead/laws.FnExactCertOpen", spec := "fnExactCertOpen", plainKeys := false, apart := false }
def FnExactCertOpenSaid : Prop := fnExactCertOpenRow.holds Try.pinned (OpenSpec.ofChange fnExactCertOpenSpec)

/-- ITS FALSE NEIGHBOUR: 'it returns false'. Refute it at one input. -/
def fnExactCertOpenWrong : ChangeSpec := { name := "fnExactCertOpen", fn := fun _ => fun
  | [] => { results := [.lit (.bool false)], args := [] }
  | _ => none }
def FnExactCertOpenWrongFalsely : Prop := fnExactCertOpenRow.holds Try.pinned (OpenSpec.ofChange fnExactCertOpenWrong)

/-- 'laws.FnExactCertOk': WHATEVER THE INPUT: true; the input reads as it did. -/
def fnExactCertOkSpec : ChangeSpec := { name := "fnExactCertOk", fn := fun _ => fun
  | [d] => { results := [.lit (.bool true)], args := [d] }
  | _ => none }
def fnExactCertOkRow : OpenClaim := { program := "ytgcencilgpilaaa", sum := "1f62cca78bb73d1303eaae7f34cb29ecb5430c7a4bf10a2fac7352ada2b028da", func := "loop.example/thingstead/laws.FnExactCertOk", spec := "fnExactCertOk", plainKeys := false, apart := false }
def FnExactCertOkSaid : Prop := fnExactCertOkRow.holds Try.pinned (OpenSpec.ofChange fnExactCertOkSpec)

/-- ITS FALSE NEIGHBOUR: 'it returns false'. Refute it at one input. -/
def fnExactCertOkWrong : ChangeSpec := { name := "fnExactCertOk", fn := fun _ => fun
  | [d] => { results := [.lit (.bool false)], args := [d] }
  | _ => none }
def FnExactCertOkWrongFalsely : Prop := fnExactCertOkRow.holds Try.pinned (OpenSpec.ofChange fnExactCertOkWrong)

/-- 'laws.FnExactCertSame': WHATEVER THE INPUT: true; the input reads as it did. -/
def fnExactCertSameSpec : ChangeSpec := { name := "fnExactCertSame", fn := fun _ => fun
  | [d1, d2] => { results := [.lit (.bool true)], args := [d1, d2] }
  | _ => none }
def fnExactCertSameRow : OpenClaim := { program := "ytgcencilgpilaaa", sum := "1f62cca78bb73d1303eaae7f34cb29ecb5430c7a4bf10a2fac7352ada2b028da", func := "loop.example/thingstead/laws.FnExactCertSame", spec := "fnExactCertSame", plainKeys := false, apart := false }
def FnExactCertSameSaid : Prop := fnExactCertSameRow.holds Try.pinned (OpenSpec.ofChange fnExactCertSameSpec)

/-- ITS FALSE NEIGHBOUR: 'it returns false'. Refute it at one input. -/
def fnExactCertSameWrong : ChangeSpec := { name := "fnExactCertSame", fn := fun _ => fun
  | [d1, d2] => { results := [.lit (.bool false)], args := [d1, d2] }
  | _ => none }
def FnExactCertSameWrongFalsely : Prop := fnExactCertSameRow.holds Try.pinned (OpenSpec.ofChange fnExactCertSameWrong)

/-- 'laws.FnExactCertEntry': WHATEVER THE INPUT: true; the input reads as it did. -/
def fnExactCertEntrySpec : ChangeSpec := { name := "fnExactCertEntry", fn := fun _ => fun
  | [d] => { results := [.lit (.bool true)], args := [d] }
  | _ => none }
def fnExactCertEntryRow : OpenClaim := { program := "ytgcencilgpilaaa", sum := "1f62cca78bb73d1303eaae7f34cb29ecb5430c7a4bf10a2fac7352ada2b028da", func := "loop.example/thingstead/laws.FnExactCertEntry", spec := "fnExactCertEntry", unfollowed := true, recurses := true, plainKeys := false, apart := false }
def FnExactCertEntrySaid : Prop := fnExactCertEntryRow.holds Try.pinned (OpenSpec.ofChange fnExactCertEntrySpec)

/-- ITS FALSE NEIGHBOUR: 'it returns false'. Refute it at one input. -/
def fnExactCertEntryWrong : ChangeSpec := { name := "fnExactCertEntry", fn := fun _ => fun
  | [d] => { results := [.lit (.bool false)], args := [d] }
  | _ => none }
def FnExactCertEntryWrongFalsely : Prop := fnExactCertEntryRow.holds Try.pinned (OpenSpec.ofChange fnExactCertEntryWrong)

/-- 'laws.FnExactCertLike': WHATEVER THE INPUT: true; the input reads as it did. -/
def fnExactCertLikeSpec : ChangeSpec := { name := "fnExactCertLike", fn := fun _ => fun
  | [d1, d2] => { results := [.lit (.bool true)], args := [d1, d2] }
  | _ => none }
def fnExactCertLikeRow : OpenClaim := { program := "ytgcencilgpilaaa", sum := "1f62cca78bb73d1303eaae7f34cb29ecb5430c7a4bf10a2fac7352ada2b028da", func := "loop.example/thingstead/laws.FnExactCertLike", spec := "fnExactCertLike", plainKeys := false, apart := false }
def FnExactCertLikeSaid : Prop := fnExactCertLikeRow.holds Try.pinned (OpenSpec.ofChange fnExactCertLikeSpec)

/-- ITS FALSE NEIGHBOUR: 'it returns false'. Refute it at one input. -/
def fnExactCertLikeWrong : ChangeSpec := { name := "fnExactCertLike", fn := fun _ => fun
  | [d1, d2] => { results := [.lit (.bool false)], args := [d1, d2] }
  | _ => none }
def FnExactCertLikeWrongFalsely : Prop := fnExactCertLikeRow.holds Try.pinned (OpenSpec.ofChange fnExactCertLikeWrong)

/- THE SECOND FORM. 'bulk': how many values and letters a reading holds, each counted each time it is reached (what is shared counts as often as it is met; a slice's spare places count too). A statement '..UptoSaid' is the law's where the arguments, and the package variables that the reading takes, are together of bulk at most 1048576: NARROWER than '..Said'. Prove '..Said' where nothing that the law and all that it calls make is longer than what came in: it says more and counts as full. Else prove '..UptoSaid'. A law counts once. -/
mutual
def uptoBulk {H : Type} : DataW H → Nat
  | .lit (.string bytes) => bytes.length + 1
  | .lit _ => 1
  | .nil => 1
  | .ptr d => uptoBulk d + 1
  | .slice elems spare => uptoBulkAll elems + uptoBulkAll spare + 1
  | .agg parts => uptoBulkAll parts + 1
  | .iface _ d => uptoBulk d + 1
  | .map entries => uptoBulkEntries entries + 1
  | .held _ => 1
def uptoBulkAll {H : Type} : List (DataW H) → Nat
  | [] => 0
  | d :: r => uptoBulk d + uptoBulkAll r
def uptoBulkEntries {H : Type} : List (Lit × DataW H) → Nat
  | [] => 0
  | x :: r => uptoBulkEntry x + uptoBulkEntries r
def uptoBulkEntry {H : Type} : Lit × DataW H → Nat
  | (.string bytes, d) => bytes.length + uptoBulk d + 1
  | (_, d) => uptoBulk d + 1
 end
def uptoSmall : (H : Type) → List (DataW H) → Bool := fun _ ds => decide (uptoBulkAll ds ≤ 1048576)
def OpenSpec.upto (s : _root_.Go.ChangeSpec) : _root_.Go.OpenSpec := { _root_.Go.OpenSpec.ofChange s with cond := some uptoSmall }

/-- 'laws.FnExecDo', WHERE WHAT IT READS IS OF BULK AT MOST 1048576: true; the input reads as it did. -/
def fnExecDoUptoRow : OpenClaim := { program := "ytgcencilgpilaaa", sum := "1f62cca78bb73d1303eaae7f34cb29ecb5430c7a4bf10a2fac7352ada2b028da", func := "loop.example/thingstead/laws.FnExecDo", spec := "fnExecDo", plainKeys := false, apart := false, narrowed := true }
def FnExecDoUptoSaid : Prop := fnExecDoUptoRow.holds Try.pinned (OpenSpec.upto fnExecDoSpec)

/-- 'laws.FnExecSame', WHERE WHAT IT READS IS OF BULK AT MOST 1048576: true; the input reads as it did. -/
def fnExecSameUptoRow : OpenClaim := { program := "ytgcencilgpilaaa", sum := "1f62cca78bb73d1303eaae7f34cb29ecb5430c7a4bf10a2fac7352ada2b028da", func := "loop.example/thingstead/laws.FnExecSame", spec := "fnExecSame", plainKeys := false, apart := false, narrowed := true }
def FnExecSameUptoSaid : Prop := fnExecSameUptoRow.holds Try.pinned (OpenSpec.upto fnExecSameSpec)

/-- 'laws.FnSerial', WHERE WHAT IT READS IS OF BULK AT MOST 1048576: true; the input reads as it did. -/
def fnSerialUptoRow : OpenClaim := { program := "ytgcencilgpilaaa", sum := "1f62cca78bb73d1303eaae7f34cb29ecb5430c7a4bf10a2fac7352ada2b028da", func := "loop.example/thingstead/laws.FnSerial", spec := "fnSerial", unfollowed := true, recurses := true, plainKeys := false, apart := false, narrowed := true }
def FnSerialUptoSaid : Prop := fnSerialUptoRow.holds Try.pinned (OpenSpec.upto fnSerialSpec)

/-- 'laws.FnExactSerialAll', WHERE WHAT IT READS IS OF BULK AT MOST 1048576: true; the input reads as it did. -/
def fnExactSerialAllUptoRow : OpenClaim := { program := "ytgcencilgpilaaa", sum := "1f62cca78bb73d1303eaae7f34cb29ecb5430c7a4bf10a2fac7352ada2b028da", func := "loop.example/thingstead/laws.FnExactSerialAll", spec := "fnExactSerialAll", unfollowed := true, recurses := true, plainKeys := false, apart := false, narrowed := true }
def FnExactSerialAllUptoSaid : Prop := fnExactSerialAllUptoRow.holds Try.pinned (OpenSpec.upto fnExactSerialAllSpec)

/-- 'laws.FnExactCertOpen', WHERE WHAT IT READS IS OF BULK AT MOST 1048576: true; the input reads as it did. -/
def fnExactCertOpenUptoRow : OpenClaim := { program := "ytgcencilgpilaaa", sum := "1f62cca78bb73d1303eaae7f34cb29ecb5430c7a4bf10a2fac7352ada2b028da", func := "loop.example/thingstead/laws.FnExactCertOpen", spec := "fnExactCertOpen", plainKeys := false, apart := false, narrowed := true }
def FnExactCertOpenUptoSaid : Prop := fnExactCertOpenUptoRow.holds Try.pinned (OpenSpec.upto fnExactCertOpenSpec)

/-- 'laws.FnExactCertOk', WHERE WHAT IT READS IS OF BULK AT MOST 1048576: true; the input reads as it did. -/
def fnExactCertOkUptoRow : OpenClaim := { program := "ytgcencilgpilaaa", sum := "1f62cca78bb73d1303eaae7f34cb29ecb5430c7a4bf10a2fac7352ada2b028da", func := "loop.example/thingstead/laws.FnExactCertOk", spec := "fnExactCertOk", plainKeys := false, apart := false, narrowed := true }
def FnExactCertOkUptoSaid : Prop := fnExactCertOkUptoRow.holds Try.pinned (OpenSpec.upto fnExactCertOkSpec)

/-- 'laws.FnExactCertSame', WHERE WHAT IT READS IS OF BULK AT MOST 1048576: true; the input reads as it did. -/
def fnExactCertSameUptoRow : OpenClaim := { program := "ytgcencilgpilaaa", sum := "1f62cca78bb73d1303eaae7f34cb29ecb5430c7a4bf10a2fac7352ada2b028da", func := "loop.example/thingstead/laws.FnExactCertSame", spec := "fnExactCertSame", plainKeys := false, apart := false, narrowed := true }
def FnExactCertSameUptoSaid : Prop := fnExactCertSameUptoRow.holds Try.pinned (OpenSpec.upto fnExactCertSameSpec)

/-- 'laws.FnExactCertEntry', WHERE WHAT IT READS IS OF BULK AT MOST 1048576: true; the input reads as it did. -/
def fnExactCertEntryUptoRow : OpenClaim := { program := "ytgcencilgpilaaa", sum := "1f62cca78bb73d1303eaae7f34cb29ecb5430c7a4bf10a2fac7352ada2b028da", func := "loop.example/thingstead/laws.FnExactCertEntry", spec := "fnExactCertEntry", unfollowed := true, recurses := true, plainKeys := false, apart := false, narrowed := true }
def FnExactCertEntryUptoSaid : Prop := fnExactCertEntryUptoRow.holds Try.pinned (OpenSpec.upto fnExactCertEntrySpec)

/-- 'laws.FnExactCertLike', WHERE WHAT IT READS IS OF BULK AT MOST 1048576: true; the input reads as it did. -/
def fnExactCertLikeUptoRow : OpenClaim := { program := "ytgcencilgpilaaa", sum := "1f62cca78bb73d1303eaae7f34cb29ecb5430c7a4bf10a2fac7352ada2b028da", func := "loop.example/thingstead/laws.FnExactCertLike", spec := "fnExactCertLike", plainKeys := false, apart := false, narrowed := true }
def FnExactCertLikeUptoSaid : Prop := fnExactCertLikeUptoRow.holds Try.pinned (OpenSpec.upto fnExactCertLikeSpec)

end Rows
end Go.Proofs.Ytgcencilgpilaaa

/-
  No cell of these rows narrows 'for every input' (looked for: loops, veiled, ifaces, maps, wideKeys, modest, calm, conditions, laid).
  DERIVED. THE GIVEN ROWS OF THIS SEAT. 7 by the template 'for every input the law returns true; each argument reads behind the call as it read before'; 0 by the template 'total and deterministic' (their statements: YtfifiobcmdmefaaTotals.lean).
  GIVEN WITH THE SEED: the statements are not yours to turn. If you find one false, say at which input.
  Laid BY PROGRAM, IN A SANDBOX (cutbox-rows.mjs): the forced cells as the released guide's own fill.sh prints them over the translation 19f593f1e0e26fd4… (all of the seat's roots in one cut). By AI agents, Wed Nov 11 2026. No macro, syntax, notation, axiom, sorry.
-/
import Derived.Test.YtfifiobcmdmefaaChecked
import GoSem.Claim
import GoSem.ClaimJoined
import GoSem.ClaimMapViews
import Derived.JoinedTies
import Derived.KernelRfl
namespace Go.Proofs.Ytfifiobcmdmefaa
/- THE CELL 'sum', in the pinned program and in every row, IS THE sha256 OF THE DUMP (.gsa) THAT YtfifiobcmdmefaaProg.lean LOADS. Nothing in Lean hashes anything: it is a label: what it is worth is what the hold of that sum in a sandbox is worth. -/
noncomputable def Try.pinned : Pinned := { name := "ytfifiobcmdmefaa", sum := "19f593f1e0e26fd4a93f81d0589b8b0eb4eacc9165b8f02fbd44e18446b3993e", checked := Try.checked }
namespace Rows
def none {H : Type} : Left H := { results := [], args := [] }

/-- 'laws.FnAcc': WHATEVER THE INPUT: true; the input reads as it did. -/
def fnAccSpec : ChangeSpec := { name := "fnAcc", fn := fun _ => fun
  | [d] => { results := [.lit (.bool true)], args := [d] }
  | _ => none }
def fnAccRow : OpenClaim := { program := "ytfifiobcmdmefaa", sum := "19f593f1e0e26fd4a93f81d0589b8b0eb4eacc9165b8f02fbd44e18446b3993e", func := "loop.example/thingstead/laws.FnAcc", spec := "fnAcc", unfollowed := true, recurses := true, plainKeys := false, apart := false }
def FnAccSaid : Prop := fnAccRow.holds Try.pinned (OpenSpec.ofChange fnAccSpec)

/-- ITS FALSE NEIGHBOUR: 'it returns false'. Refute it at one input. -/
def fnAccWrong : ChangeSpec := { name := "fnAcc", fn := fun _ => fun
  | [d] => { results := [.lit (.bool false)], args := [d] }
  | _ => none }
def FnAccWrongFalsely : Prop := fnAccRow.holds Try.pinned (OpenSpec.ofChange fnAccWrong)

/-- 'laws.FnAccNext': WHATEVER THE INPUT: true; the input reads as it did. -/
def fnAccNextSpec : ChangeSpec := { name := "fnAccNext", fn := fun _ => fun
  | [d] => { results := [.lit (.bool true)], args := [d] }
  | _ => none }
def fnAccNextRow : OpenClaim := { program := "ytfifiobcmdmefaa", sum := "19f593f1e0e26fd4a93f81d0589b8b0eb4eacc9165b8f02fbd44e18446b3993e", func := "loop.example/thingstead/laws.FnAccNext", spec := "fnAccNext", unfollowed := true, recurses := true, plainKeys := false, apart := false }
def FnAccNextSaid : Prop := fnAccNextRow.holds Try.pinned (OpenSpec.ofChange fnAccNextSpec)

/-- ITS FALSE NEIGHBOUR: 'it returns false'. Refute it at one input. -/
def fnAccNextWrong : ChangeSpec := { name := "fnAccNext", fn := fun _ => fun
  | [d] => { results := [.lit (.bool false)], args := [d] }
  | _ => none }
def FnAccNextWrongFalsely : Prop := fnAccNextRow.holds Try.pinned (OpenSpec.ofChange fnAccNextWrong)

/-- 'laws.FnAccMerge': WHATEVER THE INPUT: true; the input reads as it did. -/
def fnAccMergeSpec : ChangeSpec := { name := "fnAccMerge", fn := fun _ => fun
  | [d1, d2] => { results := [.lit (.bool true)], args := [d1, d2] }
  | _ => none }
def fnAccMergeRow : OpenClaim := { program := "ytfifiobcmdmefaa", sum := "19f593f1e0e26fd4a93f81d0589b8b0eb4eacc9165b8f02fbd44e18446b3993e", func := "loop.example/thingstead/laws.FnAccMerge", spec := "fnAccMerge", unfollowed := true, recurses := true, plainKeys := false, apart := false }
def FnAccMergeSaid : Prop := fnAccMergeRow.holds Try.pinned (OpenSpec.ofChange fnAccMergeSpec)

/-- ITS FALSE NEIGHBOUR: 'it returns false'. Refute it at one input. -/
def fnAccMergeWrong : ChangeSpec := { name := "fnAccMerge", fn := fun _ => fun
  | [d1, d2] => { results := [.lit (.bool false)], args := [d1, d2] }
  | _ => none }
def FnAccMergeWrongFalsely : Prop := fnAccMergeRow.holds Try.pinned (OpenSpec.ofChange fnAccMergeWrong)

/-- 'laws.FnAccKeep': WHATEVER THE INPUT: true; the input reads as it did. -/
def fnAccKeepSpec : ChangeSpec := { name := "fnAccKeep", fn := fun _ => fun
  | [d1, d2] => { results := [.lit (.bool true)], args := [d1, d2] }
  | _ => none }
def fnAccKeepRow : OpenClaim := { program := "ytfifiobcmdmefaa", sum := "19f593f1e0e26fd4a93f81d0589b8b0eb4eacc9165b8f02fbd44e18446b3993e", func := "loop.example/thingstead/laws.FnAccKeep", spec := "fnAccKeep", unfollowed := true, recurses := true, plainKeys := false, apart := false }
def FnAccKeepSaid : Prop := fnAccKeepRow.holds Try.pinned (OpenSpec.ofChange fnAccKeepSpec)

/-- ITS FALSE NEIGHBOUR: 'it returns false'. Refute it at one input. -/
def fnAccKeepWrong : ChangeSpec := { name := "fnAccKeep", fn := fun _ => fun
  | [d1, d2] => { results := [.lit (.bool false)], args := [d1, d2] }
  | _ => none }
def FnAccKeepWrongFalsely : Prop := fnAccKeepRow.holds Try.pinned (OpenSpec.ofChange fnAccKeepWrong)

/-- 'laws.FnAccTwo': WHATEVER THE INPUT: true; the input reads as it did. -/
def fnAccTwoSpec : ChangeSpec := { name := "fnAccTwo", fn := fun _ => fun
  | [d1, d2] => { results := [.lit (.bool true)], args := [d1, d2] }
  | _ => none }
def fnAccTwoRow : OpenClaim := { program := "ytfifiobcmdmefaa", sum := "19f593f1e0e26fd4a93f81d0589b8b0eb4eacc9165b8f02fbd44e18446b3993e", func := "loop.example/thingstead/laws.FnAccTwo", spec := "fnAccTwo", unfollowed := true, recurses := true, plainKeys := false, apart := false }
def FnAccTwoSaid : Prop := fnAccTwoRow.holds Try.pinned (OpenSpec.ofChange fnAccTwoSpec)

/-- ITS FALSE NEIGHBOUR: 'it returns false'. Refute it at one input. -/
def fnAccTwoWrong : ChangeSpec := { name := "fnAccTwo", fn := fun _ => fun
  | [d1, d2] => { results := [.lit (.bool false)], args := [d1, d2] }
  | _ => none }
def FnAccTwoWrongFalsely : Prop := fnAccTwoRow.holds Try.pinned (OpenSpec.ofChange fnAccTwoWrong)

/-- 'laws.FnExactWorldOpen': WHATEVER THE INPUT: true; the input reads as it did. -/
def fnExactWorldOpenSpec : ChangeSpec := { name := "fnExactWorldOpen", fn := fun _ => fun
  | [] => { results := [.lit (.bool true)], args := [] }
  | _ => none }
def fnExactWorldOpenRow : OpenClaim := { program := "ytfifiobcmdmefaa", sum := "19f593f1e0e26fd4a93f81d0589b8b0eb4eacc9165b8f02fbd44e18446b3993e", func := "loop.example/thingstead/laws.FnExactWorldOpen", spec := "fnExactWorldOpen", plainKeys := false, apart := false }
def FnExactWorldOpenSaid : Prop := fnExactWorldOpenRow.holds Try.pinned (OpenSpec.ofChange fnExactWorldOpenSpec)

/-- ITS FALSE NEIGHBOUR: 'it returns false'. Refute it at one input. -/
def fnExactWorldOpenWrong : ChangeSpec := { name := "fnExactWorldOpen", fn := fun _ => fun
  | [] => { results := [.lit (.bool false)], args := [] }
  | _ => none }
def FnExactWorldOpenWrongFalsely : Prop := fnExactWorldOpenRow.holds Try.pinned (OpenSpec.ofChange fnExactWorldOpenWrong)

/-- 'laws.FnExactWorldLog': WHATEVER THE INPUT: true; the input reads as it did. -/
def fnExactWorldLogSpec : ChangeSpec := { name := "fnExactWorldLog", fn := fun _ => fun
  | [d] => { results := [.lit (.bool true)], args := [d] }
  | _ => none }
def fnExactWorldLogRow : OpenClaim := { program := "ytfifiobcmdmefaa", sum := "19f593f1e0e26fd4a93f81d0589b8b0eb4eacc9165b8f02fbd44e18446b3993e", func := "loop.example/thingstead/laws.FnExactWorldLog", spec := "fnExactWorldLog", plainKeys := false, apart := false }
def FnExactWorldLogSaid : Prop := fnExactWorldLogRow.holds Try.pinned (OpenSpec.ofChange fnExactWorldLogSpec)

/-- ITS FALSE NEIGHBOUR: 'it returns false'. Refute it at one input. -/
def fnExactWorldLogWrong : ChangeSpec := { name := "fnExactWorldLog", fn := fun _ => fun
  | [d] => { results := [.lit (.bool false)], args := [d] }
  | _ => none }
def FnExactWorldLogWrongFalsely : Prop := fnExactWorldLogRow.holds Try.pinned (OpenSpec.ofChange fnExactWorldLogWrong)

/- THE SECOND FORM. 'bulk': how many values and letters a reading holds, each counted each time it is reached (what is shared counts as often as it is met; a slice's spare places count too). A statement '..UptoSaid' is the law's where the arguments, and the package variables that the reading takes, are together of bulk at most 1048576: NARROWER than '..Said'. Prove '..Said' where nothing that the law and all that it calls make is longer than what came in: it says more and counts as full. Else prove '..UptoSaid'. A law counts once. -/
mutual
def uptoBulk {H : Type} : DataW H → Nat
  | .lit (.string bytes) => bytes.length + 1
  | .lit _ => 1
  | .nil => 1
  | .ptr d => uptoBulk d + 1
  | .slice elems spare => uptoBulkAll elems + uptoBulkAll spare + 1
  | .agg parts => uptoBulkAll parts + 1
  | .iface _ d => uptoBulk d + 1
  | .map entries => uptoBulkEntries entries + 1
  | .held _ => 1
def uptoBulkAll {H : Type} : List (DataW H) → Nat
  | [] => 0
  | d :: r => uptoBulk d + uptoBulkAll r
def uptoBulkEntries {H : Type} : List (Lit × DataW H) → Nat
  | [] => 0
  | x :: r => uptoBulkEntry x + uptoBulkEntries r
def uptoBulkEntry {H : Type} : Lit × DataW H → Nat
  | (.string bytes, d) => bytes.length + uptoBulk d + 1
  | (_, d) => uptoBulk d + 1
 end
def uptoSmall : (H : Type) → List (DataW H) → Bool := fun _ ds => decide (uptoBulkAll ds ≤ 1048576)
def OpenSpec.upto (s : _root_.Go.ChangeSpec) : _root_.Go.OpenSpec := { _root_.Go.OpenSpec.ofChange s with cond := some uptoSmall }

/-- 'laws.FnAcc', WHERE WHAT IT READS IS OF BULK AT MOST 1048576: true; the input reads as it did. -/
def fnAccUptoRow : OpenClaim := { program := "ytfifiobcmdmefaa", sum := "19f593f1e0e26fd4a93f81d0589b8b0eb4eacc9165b8f02fbd44e18446b3993e", func := "loop.example/thingstead/laws.FnAcc", spec := "fnAcc", unfollowed := true, recurses := true, plainKeys := false, apart := false, narrowed := true }
def FnAccUptoSaid : Prop := fnAccUptoRow.holds Try.pinned (OpenSpec.upto fnAccSpec)

/-- 'laws.FnAccNext', WHERE WHAT IT READS IS OF BULK AT MOST 1048576: true; the input reads as it did. -/
def fnAccNextUptoRow : OpenClaim := { program := "ytfifiobcmdmefaa", sum := "19f593f1e0e26fd4a93f81d0589b8b0eb4eacc9165b8f02fbd44e18446b3993e", func := "loop.example/thingstead/laws.FnAccNext", spec := "fnAccNext", unfollowed := true, recurses := true, plainKeys := false, apart := false, narrowed := true }
def FnAccNextUptoSaid : Prop := fnAccNextUptoRow.holds Try.pinned (OpenSpec.upto fnAccNextSpec)

/-- 'laws.FnAccMerge', WHERE WHAT IT READS IS OF BULK AT MOST 1048576: true; the input reads as it did. -/
def fnAccMergeUptoRow : OpenClaim := { program := "ytfifiobcmdmefaa", sum := "19f593f1e0e26fd4a93f81d0589b8b0eb4eacc9165b8f02fbd44e18446b3993e", func := "loop.example/thingstead/laws.FnAccMerge", spec := "fnAccMerge", unfollowed := true, recurses := true, plainKeys := false, apart := false, narrowed := true }
def FnAccMergeUptoSaid : Prop := fnAccMergeUptoRow.holds Try.pinned (OpenSpec.upto fnAccMergeSpec)

/-- 'laws.FnAccKeep', WHERE WHAT IT READS IS OF BULK AT MOST 1048576: true; the input reads as it did. -/
def fnAccKeepUptoRow : OpenClaim := { program := "ytfifiobcmdmefaa", sum := "19f593f1e0e26fd4a93f81d0589b8b0eb4eacc9165b8f02fbd44e18446b3993e", func := "loop.example/thingstead/laws.FnAccKeep", spec := "fnAccKeep", unfollowed := true, recurses := true, plainKeys := false, apart := false, narrowed := true }
def FnAccKeepUptoSaid : Prop := fnAccKeepUptoRow.holds Try.pinned (OpenSpec.upto fnAccKeepSpec)

/-- 'laws.FnAccTwo', WHERE WHAT IT READS IS OF BULK AT MOST 1048576: true; the input reads as it did. -/
def fnAccTwoUptoRow : OpenClaim := { program := "ytfifiobcmdmefaa", sum := "19f593f1e0e26fd4a93f81d0589b8b0eb4eacc9165b8f02fbd44e18446b3993e", func := "loop.example/thingstead/laws.FnAccTwo", spec := "fnAccTwo", unfollowed := true, recurses := true, plainKeys := false, apart := false, narrowed := true }
def FnAccTwoUptoSaid : Prop := fnAccTwoUptoRow.holds Try.pinned (OpenSpec.upto fnAccTwoSpec)

/-- 'laws.FnExactWorldOpen', WHERE WHAT IT READS IS OF BULK AT MOST 1048576: true; the input reads as it did. -/
def fnExactWorldOpenUptoRow : OpenClaim := { program := "ytfifiobcmdmefaa", sum := "19f593f1e0e26fd4a93f81d0589b8b0eb4eacc9165b8f02fbd44e18446b3993e", func := "loop.example/thingstead/laws.FnExactWorldOpen", spec := "fnExactWorldOpen", plainKeys := false, apart := false, narrowed := true }
def FnExactWorldOpenUptoSaid : Prop := fnExactWorldOpenUptoRow.holds Try.pinned (OpenSpec.upto fnExactWorldOpenSpec)

/-- 'laws.FnExactWorldLog', WHERE WHAT IT READS IS OF BULK AT MOST 1048576: true; the input reads as it did. -/
def fnExactWorldLogUptoRow : OpenClaim := { program := "ytfifiobcmdmefaa", sum := "19f593f1e0e26fd4a93f81d0589b8b0eb4eacc9165b8f02fbd44e18446b3993e", func := "loop.example/thingstead/laws.FnExactWorldLog", spec := "fnExactWorldLog", plainKeys := false, apart := false, narrowed := true }
def FnExactWorldLogUptoSaid : Prop := fnExactWorldLogUptoRow.holds Try.pinned (OpenSpec.upto fnExactWorldLogSpec)

end Rows
end Go.Proofs.Ytfifiobcmdmefaa

/-
  NARROWER THAN 'FOR EVERY INPUT', by the rows' own cells (each row's printed sentence says how): FnCert: ifaces, laid · FnCertPair: ifaces, laid · FnCertBlind: ifaces, laid · FnExactCertApply: ifaces, laid · FnExactCertFold: ifaces, laid.
  DERIVED. THE GIVEN ROWS OF THIS SEAT. 5 by the template 'for every input the law returns true; each argument reads behind the call as it read before'; 0 by the template 'total and deterministic' (their statements: YtbecdihfopjlhaaGreatDoorTotals.lean).
  GIVEN WITH THE SEED: the statements are not yours to turn. If you find one false, say at which input.
  Laid BY PROGRAM, IN A SANDBOX (cutbox-rows.mjs): the forced cells as the released guide's own fill.sh prints them over the translation 7a57fbb10f761f12… (all of the seat's roots in one cut). By AI agents, Wed Nov 11 2026. No macro, syntax, notation, axiom, sorry.
-/
import Derived.Test.YtbecdihfopjlhaaGreatDoorChecked
import GoSem.Claim
import GoSem.ClaimJoined
import GoSem.ClaimMapViews
import Derived.JoinedTies
import Derived.KernelRfl
namespace Go.Proofs.YtbecdihfopjlhaaGreatDoor
/- THE CELL 'sum', in the pinned program and in every row, IS THE sha256 OF THE DUMP (.gsa) THAT YtbecdihfopjlhaaGreatDoorProg.lean LOADS. Nothing in Lean hashes anything: it is a label: what it is worth is what the hold of that sum in a sandbox is worth. -/
noncomputable def Tryz.pinned : Pinned := { name := "ytbecdihfopjlhaagreatdoor", sum := "7a57fbb10f761f12527fba69d99894d49d9815fb165a8cdead4245fb504baf38", checked := Tryz.checked }
namespace Rows
def none {H : Type} : Left H := { results := [], args := [] }

/- WHAT THE LISTED PACKAGE-LEVEL VARIABLES READ AS WHEN THE CALL BEGINS. Each datum BY PROGRAM (the guide's laid-datum.mjs) off the statement by which the dump's own 'gosem.cut.vars' lays the variable. In a bare row this is a premise. The card (YtbecdihfopjlhaaGreatDoorCards.lean) ties it to the program's text. -/
def laid_loop_example_thingstead_impl_errStale {H : Type} : DataW H := .iface "*errors.errorString" (.ptr (.agg [.lit (.string [97, 32, 98, 111, 120, 32, 116, 104, 97, 116, 32, 105, 116, 32, 108, 111, 111, 107, 101, 100, 32, 105, 110, 116, 111, 32, 119, 97, 115, 32, 112, 117, 116, 32, 105, 110, 116, 111, 32, 115, 105, 110, 99, 101])]))
def laid_loop_example_thingstead_impl_errFailed {H : Type} : DataW H := .iface "*errors.errorString" (.ptr (.agg [.lit (.string [105, 116, 115, 32, 112, 114, 111, 103, 114, 97, 109, 32, 100, 105, 100, 32, 110, 111, 116, 32, 101, 110, 100, 32, 119, 101, 108, 108])]))
def laid_loop_example_thingstead_impl_errAgain {H : Type} : DataW H := .iface "*errors.errorString" (.ptr (.agg [.lit (.string [105, 116, 32, 105, 115, 32, 116, 104, 101, 32, 108, 97, 115, 116, 32, 114, 101, 113, 117, 101, 115, 116, 32, 111, 102, 32, 105, 116, 115, 32, 110, 111, 100, 101, 32, 97, 108, 114, 101, 97, 100, 121])]))
def laid_loop_example_thingstead_impl_errOld {H : Type} : DataW H := .iface "*errors.errorString" (.ptr (.agg [.lit (.string [105, 116, 115, 32, 110, 111, 100, 101, 32, 104, 97, 115, 32, 97, 32, 108, 97, 116, 101, 114, 32, 114, 101, 113, 117, 101, 115, 116])]))
def laid_loop_example_thingstead_impl_errNone {H : Type} : DataW H := .iface "*errors.errorString" (.ptr (.agg [.lit (.string [116, 104, 101, 114, 101, 32, 105, 115, 32, 110, 111, 32, 114, 101, 113, 117, 101, 115, 116])]))
def laid_loop_example_thingstead_impl_errRefused {H : Type} : DataW H := .iface "*errors.errorString" (.ptr (.agg [.lit (.string [105, 116, 32, 109, 97, 121, 32, 110, 111, 116, 32, 115, 116, 97, 110, 100, 32, 116, 104, 101, 114, 101])]))

/-- 'laws.FnCert': WHATEVER THE INPUT: true; the input reads as it did. -/
def fnCertSpec : ChangeSpec := { name := "fnCert", vars := ["loop.example/thingstead/impl.errRefused", "loop.example/thingstead/impl.errStale", "loop.example/thingstead/impl.errFailed", "loop.example/thingstead/impl.errAgain", "loop.example/thingstead/impl.errOld", "loop.example/thingstead/impl.errNone"], fn := fun _ => fun
  | [d1, d2, g1, g2, g3, g4, g5, g6] => { results := [.lit (.bool true)], args := [d1, d2], vars := [g1, g2, g3, g4, g5, g6] }
  | _ => none }
def fnCertRow : OpenClaim := { program := "ytbecdihfopjlhaagreatdoor", sum := "7a57fbb10f761f12527fba69d99894d49d9815fb165a8cdead4245fb504baf38", func := "loop.example/thingstead/laws.FnCert", spec := "fnCert", inPlace := ["internal/reflectlite.TypeOf"], unfollowed := true, recurses := true, named := ["loop.example/thingstead/impl.errRefused", "loop.example/thingstead/impl.errStale", "loop.example/thingstead/impl.errFailed", "loop.example/thingstead/impl.errAgain", "loop.example/thingstead/impl.errOld", "loop.example/thingstead/impl.errNone"], ifaces := true, plainKeys := false, apart := false, laid := [("loop.example/thingstead/impl.errStale", laid_loop_example_thingstead_impl_errStale), ("loop.example/thingstead/impl.errFailed", laid_loop_example_thingstead_impl_errFailed), ("loop.example/thingstead/impl.errAgain", laid_loop_example_thingstead_impl_errAgain), ("loop.example/thingstead/impl.errOld", laid_loop_example_thingstead_impl_errOld), ("loop.example/thingstead/impl.errNone", laid_loop_example_thingstead_impl_errNone), ("loop.example/thingstead/impl.errRefused", laid_loop_example_thingstead_impl_errRefused)] }
def FnCertSaid : Prop := fnCertRow.holds Tryz.pinned (OpenSpec.ofChange fnCertSpec)

/-- ITS FALSE NEIGHBOUR: 'it returns false'. Refute it at one input. -/
def fnCertWrong : ChangeSpec := { name := "fnCert", vars := ["loop.example/thingstead/impl.errRefused", "loop.example/thingstead/impl.errStale", "loop.example/thingstead/impl.errFailed", "loop.example/thingstead/impl.errAgain", "loop.example/thingstead/impl.errOld", "loop.example/thingstead/impl.errNone"], fn := fun _ => fun
  | [d1, d2, g1, g2, g3, g4, g5, g6] => { results := [.lit (.bool false)], args := [d1, d2], vars := [g1, g2, g3, g4, g5, g6] }
  | _ => none }
def FnCertWrongFalsely : Prop := fnCertRow.holds Tryz.pinned (OpenSpec.ofChange fnCertWrong)

/-- 'laws.FnCertPair': WHATEVER THE INPUT: true; the input reads as it did. -/
def fnCertPairSpec : ChangeSpec := { name := "fnCertPair", vars := ["loop.example/thingstead/impl.errRefused", "loop.example/thingstead/impl.errStale", "loop.example/thingstead/impl.errFailed", "loop.example/thingstead/impl.errAgain", "loop.example/thingstead/impl.errOld", "loop.example/thingstead/impl.errNone"], fn := fun _ => fun
  | [d1, d2, g1, g2, g3, g4, g5, g6] => { results := [.lit (.bool true)], args := [d1, d2], vars := [g1, g2, g3, g4, g5, g6] }
  | _ => none }
def fnCertPairRow : OpenClaim := { program := "ytbecdihfopjlhaagreatdoor", sum := "7a57fbb10f761f12527fba69d99894d49d9815fb165a8cdead4245fb504baf38", func := "loop.example/thingstead/laws.FnCertPair", spec := "fnCertPair", inPlace := ["internal/reflectlite.TypeOf"], unfollowed := true, recurses := true, named := ["loop.example/thingstead/impl.errRefused", "loop.example/thingstead/impl.errStale", "loop.example/thingstead/impl.errFailed", "loop.example/thingstead/impl.errAgain", "loop.example/thingstead/impl.errOld", "loop.example/thingstead/impl.errNone"], ifaces := true, plainKeys := false, apart := false, laid := [("loop.example/thingstead/impl.errStale", laid_loop_example_thingstead_impl_errStale), ("loop.example/thingstead/impl.errFailed", laid_loop_example_thingstead_impl_errFailed), ("loop.example/thingstead/impl.errAgain", laid_loop_example_thingstead_impl_errAgain), ("loop.example/thingstead/impl.errOld", laid_loop_example_thingstead_impl_errOld), ("loop.example/thingstead/impl.errNone", laid_loop_example_thingstead_impl_errNone), ("loop.example/thingstead/impl.errRefused", laid_loop_example_thingstead_impl_errRefused)] }
def FnCertPairSaid : Prop := fnCertPairRow.holds Tryz.pinned (OpenSpec.ofChange fnCertPairSpec)

/-- ITS FALSE NEIGHBOUR: 'it returns false'. Refute it at one input. -/
def fnCertPairWrong : ChangeSpec := { name := "fnCertPair", vars := ["loop.example/thingstead/impl.errRefused", "loop.example/thingstead/impl.errStale", "loop.example/thingstead/impl.errFailed", "loop.example/thingstead/impl.errAgain", "loop.example/thingstead/impl.errOld", "loop.example/thingstead/impl.errNone"], fn := fun _ => fun
  | [d1, d2, g1, g2, g3, g4, g5, g6] => { results := [.lit (.bool false)], args := [d1, d2], vars := [g1, g2, g3, g4, g5, g6] }
  | _ => none }
def FnCertPairWrongFalsely : Prop := fnCertPairRow.holds Tryz.pinned (OpenSpec.ofChange fnCertPairWrong)

/-- 'laws.FnCertBlind': WHATEVER THE INPUT: true; the input reads as it did. -/
def fnCertBlindSpec : ChangeSpec := { name := "fnCertBlind", vars := ["loop.example/thingstead/impl.errRefused", "loop.example/thingstead/impl.errStale", "loop.example/thingstead/impl.errFailed", "loop.example/thingstead/impl.errAgain", "loop.example/thingstead/impl.errOld", "loop.example/thingstead/impl.errNone"], fn := fun _ => fun
  | [d1, d2, g1, g2, g3, g4, g5, g6] => { results := [.lit (.bool true)], args := [d1, d2], vars := [g1, g2, g3, g4, g5, g6] }
  | _ => none }
def fnCertBlindRow : OpenClaim := { program := "ytbecdihfopjlhaagreatdoor", sum := "7a57fbb10f761f12527fba69d99894d49d9815fb165a8cdead4245fb504baf38", func := "loop.example/thingstead/laws.FnCertBlind", spec := "fnCertBlind", inPlace := ["internal/reflectlite.TypeOf"], unfollowed := true, recurses := true, named := ["loop.example/thingstead/impl.errRefused", "loop.example/thingstead/impl.errStale", "loop.example/thingstead/impl.errFailed", "loop.example/thingstead/impl.errAgain", "loop.example/thingstead/impl.errOld", "loop.example/thingstead/impl.errNone"], ifaces := true, plainKeys := false, apart := false, laid := [("loop.example/thingstead/impl.errStale", laid_loop_example_thingstead_impl_errStale), ("loop.example/thingstead/impl.errFailed", laid_loop_example_thingstead_impl_errFailed), ("loop.example/thingstead/impl.errAgain", laid_loop_example_thingstead_impl_errAgain), ("loop.example/thingstead/impl.errOld", laid_loop_example_thingstead_impl_errOld), ("loop.example/thingstead/impl.errNone", laid_loop_example_thingstead_impl_errNone), ("loop.example/thingstead/impl.errRefused", laid_loop_example_thingstead_impl_errRefused)] }
def FnCertBlindSaid : Prop := fnCertBlindRow.holds Tryz.pinned (OpenSpec.ofChange fnCertBlindSpec)

/-- ITS FALSE NEIGHBOUR: 'it returns false'. Refute it at one input. -/
def fnCertBlindWrong : ChangeSpec := { name := "fnCertBlind", vars := ["loop.example/thingstead/impl.errRefused", "loop.example/thingstead/impl.errStale", "loop.example/thingstead/impl.errFailed", "loop.example/thingstead/impl.errAgain", "loop.example/thingstead/impl.errOld", "loop.example/thingstead/impl.errNone"], fn := fun _ => fun
  | [d1, d2, g1, g2, g3, g4, g5, g6] => { results := [.lit (.bool false)], args := [d1, d2], vars := [g1, g2, g3, g4, g5, g6] }
  | _ => none }
def FnCertBlindWrongFalsely : Prop := fnCertBlindRow.holds Tryz.pinned (OpenSpec.ofChange fnCertBlindWrong)

/-- 'laws.FnExactCertApply': WHATEVER THE INPUT: true; the input reads as it did. -/
def fnExactCertApplySpec : ChangeSpec := { name := "fnExactCertApply", vars := ["loop.example/thingstead/impl.errRefused", "loop.example/thingstead/impl.errStale", "loop.example/thingstead/impl.errFailed", "loop.example/thingstead/impl.errAgain", "loop.example/thingstead/impl.errOld", "loop.example/thingstead/impl.errNone"], fn := fun _ => fun
  | [d1, d2, g1, g2, g3, g4, g5, g6] => { results := [.lit (.bool true)], args := [d1, d2], vars := [g1, g2, g3, g4, g5, g6] }
  | _ => none }
def fnExactCertApplyRow : OpenClaim := { program := "ytbecdihfopjlhaagreatdoor", sum := "7a57fbb10f761f12527fba69d99894d49d9815fb165a8cdead4245fb504baf38", func := "loop.example/thingstead/laws.FnExactCertApply", spec := "fnExactCertApply", inPlace := ["internal/reflectlite.TypeOf"], unfollowed := true, recurses := true, named := ["loop.example/thingstead/impl.errRefused", "loop.example/thingstead/impl.errStale", "loop.example/thingstead/impl.errFailed", "loop.example/thingstead/impl.errAgain", "loop.example/thingstead/impl.errOld", "loop.example/thingstead/impl.errNone"], ifaces := true, plainKeys := false, apart := false, laid := [("loop.example/thingstead/impl.errStale", laid_loop_example_thingstead_impl_errStale), ("loop.example/thingstead/impl.errFailed", laid_loop_example_thingstead_impl_errFailed), ("loop.example/thingstead/impl.errAgain", laid_loop_example_thingstead_impl_errAgain), ("loop.example/thingstead/impl.errOld", laid_loop_example_thingstead_impl_errOld), ("loop.example/thingstead/impl.errNone", laid_loop_example_thingstead_impl_errNone), ("loop.example/thingstead/impl.errRefused", laid_loop_example_thingstead_impl_errRefused)] }
def FnExactCertApplySaid : Prop := fnExactCertApplyRow.holds Tryz.pinned (OpenSpec.ofChange fnExactCertApplySpec)

/-- ITS FALSE NEIGHBOUR: 'it returns false'. Refute it at one input. -/
def fnExactCertApplyWrong : ChangeSpec := { name := "fnExactCertApply", vars := ["loop.example/thingstead/impl.errRefused", "loop.example/thingstead/impl.errStale", "loop.example/thingstead/impl.errFailed", "loop.example/thingstead/impl.errAgain", "loop.example/thingstead/impl.errOld", "loop.example/thingstead/impl.errNone"], fn := fun _ => fun
  | [d1, d2, g1, g2, g3, g4, g5, g6] => { results := [.lit (.bool false)], args := [d1, d2], vars := [g1, g2, g3, g4, g5, g6] }
  | _ => none }
def FnExactCertApplyWrongFalsely : Prop := fnExactCertApplyRow.holds Tryz.pinned (OpenSpec.ofChange fnExactCertApplyWrong)

/-- 'laws.FnExactCertFold': WHATEVER THE INPUT: true; the input reads as it did. -/
def fnExactCertFoldSpec : ChangeSpec := { name := "fnExactCertFold", vars := ["loop.example/thingstead/impl.errRefused"], fn := fun _ => fun
  | [d, g1] => { results := [.lit (.bool true)], args := [d], vars := [g1] }
  | _ => none }
def fnExactCertFoldRow : OpenClaim := { program := "ytbecdihfopjlhaagreatdoor", sum := "7a57fbb10f761f12527fba69d99894d49d9815fb165a8cdead4245fb504baf38", func := "loop.example/thingstead/laws.FnExactCertFold", spec := "fnExactCertFold", inPlace := ["internal/reflectlite.TypeOf"], unfollowed := true, recurses := true, named := ["loop.example/thingstead/impl.errRefused"], ifaces := true, plainKeys := false, apart := false, laid := [("loop.example/thingstead/impl.errRefused", laid_loop_example_thingstead_impl_errRefused)] }
def FnExactCertFoldSaid : Prop := fnExactCertFoldRow.holds Tryz.pinned (OpenSpec.ofChange fnExactCertFoldSpec)

/-- ITS FALSE NEIGHBOUR: 'it returns false'. Refute it at one input. -/
def fnExactCertFoldWrong : ChangeSpec := { name := "fnExactCertFold", vars := ["loop.example/thingstead/impl.errRefused"], fn := fun _ => fun
  | [d, g1] => { results := [.lit (.bool false)], args := [d], vars := [g1] }
  | _ => none }
def FnExactCertFoldWrongFalsely : Prop := fnExactCertFoldRow.holds Tryz.pinned (OpenSpec.ofChange fnExactCertFoldWrong)

/- THE SECOND FORM. 'bulk': how many values and letters a reading holds, each counted each time it is reached (what is shared counts as often as it is met; a slice's spare places count too). A statement '..UptoSaid' is the law's where the arguments, and the package variables that the reading takes, are together of bulk at most 1048576: NARROWER than '..Said'. Prove '..Said' where nothing that the law and all that it calls make is longer than what came in: it says more and counts as full. Else prove '..UptoSaid'. A law counts once. -/
mutual
def uptoBulk {H : Type} : DataW H → Nat
  | .lit (.string bytes) => bytes.length + 1
  | .lit _ => 1
  | .nil => 1
  | .ptr d => uptoBulk d + 1
  | .slice elems spare => uptoBulkAll elems + uptoBulkAll spare + 1
  | .agg parts => uptoBulkAll parts + 1
  | .iface _ d => uptoBulk d + 1
  | .map entries => uptoBulkEntries entries + 1
  | .held _ => 1
def uptoBulkAll {H : Type} : List (DataW H) → Nat
  | [] => 0
  | d :: r => uptoBulk d + uptoBulkAll r
def uptoBulkEntries {H : Type} : List (Lit × DataW H) → Nat
  | [] => 0
  | x :: r => uptoBulkEntry x + uptoBulkEntries r
def uptoBulkEntry {H : Type} : Lit × DataW H → Nat
  | (.string bytes, d) => bytes.length + uptoBulk d + 1
  | (_, d) => uptoBulk d + 1
 end
def uptoSmall : (H : Type) → List (DataW H) → Bool := fun _ ds => decide (uptoBulkAll ds ≤ 1048576)
def OpenSpec.upto (s : _root_.Go.ChangeSpec) : _root_.Go.OpenSpec := { _root_.Go.OpenSpec.ofChange s with cond := some uptoSmall }

/-- 'laws.FnCert', WHERE WHAT IT READS IS OF BULK AT MOST 1048576: true; the input reads as it did. -/
def fnCertUptoRow : OpenClaim := { program := "ytbecdihfopjlhaagreatdoor", sum := "7a57fbb10f761f12527fba69d99894d49d9815fb165a8cdead4245fb504baf38", func := "loop.example/thingstead/laws.FnCert", spec := "fnCert", inPlace := ["internal/reflectlite.TypeOf"], unfollowed := true, recurses := true, named := ["loop.example/thingstead/impl.errRefused", "loop.example/thingstead/impl.errStale", "loop.example/thingstead/impl.errFailed", "loop.example/thingstead/impl.errAgain", "loop.example/thingstead/impl.errOld", "loop.example/thingstead/impl.errNone"], ifaces := true, plainKeys := false, apart := false, laid := [("loop.example/thingstead/impl.errStale", laid_loop_example_thingstead_impl_errStale), ("loop.example/thingstead/impl.errFailed", laid_loop_example_thingstead_impl_errFailed), ("loop.example/thingstead/impl.errAgain", laid_loop_example_thingstead_impl_errAgain), ("loop.example/thingstead/impl.errOld", laid_loop_example_thingstead_impl_errOld), ("loop.example/thingstead/impl.errNone", laid_loop_example_thingstead_impl_errNone), ("loop.example/thingstead/impl.errRefused", laid_loop_example_thingstead_impl_errRefused)], narrowed := true }
def FnCertUptoSaid : Prop := fnCertUptoRow.holds Tryz.pinned (OpenSpec.upto fnCertSpec)

/-- 'laws.FnCertPair', WHERE WHAT IT READS IS OF BULK AT MOST 1048576: true; the input reads as it did. -/
def fnCertPairUptoRow : OpenClaim := { program := "ytbecdihfopjlhaagreatdoor", sum := "7a57fbb10f761f12527fba69d99894d49d9815fb165a8cdead4245fb504baf38", func := "loop.example/thingstead/laws.FnCertPair", spec := "fnCertPair", inPlace := ["internal/reflectlite.TypeOf"], unfollowed := true, recurses := true, named := ["loop.example/thingstead/impl.errRefused", "loop.example/thingstead/impl.errStale", "loop.example/thingstead/impl.errFailed", "loop.example/thingstead/impl.errAgain", "loop.example/thingstead/impl.errOld", "loop.example/thingstead/impl.errNone"], ifaces := true, plainKeys := false, apart := false, laid := [("loop.example/thingstead/impl.errStale", laid_loop_example_thingstead_impl_errStale), ("loop.example/thingstead/impl.errFailed", laid_loop_example_thingstead_impl_errFailed), ("loop.example/thingstead/impl.errAgain", laid_loop_example_thingstead_impl_errAgain), ("loop.example/thingstead/impl.errOld", laid_loop_example_thingstead_impl_errOld), ("loop.example/thingstead/impl.errNone", laid_loop_example_thingstead_impl_errNone), ("loop.example/thingstead/impl.errRefused", laid_loop_example_thingstead_impl_errRefused)], narrowed := true }
def FnCertPairUptoSaid : Prop := fnCertPairUptoRow.holds Tryz.pinned (OpenSpec.upto fnCertPairSpec)

/-- 'laws.FnCertBlind', WHERE WHAT IT READS IS OF BULK AT MOST 1048576: true; the input reads as it did. -/
def fnCertBlindUptoRow : OpenClaim := { program := "ytbecdihfopjlhaagreatdoor", sum := "7a57fbb10f761f12527fba69d99894d49d9815fb165a8cdead4245fb504baf38", func := "loop.example/thingstead/laws.FnCertBlind", spec := "fnCertBlind", inPlace := ["internal/reflectlite.TypeOf"], unfollowed := true, recurses := true, named := ["loop.example/thingstead/impl.errRefused", "loop.example/thingstead/impl.errStale", "loop.example/thingstead/impl.errFailed", "loop.example/thingstead/impl.errAgain", "loop.example/thingstead/impl.errOld", "loop.example/thingstead/impl.errNone"], ifaces := true, plainKeys := false, apart := false, laid := [("loop.example/thingstead/impl.errStale", laid_loop_example_thingstead_impl_errStale), ("loop.example/thingstead/impl.errFailed", laid_loop_example_thingstead_impl_errFailed), ("loop.example/thingstead/impl.errAgain", laid_loop_example_thingstead_impl_errAgain), ("loop.example/thingstead/impl.errOld", laid_loop_example_thingstead_impl_errOld), ("loop.example/thingstead/impl.errNone", laid_loop_example_thingstead_impl_errNone), ("loop.example/thingstead/impl.errRefused", laid_loop_example_thingstead_impl_errRefused)], narrowed := true }
def FnCertBlindUptoSaid : Prop := fnCertBlindUptoRow.holds Tryz.pinned (OpenSpec.upto fnCertBlindSpec)

/-- 'laws.FnExactCertApply', WHERE WHAT IT READS IS OF BULK AT MOST 1048576: true; the input reads as it did. -/
def fnExactCertApplyUptoRow : OpenClaim := { program := "ytbecdihfopjlhaagreatdoor", sum := "7a57fbb10f761f12527fba69d99894d49d9815fb165a8cdead4245fb504baf38", func := "loop.example/thingstead/laws.FnExactCertApply", spec := "fnExactCertApply", inPlace := ["internal/reflectlite.TypeOf"], unfollowed := true, recurses := true, named := ["loop.example/thingstead/impl.errRefused", "loop.example/thingstead/impl.errStale", "loop.example/thingstead/impl.errFailed", "loop.example/thingstead/impl.errAgain", "loop.example/thingstead/impl.errOld", "loop.example/thingstead/impl.errNone"], ifaces := true, plainKeys := false, apart := false, laid := [("loop.example/thingstead/impl.errStale", laid_loop_example_thingstead_impl_errStale), ("loop.example/thingstead/impl.errFailed", laid_loop_example_thingstead_impl_errFailed), ("loop.example/thingstead/impl.errAgain", laid_loop_example_thingstead_impl_errAgain), ("loop.example/thingstead/impl.errOld", laid_loop_example_thingstead_impl_errOld), ("loop.example/thingstead/impl.errNone", laid_loop_example_thingstead_impl_errNone), ("loop.example/thingstead/impl.errRefused", laid_loop_example_thingstead_impl_errRefused)], narrowed := true }
def FnExactCertApplyUptoSaid : Prop := fnExactCertApplyUptoRow.holds Tryz.pinned (OpenSpec.upto fnExactCertApplySpec)

/-- 'laws.FnExactCertFold', WHERE WHAT IT READS IS OF BULK AT MOST 1048576: true; the input reads as it did. -/
def fnExactCertFoldUptoRow : OpenClaim := { program := "ytbecdihfopjlhaagreatdoor", sum := "7a57fbb10f761f12527fba69d99894d49d9815fb165a8cdead4245fb504baf38", func := "loop.example/thingstead/laws.FnExactCertFold", spec := "fnExactCertFold", inPlace := ["internal/reflectlite.TypeOf"], unfollowed := true, recurses := true, named := ["loop.example/thingstead/impl.errRefused"], ifaces := true, plainKeys := false, apart := false, laid := [("loop.example/thingstead/impl.errRefused", laid_loop_example_thingstead_impl_errRefused)], narrowed := true }
def FnExactCertFoldUptoSaid : Prop := fnExactCertFoldUptoRow.holds Tryz.pinned (OpenSpec.upto fnExactCertFoldSpec)

end Rows
end Go.Proofs.YtbecdihfopjlhaaGreatDoor

/-
  NARROWER THAN 'FOR EVERY INPUT', by the rows' own cells (each row's printed sentence says how): FnCertApply: ifaces, laid · FnCertLike: ifaces, laid · FnCertFull: ifaces, laid · FnCertLater: ifaces, laid · FnMsgEntry: laid.
  DERIVED. THE GIVEN ROWS OF THIS SEAT. 5 by the template 'for every input the law returns true; each argument reads behind the call as it read before'; 0 by the template 'total and deterministic' (their statements: YtokbakphfodabaaDoorTotals.lean).
  GIVEN WITH THE SEED: the statements are not yours to turn. If you find one false, say at which input.
  Laid BY PROGRAM, IN A SANDBOX (cutbox-rows.mjs): the forced cells as the released guide's own fill.sh prints them over the translation ca935bd30b4a7d01… (all of the seat's roots in one cut). By AI agents, Wed Nov 11 2026. No macro, syntax, notation, axiom, sorry.
-/
import Derived.Test.YtokbakphfodabaaDoorChecked
import GoSem.Claim
import GoSem.ClaimJoined
import GoSem.ClaimMapViews
import Derived.JoinedTies
import Derived.KernelRfl
namespace Go.Proofs.YtokbakphfodabaaDoor
/- THE CELL 'sum', in the pinned program and in every row, IS THE sha256 OF THE DUMP (.gsa) THAT YtokbakphfodabaaDoorProg.lean LOADS. Nothing in Lean hashes anything: it is a label: what it is worth is what the hold of that sum in a sandbox is worth. -/
noncomputable def Tryd.pinned : Pinned := { name := "ytokbakphfodabaadoor", sum := "ca935bd30b4a7d01eb5460d2d8a797b015dab361730654b1e4e418f036fad021", checked := Tryd.checked }
namespace Rows
def none {H : Type} : Left H := { results := [], args := [] }

/- WHAT THE LISTED PACKAGE-LEVEL VARIABLES READ AS WHEN THE CALL BEGINS. Each datum BY PROGRAM (the guide's laid-datum.mjs) off the statement by which the dump's own 'gosem.cut.vars' lays the variable. In a bare row this is a premise. The card (YtokbakphfodabaaDoorCards.lean) ties it to the program's text. -/
def laid_loop_example_thingstead_impl_errStale {H : Type} : DataW H := .iface "*errors.errorString" (.ptr (.agg [.lit (.string [97, 32, 98, 111, 120, 32, 116, 104, 97, 116, 32, 105, 116, 32, 108, 111, 111, 107, 101, 100, 32, 105, 110, 116, 111, 32, 119, 97, 115, 32, 112, 117, 116, 32, 105, 110, 116, 111, 32, 115, 105, 110, 99, 101])]))
def laid_loop_example_thingstead_impl_errFailed {H : Type} : DataW H := .iface "*errors.errorString" (.ptr (.agg [.lit (.string [105, 116, 115, 32, 112, 114, 111, 103, 114, 97, 109, 32, 100, 105, 100, 32, 110, 111, 116, 32, 101, 110, 100, 32, 119, 101, 108, 108])]))
def laid_loop_example_thingstead_impl_errAgain {H : Type} : DataW H := .iface "*errors.errorString" (.ptr (.agg [.lit (.string [105, 116, 32, 105, 115, 32, 116, 104, 101, 32, 108, 97, 115, 116, 32, 114, 101, 113, 117, 101, 115, 116, 32, 111, 102, 32, 105, 116, 115, 32, 110, 111, 100, 101, 32, 97, 108, 114, 101, 97, 100, 121])]))
def laid_loop_example_thingstead_impl_errOld {H : Type} : DataW H := .iface "*errors.errorString" (.ptr (.agg [.lit (.string [105, 116, 115, 32, 110, 111, 100, 101, 32, 104, 97, 115, 32, 97, 32, 108, 97, 116, 101, 114, 32, 114, 101, 113, 117, 101, 115, 116])]))
def laid_loop_example_thingstead_impl_errNone {H : Type} : DataW H := .iface "*errors.errorString" (.ptr (.agg [.lit (.string [116, 104, 101, 114, 101, 32, 105, 115, 32, 110, 111, 32, 114, 101, 113, 117, 101, 115, 116])]))
def laid_loop_example_thingstead_impl_errRefused {H : Type} : DataW H := .iface "*errors.errorString" (.ptr (.agg [.lit (.string [105, 116, 32, 109, 97, 121, 32, 110, 111, 116, 32, 115, 116, 97, 110, 100, 32, 116, 104, 101, 114, 101])]))
def laid_math_bits_deBruijn32tab {H : Type} : DataW H := .agg [.lit (.int .u8 0), .lit (.int .u8 1), .lit (.int .u8 28), .lit (.int .u8 2), .lit (.int .u8 29), .lit (.int .u8 14), .lit (.int .u8 24), .lit (.int .u8 3), .lit (.int .u8 30), .lit (.int .u8 22), .lit (.int .u8 20), .lit (.int .u8 15), .lit (.int .u8 25), .lit (.int .u8 17), .lit (.int .u8 4), .lit (.int .u8 8), .lit (.int .u8 31), .lit (.int .u8 27), .lit (.int .u8 13), .lit (.int .u8 23), .lit (.int .u8 21), .lit (.int .u8 19), .lit (.int .u8 16), .lit (.int .u8 7), .lit (.int .u8 26), .lit (.int .u8 12), .lit (.int .u8 18), .lit (.int .u8 6), .lit (.int .u8 11), .lit (.int .u8 5), .lit (.int .u8 10), .lit (.int .u8 9)]
def laid_math_bits_deBruijn64tab {H : Type} : DataW H := .agg [.lit (.int .u8 0), .lit (.int .u8 1), .lit (.int .u8 56), .lit (.int .u8 2), .lit (.int .u8 57), .lit (.int .u8 49), .lit (.int .u8 28), .lit (.int .u8 3), .lit (.int .u8 61), .lit (.int .u8 58), .lit (.int .u8 42), .lit (.int .u8 50), .lit (.int .u8 38), .lit (.int .u8 29), .lit (.int .u8 17), .lit (.int .u8 4), .lit (.int .u8 62), .lit (.int .u8 47), .lit (.int .u8 59), .lit (.int .u8 36), .lit (.int .u8 45), .lit (.int .u8 43), .lit (.int .u8 51), .lit (.int .u8 22), .lit (.int .u8 53), .lit (.int .u8 39), .lit (.int .u8 33), .lit (.int .u8 30), .lit (.int .u8 24), .lit (.int .u8 18), .lit (.int .u8 12), .lit (.int .u8 5), .lit (.int .u8 63), .lit (.int .u8 55), .lit (.int .u8 48), .lit (.int .u8 27), .lit (.int .u8 60), .lit (.int .u8 41), .lit (.int .u8 37), .lit (.int .u8 16), .lit (.int .u8 46), .lit (.int .u8 35), .lit (.int .u8 44), .lit (.int .u8 21), .lit (.int .u8 52), .lit (.int .u8 32), .lit (.int .u8 23), .lit (.int .u8 11), .lit (.int .u8 54), .lit (.int .u8 26), .lit (.int .u8 40), .lit (.int .u8 15), .lit (.int .u8 34), .lit (.int .u8 20), .lit (.int .u8 31), .lit (.int .u8 10), .lit (.int .u8 25), .lit (.int .u8 14), .lit (.int .u8 19), .lit (.int .u8 9), .lit (.int .u8 13), .lit (.int .u8 8), .lit (.int .u8 7), .lit (.int .u8 6)]
def laid_internal_strconv_uint64pow10 {H : Type} : DataW H := .agg [.lit (.int .u64 1), .lit (.int .u64 10), .lit (.int .u64 100), .lit (.int .u64 1000), .lit (.int .u64 10000), .lit (.int .u64 100000), .lit (.int .u64 1000000), .lit (.int .u64 10000000), .lit (.int .u64 100000000), .lit (.int .u64 1000000000), .lit (.int .u64 10000000000), .lit (.int .u64 100000000000), .lit (.int .u64 1000000000000), .lit (.int .u64 10000000000000), .lit (.int .u64 100000000000000), .lit (.int .u64 1000000000000000), .lit (.int .u64 10000000000000000), .lit (.int .u64 100000000000000000), .lit (.int .u64 1000000000000000000), .lit (.int .u64 10000000000000000000)]

/-- 'laws.FnCertApply': WHATEVER THE INPUT: true; the input reads as it did. -/
def fnCertApplySpec : ChangeSpec := { name := "fnCertApply", vars := ["loop.example/thingstead/impl.errRefused", "loop.example/thingstead/impl.errStale", "loop.example/thingstead/impl.errFailed", "loop.example/thingstead/impl.errAgain", "loop.example/thingstead/impl.errOld", "loop.example/thingstead/impl.errNone"], fn := fun _ => fun
  | [d, g1, g2, g3, g4, g5, g6] => { results := [.lit (.bool true)], args := [d], vars := [g1, g2, g3, g4, g5, g6] }
  | _ => none }
def fnCertApplyRow : OpenClaim := { program := "ytokbakphfodabaadoor", sum := "ca935bd30b4a7d01eb5460d2d8a797b015dab361730654b1e4e418f036fad021", func := "loop.example/thingstead/laws.FnCertApply", spec := "fnCertApply", inPlace := ["internal/reflectlite.TypeOf"], unfollowed := true, recurses := true, named := ["loop.example/thingstead/impl.errRefused", "loop.example/thingstead/impl.errStale", "loop.example/thingstead/impl.errFailed", "loop.example/thingstead/impl.errAgain", "loop.example/thingstead/impl.errOld", "loop.example/thingstead/impl.errNone"], ifaces := true, plainKeys := false, apart := false, laid := [("loop.example/thingstead/impl.errStale", laid_loop_example_thingstead_impl_errStale), ("loop.example/thingstead/impl.errFailed", laid_loop_example_thingstead_impl_errFailed), ("loop.example/thingstead/impl.errAgain", laid_loop_example_thingstead_impl_errAgain), ("loop.example/thingstead/impl.errOld", laid_loop_example_thingstead_impl_errOld), ("loop.example/thingstead/impl.errNone", laid_loop_example_thingstead_impl_errNone), ("loop.example/thingstead/impl.errRefused", laid_loop_example_thingstead_impl_errRefused)] }
def FnCertApplySaid : Prop := fnCertApplyRow.holds Tryd.pinned (OpenSpec.ofChange fnCertApplySpec)

/-- ITS FALSE NEIGHBOUR: 'it returns false'. Refute it at one input. -/
def fnCertApplyWrong : ChangeSpec := { name := "fnCertApply", vars := ["loop.example/thingstead/impl.errRefused", "loop.example/thingstead/impl.errStale", "loop.example/thingstead/impl.errFailed", "loop.example/thingstead/impl.errAgain", "loop.example/thingstead/impl.errOld", "loop.example/thingstead/impl.errNone"], fn := fun _ => fun
  | [d, g1, g2, g3, g4, g5, g6] => { results := [.lit (.bool false)], args := [d], vars := [g1, g2, g3, g4, g5, g6] }
  | _ => none }
def FnCertApplyWrongFalsely : Prop := fnCertApplyRow.holds Tryd.pinned (OpenSpec.ofChange fnCertApplyWrong)

/-- 'laws.FnCertLike': WHATEVER THE INPUT: true; the input reads as it did. -/
def fnCertLikeSpec : ChangeSpec := { name := "fnCertLike", vars := ["loop.example/thingstead/impl.errRefused"], fn := fun _ => fun
  | [d, g1] => { results := [.lit (.bool true)], args := [d], vars := [g1] }
  | _ => none }
def fnCertLikeRow : OpenClaim := { program := "ytokbakphfodabaadoor", sum := "ca935bd30b4a7d01eb5460d2d8a797b015dab361730654b1e4e418f036fad021", func := "loop.example/thingstead/laws.FnCertLike", spec := "fnCertLike", inPlace := ["internal/reflectlite.TypeOf"], unfollowed := true, recurses := true, named := ["loop.example/thingstead/impl.errRefused"], ifaces := true, plainKeys := false, apart := false, laid := [("loop.example/thingstead/impl.errRefused", laid_loop_example_thingstead_impl_errRefused)] }
def FnCertLikeSaid : Prop := fnCertLikeRow.holds Tryd.pinned (OpenSpec.ofChange fnCertLikeSpec)

/-- ITS FALSE NEIGHBOUR: 'it returns false'. Refute it at one input. -/
def fnCertLikeWrong : ChangeSpec := { name := "fnCertLike", vars := ["loop.example/thingstead/impl.errRefused"], fn := fun _ => fun
  | [d, g1] => { results := [.lit (.bool false)], args := [d], vars := [g1] }
  | _ => none }
def FnCertLikeWrongFalsely : Prop := fnCertLikeRow.holds Tryd.pinned (OpenSpec.ofChange fnCertLikeWrong)

/-- 'laws.FnCertFull': WHATEVER THE INPUT: true; the input reads as it did. -/
def fnCertFullSpec : ChangeSpec := { name := "fnCertFull", vars := ["loop.example/thingstead/impl.errRefused", "loop.example/thingstead/impl.errStale", "loop.example/thingstead/impl.errFailed", "loop.example/thingstead/impl.errAgain", "loop.example/thingstead/impl.errOld", "loop.example/thingstead/impl.errNone"], fn := fun _ => fun
  | [d, g1, g2, g3, g4, g5, g6] => { results := [.lit (.bool true)], args := [d], vars := [g1, g2, g3, g4, g5, g6] }
  | _ => none }
def fnCertFullRow : OpenClaim := { program := "ytokbakphfodabaadoor", sum := "ca935bd30b4a7d01eb5460d2d8a797b015dab361730654b1e4e418f036fad021", func := "loop.example/thingstead/laws.FnCertFull", spec := "fnCertFull", inPlace := ["internal/reflectlite.TypeOf"], unfollowed := true, recurses := true, named := ["loop.example/thingstead/impl.errRefused", "loop.example/thingstead/impl.errStale", "loop.example/thingstead/impl.errFailed", "loop.example/thingstead/impl.errAgain", "loop.example/thingstead/impl.errOld", "loop.example/thingstead/impl.errNone"], ifaces := true, plainKeys := false, apart := false, laid := [("loop.example/thingstead/impl.errStale", laid_loop_example_thingstead_impl_errStale), ("loop.example/thingstead/impl.errFailed", laid_loop_example_thingstead_impl_errFailed), ("loop.example/thingstead/impl.errAgain", laid_loop_example_thingstead_impl_errAgain), ("loop.example/thingstead/impl.errOld", laid_loop_example_thingstead_impl_errOld), ("loop.example/thingstead/impl.errNone", laid_loop_example_thingstead_impl_errNone), ("loop.example/thingstead/impl.errRefused", laid_loop_example_thingstead_impl_errRefused)] }
def FnCertFullSaid : Prop := fnCertFullRow.holds Tryd.pinned (OpenSpec.ofChange fnCertFullSpec)

/-- ITS FALSE NEIGHBOUR: 'it returns false'. Refute it at one input. -/
def fnCertFullWrong : ChangeSpec := { name := "fnCertFull", vars := ["loop.example/thingstead/impl.errRefused", "loop.example/thingstead/impl.errStale", "loop.example/thingstead/impl.errFailed", "loop.example/thingstead/impl.errAgain", "loop.example/thingstead/impl.errOld", "loop.example/thingstead/impl.errNone"], fn := fun _ => fun
  | [d, g1, g2, g3, g4, g5, g6] => { results := [.lit (.bool false)], args := [d], vars := [g1, g2, g3, g4, g5, g6] }
  | _ => none }
def FnCertFullWrongFalsely : Prop := fnCertFullRow.holds Tryd.pinned (OpenSpec.ofChange fnCertFullWrong)

/-- 'laws.FnCertLater': WHATEVER THE INPUT: true; the input reads as it did. -/
def fnCertLaterSpec : ChangeSpec := { name := "fnCertLater", vars := ["loop.example/thingstead/impl.errRefused", "loop.example/thingstead/impl.errStale", "loop.example/thingstead/impl.errFailed", "loop.example/thingstead/impl.errAgain", "loop.example/thingstead/impl.errOld", "loop.example/thingstead/impl.errNone"], fn := fun _ => fun
  | [d1, d2, g1, g2, g3, g4, g5, g6] => { results := [.lit (.bool true)], args := [d1, d2], vars := [g1, g2, g3, g4, g5, g6] }
  | _ => none }
def fnCertLaterRow : OpenClaim := { program := "ytokbakphfodabaadoor", sum := "ca935bd30b4a7d01eb5460d2d8a797b015dab361730654b1e4e418f036fad021", func := "loop.example/thingstead/laws.FnCertLater", spec := "fnCertLater", inPlace := ["internal/reflectlite.TypeOf"], unfollowed := true, recurses := true, named := ["loop.example/thingstead/impl.errRefused", "loop.example/thingstead/impl.errStale", "loop.example/thingstead/impl.errFailed", "loop.example/thingstead/impl.errAgain", "loop.example/thingstead/impl.errOld", "loop.example/thingstead/impl.errNone"], ifaces := true, plainKeys := false, apart := false, laid := [("loop.example/thingstead/impl.errStale", laid_loop_example_thingstead_impl_errStale), ("loop.example/thingstead/impl.errFailed", laid_loop_example_thingstead_impl_errFailed), ("loop.example/thingstead/impl.errAgain", laid_loop_example_thingstead_impl_errAgain), ("loop.example/thingstead/impl.errOld", laid_loop_example_thingstead_impl_errOld), ("loop.example/thingstead/impl.errNone", laid_loop_example_thingstead_impl_errNone), ("loop.example/thingstead/impl.errRefused", laid_loop_example_thingstead_impl_errRefused)] }
def FnCertLaterSaid : Prop := fnCertLaterRow.holds Tryd.pinned (OpenSpec.ofChange fnCertLaterSpec)

/-- ITS FALSE NEIGHBOUR: 'it returns false'. Refute it at one input. -/
def fnCertLaterWrong : ChangeSpec := { name := "fnCertLater", vars := ["loop.example/thingstead/impl.errRefused", "loop.example/thingstead/impl.errStale", "loop.example/thingstead/impl.errFailed", "loop.example/thingstead/impl.errAgain", "loop.example/thingstead/impl.errOld", "loop.example/thingstead/impl.errNone"], fn := fun _ => fun
  | [d1, d2, g1, g2, g3, g4, g5, g6] => { results := [.lit (.bool false)], args := [d1, d2], vars := [g1, g2, g3, g4, g5, g6] }
  | _ => none }
def FnCertLaterWrongFalsely : Prop := fnCertLaterRow.holds Tryd.pinned (OpenSpec.ofChange fnCertLaterWrong)

/-- 'laws.FnMsgEntry': WHATEVER THE INPUT: true; the input reads as it did. -/
def fnMsgEntrySpec : ChangeSpec := { name := "fnMsgEntry", fn := fun _ => fun
  | [d1, d2] => { results := [.lit (.bool true)], args := [d1, d2] }
  | _ => none }
def fnMsgEntryRow : OpenClaim := { program := "ytokbakphfodabaadoor", sum := "ca935bd30b4a7d01eb5460d2d8a797b015dab361730654b1e4e418f036fad021", func := "loop.example/thingstead/laws.FnMsgEntry", spec := "fnMsgEntry", inPlace := ["internal/abi.NoEscape"], recurses := true, named := ["internal/strconv.uint64pow10", "math/bits.deBruijn32tab", "math/bits.deBruijn64tab"], plainKeys := false, apart := false, laid := [("math/bits.deBruijn32tab", laid_math_bits_deBruijn32tab), ("math/bits.deBruijn64tab", laid_math_bits_deBruijn64tab), ("internal/strconv.uint64pow10", laid_internal_strconv_uint64pow10)] }
def FnMsgEntrySaid : Prop := fnMsgEntryRow.holds Tryd.pinned (OpenSpec.ofChange fnMsgEntrySpec)

/-- ITS FALSE NEIGHBOUR: 'it returns false'. Refute it at one input. -/
def fnMsgEntryWrong : ChangeSpec := { name := "fnMsgEntry", fn := fun _ => fun
  | [d1, d2] => { results := [.lit (.bool false)], args := [d1, d2] }
  | _ => none }
def FnMsgEntryWrongFalsely : Prop := fnMsgEntryRow.holds Tryd.pinned (OpenSpec.ofChange fnMsgEntryWrong)

/- THE SECOND FORM. 'bulk': how many values and letters a reading holds, each counted each time it is reached (what is shared counts as often as it is met; a slice's spare places count too). A statement '..UptoSaid' is the law's where the arguments, and the package variables that the reading takes, are together of bulk at most 1048576: NARROWER than '..Said'. Prove '..Said' where nothing that the law and all that it calls make is longer than what came in: it says more and counts as full. Else prove '..UptoSaid'. A law counts once. -/
mutual
def uptoBulk {H : Type} : DataW H → Nat
  | .lit (.string bytes) => bytes.length + 1
  | .lit _ => 1
  | .nil => 1
  | .ptr d => uptoBulk d + 1
  | .slice elems spare => uptoBulkAll elems + uptoBulkAll spare + 1
  | .agg parts => uptoBulkAll parts + 1
  | .iface _ d => uptoBulk d + 1
  | .map entries => uptoBulkEntries entries + 1
  | .held _ => 1
def uptoBulkAll {H : Type} : List (DataW H) → Nat
  | [] => 0
  | d :: r => uptoBulk d + uptoBulkAll r
def uptoBulkEntries {H : Type} : List (Lit × DataW H) → Nat
  | [] => 0
  | x :: r => uptoBulkEntry x + uptoBulkEntries r
def uptoBulkEntry {H : Type} : Lit × DataW H → Nat
  | (.string bytes, d) => bytes.length + uptoBulk d + 1
  | (_, d) => uptoBulk d + 1
 end
def uptoSmall : (H : Type) → List (DataW H) → Bool := fun _ ds => decide (uptoBulkAll ds ≤ 1048576)
def OpenSpec.upto (s : _root_.Go.ChangeSpec) : _root_.Go.OpenSpec := { _root_.Go.OpenSpec.ofChange s with cond := some uptoSmall }

/-- 'laws.FnCertApply', WHERE WHAT IT READS IS OF BULK AT MOST 1048576: true; the input reads as it did. -/
def fnCertApplyUptoRow : OpenClaim := { program := "ytokbakphfodabaadoor", sum := "ca935bd30b4a7d01eb5460d2d8a797b015dab361730654b1e4e418f036fad021", func := "loop.example/thingstead/laws.FnCertApply", spec := "fnCertApply", inPlace := ["internal/reflectlite.TypeOf"], unfollowed := true, recurses := true, named := ["loop.example/thingstead/impl.errRefused", "loop.example/thingstead/impl.errStale", "loop.example/thingstead/impl.errFailed", "loop.example/thingstead/impl.errAgain", "loop.example/thingstead/impl.errOld", "loop.example/thingstead/impl.errNone"], ifaces := true, plainKeys := false, apart := false, laid := [("loop.example/thingstead/impl.errStale", laid_loop_example_thingstead_impl_errStale), ("loop.example/thingstead/impl.errFailed", laid_loop_example_thingstead_impl_errFailed), ("loop.example/thingstead/impl.errAgain", laid_loop_example_thingstead_impl_errAgain), ("loop.example/thingstead/impl.errOld", laid_loop_example_thingstead_impl_errOld), ("loop.example/thingstead/impl.errNone", laid_loop_example_thingstead_impl_errNone), ("loop.example/thingstead/impl.errRefused", laid_loop_example_thingstead_impl_errRefused)], narrowed := true }
def FnCertApplyUptoSaid : Prop := fnCertApplyUptoRow.holds Tryd.pinned (OpenSpec.upto fnCertApplySpec)

/-- 'laws.FnCertLike', WHERE WHAT IT READS IS OF BULK AT MOST 1048576: true; the input reads as it did. -/
def fnCertLikeUptoRow : OpenClaim := { program := "ytokbakphfodabaadoor", sum := "ca935bd30b4a7d01eb5460d2d8a797b015dab361730654b1e4e418f036fad021", func := "loop.example/thingstead/laws.FnCertLike", spec := "fnCertLike", inPlace := ["internal/reflectlite.TypeOf"], unfollowed := true, recurses := true, named := ["loop.example/thingstead/impl.errRefused"], ifaces := true, plainKeys := false, apart := false, laid := [("loop.example/thingstead/impl.errRefused", laid_loop_example_thingstead_impl_errRefused)], narrowed := true }
def FnCertLikeUptoSaid : Prop := fnCertLikeUptoRow.holds Tryd.pinned (OpenSpec.upto fnCertLikeSpec)

/-- 'laws.FnCertFull', WHERE WHAT IT READS IS OF BULK AT MOST 1048576: true; the input reads as it did. -/
def fnCertFullUptoRow : OpenClaim := { program := "ytokbakphfodabaadoor", sum := "ca935bd30b4a7d01eb5460d2d8a797b015dab361730654b1e4e418f036fad021", func := "loop.example/thingstead/laws.FnCertFull", spec := "fnCertFull", inPlace := ["internal/reflectlite.TypeOf"], unfollowed := true, recurses := true, named := ["loop.example/thingstead/impl.errRefused", "loop.example/thingstead/impl.errStale", "loop.example/thingstead/impl.errFailed", "loop.example/thingstead/impl.errAgain", "loop.example/thingstead/impl.errOld", "loop.example/thingstead/impl.errNone"], ifaces := true, plainKeys := false, apart := false, laid := [("loop.example/thingstead/impl.errStale", laid_loop_example_thingstead_impl_errStale), ("loop.example/thingstead/impl.errFailed", laid_loop_example_thingstead_impl_errFailed), ("loop.example/thingstead/impl.errAgain", laid_loop_example_thingstead_impl_errAgain), ("loop.example/thingstead/impl.errOld", laid_loop_example_thingstead_impl_errOld), ("loop.example/thingstead/impl.errNone", laid_loop_example_thingstead_impl_errNone), ("loop.example/thingstead/impl.errRefused", laid_loop_example_thingstead_impl_errRefused)], narrowed := true }
def FnCertFullUptoSaid : Prop := fnCertFullUptoRow.holds Tryd.pinned (OpenSpec.upto fnCertFullSpec)

/-- 'laws.FnCertLater', WHERE WHAT IT READS IS OF BULK AT MOST 1048576: true; the input reads as it did. -/
def fnCertLaterUptoRow : OpenClaim := { program := "ytokbakphfodabaadoor", sum := "ca935bd30b4a7d01eb5460d2d8a797b015dab361730654b1e4e418f036fad021", func := "loop.example/thingstead/laws.FnCertLater", spec := "fnCertLater", inPlace := ["internal/reflectlite.TypeOf"], unfollowed := true, recurses := true, named := ["loop.example/thingstead/impl.errRefused", "loop.example/thingstead/impl.errStale", "loop.example/thingstead/impl.errFailed", "loop.example/thingstead/impl.errAgain", "loop.example/thingstead/impl.errOld", "loop.example/thingstead/impl.errNone"], ifaces := true, plainKeys := false, apart := false, laid := [("loop.example/thingstead/impl.errStale", laid_loop_example_thingstead_impl_errStale), ("loop.example/thingstead/impl.errFailed", laid_loop_example_thingstead_impl_errFailed), ("loop.example/thingstead/impl.errAgain", laid_loop_example_thingstead_impl_errAgain), ("loop.example/thingstead/impl.errOld", laid_loop_example_thingstead_impl_errOld), ("loop.example/thingstead/impl.errNone", laid_loop_example_thingstead_impl_errNone), ("loop.example/thingstead/impl.errRefused", laid_loop_example_thingstead_impl_errRefused)], narrowed := true }
def FnCertLaterUptoSaid : Prop := fnCertLaterUptoRow.holds Tryd.pinned (OpenSpec.upto fnCertLaterSpec)

/-- 'laws.FnMsgEntry', WHERE WHAT IT READS IS OF BULK AT MOST 1048576: true; the input reads as it did. -/
def fnMsgEntryUptoRow : OpenClaim := { program := "ytokbakphfodabaadoor", sum := "ca935bd30b4a7d01eb5460d2d8a797b015dab361730654b1e4e418f036fad021", func := "loop.example/thingstead/laws.FnMsgEntry", spec := "fnMsgEntry", inPlace := ["internal/abi.NoEscape"], recurses := true, named := ["internal/strconv.uint64pow10", "math/bits.deBruijn32tab", "math/bits.deBruijn64tab"], plainKeys := false, apart := false, laid := [("math/bits.deBruijn32tab", laid_math_bits_deBruijn32tab), ("math/bits.deBruijn64tab", laid_math_bits_deBruijn64tab), ("internal/strconv.uint64pow10", laid_internal_strconv_uint64pow10)], narrowed := true }
def FnMsgEntryUptoSaid : Prop := fnMsgEntryUptoRow.holds Tryd.pinned (OpenSpec.upto fnMsgEntrySpec)

end Rows
end Go.Proofs.YtokbakphfodabaaDoor

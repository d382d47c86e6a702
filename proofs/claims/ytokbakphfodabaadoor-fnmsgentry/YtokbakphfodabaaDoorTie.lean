/-
  DERIVED. GIVEN WITH THE SEED: THE PROGRAM's TIES (one call each: nine closed facts by the kernel) AND EACH ROW's TIE, after the 31st guide's Derived/Test/Toyas{Tie, Card}.lean. No idea stands in it: it is a product of the set-up. Laid BY PROGRAM, IN A SANDBOX (cutbox-door.mjs). By AI agents, Wed Nov 11 2026. No macro, syntax, notation, axiom, sorry.
-/
import Derived.Test.YtokbakphfodabaaDoorRows
import Derived.LaidByTextLater
import Derived.SevenTiedAt
import Derived.LaidSub
import Derived.LaidOnce
namespace Go.Proofs.YtokbakphfodabaaDoor
open Go
set_option maxRecDepth 100000
theorem seatTie1 : Tryd.prog.laidByTextLater [("math/bits.deBruijn32tab", Rows.laid_math_bits_deBruijn32tab), ("math/bits.deBruijn64tab", Rows.laid_math_bits_deBruijn64tab), ("internal/strconv.uint64pow10", Rows.laid_internal_strconv_uint64pow10), ("loop.example/thingstead/impl.errStale", Rows.laid_loop_example_thingstead_impl_errStale), ("loop.example/thingstead/impl.errFailed", Rows.laid_loop_example_thingstead_impl_errFailed), ("loop.example/thingstead/impl.errAgain", Rows.laid_loop_example_thingstead_impl_errAgain), ("loop.example/thingstead/impl.errOld", Rows.laid_loop_example_thingstead_impl_errOld), ("loop.example/thingstead/impl.errNone", Rows.laid_loop_example_thingstead_impl_errNone), ("loop.example/thingstead/impl.errRefused", Rows.laid_loop_example_thingstead_impl_errRefused)] [.data, .data, .data, .sentinel, .sentinel, .sentinel, .sentinel, .sentinel, .sentinel] true :=
  Program.laidByTextLater_by_one 138 8 65 (by kernel_rfl) (by kernel_rfl) (by kernel_rfl) (by kernel_rfl) (by kernel_rfl) (by kernel_rfl) (fun _ _ => by kernel_rfl)
theorem noOwnUnsafe : Tryd.pinned.checked.prog.headLifts.contains "ownunsafe" = false := by kernel_rfl
theorem tie : Tryd.prog.laidByTextLater [("loop.example/thingstead/impl.errStale", Rows.laid_loop_example_thingstead_impl_errStale), ("loop.example/thingstead/impl.errFailed", Rows.laid_loop_example_thingstead_impl_errFailed), ("loop.example/thingstead/impl.errAgain", Rows.laid_loop_example_thingstead_impl_errAgain), ("loop.example/thingstead/impl.errOld", Rows.laid_loop_example_thingstead_impl_errOld), ("loop.example/thingstead/impl.errNone", Rows.laid_loop_example_thingstead_impl_errNone), ("loop.example/thingstead/impl.errRefused", Rows.laid_loop_example_thingstead_impl_errRefused)] [.sentinel, .sentinel, .sentinel, .sentinel, .sentinel, .sentinel] true :=
  Program.laidByTextLater.sub seatTie1 ["loop.example/thingstead/impl.errStale", "loop.example/thingstead/impl.errFailed", "loop.example/thingstead/impl.errAgain", "loop.example/thingstead/impl.errOld", "loop.example/thingstead/impl.errNone", "loop.example/thingstead/impl.errRefused"] (by kernel_rfl) (by kernel_rfl)
theorem fnCertApply_row_tie : Rows.fnCertApplyRow.laidByTextAt .later Tryd.pinned [.sentinel, .sentinel, .sentinel, .sentinel, .sentinel, .sentinel] true :=
  OpenClaim.laidByTextAt_later rfl rfl tie noOwnUnsafe
theorem fnCertFull_row_tie : Rows.fnCertFullRow.laidByTextAt .later Tryd.pinned [.sentinel, .sentinel, .sentinel, .sentinel, .sentinel, .sentinel] true :=
  OpenClaim.laidByTextAt_later rfl rfl tie noOwnUnsafe
theorem fnCertLater_row_tie : Rows.fnCertLaterRow.laidByTextAt .later Tryd.pinned [.sentinel, .sentinel, .sentinel, .sentinel, .sentinel, .sentinel] true :=
  OpenClaim.laidByTextAt_later rfl rfl tie noOwnUnsafe
theorem tie2 : Tryd.prog.laidByTextLater [("loop.example/thingstead/impl.errRefused", Rows.laid_loop_example_thingstead_impl_errRefused)] [.sentinel] true :=
  Program.laidByTextLater.sub seatTie1 ["loop.example/thingstead/impl.errRefused"] (by kernel_rfl) (by kernel_rfl)
theorem fnCertLike_row_tie : Rows.fnCertLikeRow.laidByTextAt .later Tryd.pinned [.sentinel] true :=
  OpenClaim.laidByTextAt_later rfl rfl tie2 noOwnUnsafe
theorem tie3 : Tryd.prog.laidByTextLater [("math/bits.deBruijn32tab", Rows.laid_math_bits_deBruijn32tab), ("math/bits.deBruijn64tab", Rows.laid_math_bits_deBruijn64tab), ("internal/strconv.uint64pow10", Rows.laid_internal_strconv_uint64pow10)] [.data, .data, .data] true :=
  Program.laidByTextLater.sub seatTie1 ["math/bits.deBruijn32tab", "math/bits.deBruijn64tab", "internal/strconv.uint64pow10"] (by kernel_rfl) (by kernel_rfl)
theorem fnMsgEntry_row_tie : Rows.fnMsgEntryRow.laidByTextAt .later Tryd.pinned [.data, .data, .data] true :=
  OpenClaim.laidByTextAt_later rfl rfl tie3 noOwnUnsafe
theorem fnCertApplyUpto_row_tie : Rows.fnCertApplyUptoRow.laidByTextAt .later Tryd.pinned [.sentinel, .sentinel, .sentinel, .sentinel, .sentinel, .sentinel] true :=
  OpenClaim.laidByTextAt_later rfl rfl tie noOwnUnsafe
theorem fnCertLikeUpto_row_tie : Rows.fnCertLikeUptoRow.laidByTextAt .later Tryd.pinned [.sentinel] true :=
  OpenClaim.laidByTextAt_later rfl rfl tie2 noOwnUnsafe
theorem fnCertFullUpto_row_tie : Rows.fnCertFullUptoRow.laidByTextAt .later Tryd.pinned [.sentinel, .sentinel, .sentinel, .sentinel, .sentinel, .sentinel] true :=
  OpenClaim.laidByTextAt_later rfl rfl tie noOwnUnsafe
theorem fnCertLaterUpto_row_tie : Rows.fnCertLaterUptoRow.laidByTextAt .later Tryd.pinned [.sentinel, .sentinel, .sentinel, .sentinel, .sentinel, .sentinel] true :=
  OpenClaim.laidByTextAt_later rfl rfl tie noOwnUnsafe
theorem fnMsgEntryUpto_row_tie : Rows.fnMsgEntryUptoRow.laidByTextAt .later Tryd.pinned [.data, .data, .data] true :=
  OpenClaim.laidByTextAt_later rfl rfl tie3 noOwnUnsafe
end Go.Proofs.YtokbakphfodabaaDoor

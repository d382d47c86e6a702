/-
  Own text: from the row's list of variables to what the walks ask of the library's table.
-/
import Derived.Test.YtmcpefikmcaemaaDoorItoa
import Derived.Stop.LaidErr
import Derived.Lib.LaidTab
namespace Go.Proofs.YtmcpefikmcaemaaDoor.Own
open Go.RowKit

theorem pow10_datum : (Rows.laid_internal_strconv_uint64pow10 : DataW Unit) = Lib.tabData .u64 Lib.pow10Tab := by kernel_rfl

theorem door_of {W : World} {a b : String × DataW Unit} {r : List (String × DataW Unit)} (h : laidMet Tryd.prog (a :: b :: ("internal/strconv.uint64pow10", Rows.laid_internal_strconv_uint64pow10) :: r) W) : Tab W := by
  have h2 := h.tail.tail
  rw [pow10_datum] at h2
  exact Lib.tabIs_of_head (g := 6) (by kernel_rfl) (by kernel_rfl) Tryd.underlying233 Tryd.underlying227 (by kernel_rfl) (by kernel_rfl) h2
end Go.Proofs.YtmcpefikmcaemaaDoor.Own

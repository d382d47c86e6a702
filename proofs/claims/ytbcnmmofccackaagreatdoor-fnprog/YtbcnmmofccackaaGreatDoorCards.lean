/-
  DERIVED. GIVEN WITH THE SEED: THE CARDS: each row of YtbcnmmofccackaaGreatDoorRows.lean that lists a variable, with what it lists TIED to the program's text (the seventh form; the later family's looks); each row that meets fmt, with fmt's text TOLD by the authors' own Lean function (tested against real Go, not proved from fmt's source: count such statements apart). THE CARD IS WHAT COUNTS. Prove the row's statement (the work); the ties are given (YtbcnmmofccackaaGreatDoorTie.lean); close each card by the builder's one call (the guide's Derived/Test/ToyasCard.lean, 'card_holds'). Laid BY PROGRAM, IN A SANDBOX (cutbox-door.mjs). By AI agents, Wed Nov 11 2026. No macro, syntax, notation, axiom, sorry.
-/
import Derived.Test.YtbcnmmofccackaaGreatDoorRows
import GoSem.ClaimSeven
namespace Go.Proofs.YtbcnmmofccackaaGreatDoor
namespace Rows

/-- THE TIED CARD OF 'laws.FnProg'. -/
def fnProgCard : Claim7 := { stood := { row := fnProgRow, standIns := [], harness := (true, "4e5cf4ac06b78bfb7bbb81aa9328183c10eb50e96001f70ad7e3dfaa2a84f5e5"), looks := true }, kinds := [], alts := [], laidByText := true, laidKinds := [.data, .data, .data, .data, .sentinel, .sentinel, .pinned], laidTests := true, laidLooks := .later }
def FnProgCardSaid : Prop := Claim7.holds Tryz.pinned (.plain (OpenSpec.ofChange fnProgSpec)) fnProgCard

/-- THE SECOND FORM's CARD OF 'laws.FnProg'. -/
def fnProgUptoCard : Claim7 := { stood := { row := fnProgUptoRow, standIns := [], harness := (true, "4e5cf4ac06b78bfb7bbb81aa9328183c10eb50e96001f70ad7e3dfaa2a84f5e5"), looks := true }, kinds := [], alts := [], laidByText := true, laidKinds := [.data, .data, .data, .data, .sentinel, .sentinel, .pinned], laidTests := true, laidLooks := .later }
def FnProgUptoCardSaid : Prop := Claim7.holds Tryz.pinned (.plain (OpenSpec.upto fnProgSpec)) fnProgUptoCard
end Rows
end Go.Proofs.YtbcnmmofccackaaGreatDoor

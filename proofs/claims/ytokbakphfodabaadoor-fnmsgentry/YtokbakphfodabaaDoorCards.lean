/-
  DERIVED. GIVEN WITH THE SEED: THE CARDS: each row of YtokbakphfodabaaDoorRows.lean that lists a variable, with what it lists TIED to the program's text (the seventh form; the later family's looks); each row that meets fmt, with fmt's text TOLD by the authors' own Lean function (tested against real Go, not proved from fmt's source: count such statements apart). THE CARD IS WHAT COUNTS. Prove the row's statement (the work); the ties are given (YtokbakphfodabaaDoorTie.lean); close each card by the builder's one call (the guide's Derived/Test/ToyasCard.lean, 'card_holds'). Laid BY PROGRAM, IN A SANDBOX (cutbox-door.mjs). By AI agents, Wed Nov 11 2026. No macro, syntax, notation, axiom, sorry.
-/
import Derived.Test.YtokbakphfodabaaDoorRows
import GoSem.ClaimSeven
namespace Go.Proofs.YtokbakphfodabaaDoor
namespace Rows

/-- THE TIED CARD OF 'laws.FnCertApply'. -/
def fnCertApplyCard : Claim7 := { stood := { row := fnCertApplyRow, standIns := [], harness := (true, "f3da0d1168a5ae66114d8a136141484e0e325405e01d4ac4417a6f8015a3fac2"), looks := true }, kinds := [], alts := [], laidByText := true, laidKinds := [.sentinel, .sentinel, .sentinel, .sentinel, .sentinel, .sentinel], laidTests := true, laidLooks := .later }
def FnCertApplyCardSaid : Prop := Claim7.holds Tryd.pinned (.plain (OpenSpec.ofChange fnCertApplySpec)) fnCertApplyCard

/-- THE TIED CARD OF 'laws.FnCertLike'. -/
def fnCertLikeCard : Claim7 := { stood := { row := fnCertLikeRow, standIns := [], harness := (true, "f3da0d1168a5ae66114d8a136141484e0e325405e01d4ac4417a6f8015a3fac2"), looks := true }, kinds := [], alts := [], laidByText := true, laidKinds := [.sentinel], laidTests := true, laidLooks := .later }
def FnCertLikeCardSaid : Prop := Claim7.holds Tryd.pinned (.plain (OpenSpec.ofChange fnCertLikeSpec)) fnCertLikeCard

/-- THE TIED CARD OF 'laws.FnCertFull'. -/
def fnCertFullCard : Claim7 := { stood := { row := fnCertFullRow, standIns := [], harness := (true, "f3da0d1168a5ae66114d8a136141484e0e325405e01d4ac4417a6f8015a3fac2"), looks := true }, kinds := [], alts := [], laidByText := true, laidKinds := [.sentinel, .sentinel, .sentinel, .sentinel, .sentinel, .sentinel], laidTests := true, laidLooks := .later }
def FnCertFullCardSaid : Prop := Claim7.holds Tryd.pinned (.plain (OpenSpec.ofChange fnCertFullSpec)) fnCertFullCard

/-- THE TIED CARD OF 'laws.FnCertLater'. -/
def fnCertLaterCard : Claim7 := { stood := { row := fnCertLaterRow, standIns := [], harness := (true, "f3da0d1168a5ae66114d8a136141484e0e325405e01d4ac4417a6f8015a3fac2"), looks := true }, kinds := [], alts := [], laidByText := true, laidKinds := [.sentinel, .sentinel, .sentinel, .sentinel, .sentinel, .sentinel], laidTests := true, laidLooks := .later }
def FnCertLaterCardSaid : Prop := Claim7.holds Tryd.pinned (.plain (OpenSpec.ofChange fnCertLaterSpec)) fnCertLaterCard

/-- THE TIED CARD OF 'laws.FnMsgEntry'. -/
def fnMsgEntryCard : Claim7 := { stood := { row := fnMsgEntryRow, standIns := [], harness := (true, "f3da0d1168a5ae66114d8a136141484e0e325405e01d4ac4417a6f8015a3fac2"), looks := true }, kinds := [], alts := [], laidByText := true, laidKinds := [.data, .data, .data], laidTests := true, laidLooks := .later }
def FnMsgEntryCardSaid : Prop := Claim7.holds Tryd.pinned (.plain (OpenSpec.ofChange fnMsgEntrySpec)) fnMsgEntryCard

/-- THE SECOND FORM's CARD OF 'laws.FnCertApply'. -/
def fnCertApplyUptoCard : Claim7 := { stood := { row := fnCertApplyUptoRow, standIns := [], harness := (true, "f3da0d1168a5ae66114d8a136141484e0e325405e01d4ac4417a6f8015a3fac2"), looks := true }, kinds := [], alts := [], laidByText := true, laidKinds := [.sentinel, .sentinel, .sentinel, .sentinel, .sentinel, .sentinel], laidTests := true, laidLooks := .later }
def FnCertApplyUptoCardSaid : Prop := Claim7.holds Tryd.pinned (.plain (OpenSpec.upto fnCertApplySpec)) fnCertApplyUptoCard

/-- THE SECOND FORM's CARD OF 'laws.FnCertLike'. -/
def fnCertLikeUptoCard : Claim7 := { stood := { row := fnCertLikeUptoRow, standIns := [], harness := (true, "f3da0d1168a5ae66114d8a136141484e0e325405e01d4ac4417a6f8015a3fac2"), looks := true }, kinds := [], alts := [], laidByText := true, laidKinds := [.sentinel], laidTests := true, laidLooks := .later }
def FnCertLikeUptoCardSaid : Prop := Claim7.holds Tryd.pinned (.plain (OpenSpec.upto fnCertLikeSpec)) fnCertLikeUptoCard

/-- THE SECOND FORM's CARD OF 'laws.FnCertFull'. -/
def fnCertFullUptoCard : Claim7 := { stood := { row := fnCertFullUptoRow, standIns := [], harness := (true, "f3da0d1168a5ae66114d8a136141484e0e325405e01d4ac4417a6f8015a3fac2"), looks := true }, kinds := [], alts := [], laidByText := true, laidKinds := [.sentinel, .sentinel, .sentinel, .sentinel, .sentinel, .sentinel], laidTests := true, laidLooks := .later }
def FnCertFullUptoCardSaid : Prop := Claim7.holds Tryd.pinned (.plain (OpenSpec.upto fnCertFullSpec)) fnCertFullUptoCard

/-- THE SECOND FORM's CARD OF 'laws.FnCertLater'. -/
def fnCertLaterUptoCard : Claim7 := { stood := { row := fnCertLaterUptoRow, standIns := [], harness := (true, "f3da0d1168a5ae66114d8a136141484e0e325405e01d4ac4417a6f8015a3fac2"), looks := true }, kinds := [], alts := [], laidByText := true, laidKinds := [.sentinel, .sentinel, .sentinel, .sentinel, .sentinel, .sentinel], laidTests := true, laidLooks := .later }
def FnCertLaterUptoCardSaid : Prop := Claim7.holds Tryd.pinned (.plain (OpenSpec.upto fnCertLaterSpec)) fnCertLaterUptoCard

/-- THE SECOND FORM's CARD OF 'laws.FnMsgEntry'. -/
def fnMsgEntryUptoCard : Claim7 := { stood := { row := fnMsgEntryUptoRow, standIns := [], harness := (true, "f3da0d1168a5ae66114d8a136141484e0e325405e01d4ac4417a6f8015a3fac2"), looks := true }, kinds := [], alts := [], laidByText := true, laidKinds := [.data, .data, .data], laidTests := true, laidLooks := .later }
def FnMsgEntryUptoCardSaid : Prop := Claim7.holds Tryd.pinned (.plain (OpenSpec.upto fnMsgEntrySpec)) fnMsgEntryUptoCard
end Rows
end Go.Proofs.YtokbakphfodabaaDoor

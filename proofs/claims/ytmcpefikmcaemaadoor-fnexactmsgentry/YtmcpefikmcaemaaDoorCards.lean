/-
  DERIVED. GIVEN WITH THE SEED: THE CARDS: each row of YtmcpefikmcaemaaDoorRows.lean that lists a variable, with what it lists TIED to the program's text (the seventh form; the later family's looks); each row that meets fmt, with fmt's text TOLD by the authors' own Lean function (tested against real Go, not proved from fmt's source: count such statements apart). THE CARD IS WHAT COUNTS. Prove the row's statement (the work); the ties are given (YtmcpefikmcaemaaDoorTie.lean); close each card by the builder's one call (the guide's Derived/Test/ToyasCard.lean, 'card_holds'). Laid BY PROGRAM, IN A SANDBOX (cutbox-door.mjs). By AI agents, Wed Nov 11 2026. No macro, syntax, notation, axiom, sorry.
-/
import Derived.Test.YtmcpefikmcaemaaDoorRows
import GoSem.ClaimSeven
namespace Go.Proofs.YtmcpefikmcaemaaDoor
namespace Rows

/-- THE TIED CARD OF 'laws.FnMsgEntry'. -/
def fnMsgEntryCard : Claim7 := { stood := { row := fnMsgEntryRow, standIns := [], harness := (true, "029102cb30e7a547409226b470d7f280e4393bc0057a3d27fa774fdd0a19acab"), looks := true }, kinds := [], alts := [], laidByText := true, laidKinds := [.data, .data, .data], laidTests := true, laidLooks := .later }
def FnMsgEntryCardSaid : Prop := Claim7.holds Tryd.pinned (.plain (OpenSpec.ofChange fnMsgEntrySpec)) fnMsgEntryCard

/-- THE TIED CARD OF 'laws.FnMsgKinds'. -/
def fnMsgKindsCard : Claim7 := { stood := { row := fnMsgKindsRow, standIns := [], harness := (true, "029102cb30e7a547409226b470d7f280e4393bc0057a3d27fa774fdd0a19acab"), looks := true }, kinds := [], alts := [], laidByText := true, laidKinds := [.data, .data, .data], laidTests := true, laidLooks := .later }
def FnMsgKindsCardSaid : Prop := Claim7.holds Tryd.pinned (.plain (OpenSpec.ofChange fnMsgKindsSpec)) fnMsgKindsCard

/-- THE TIED CARD OF 'laws.FnMsgVotes'. -/
def fnMsgVotesCard : Claim7 := { stood := { row := fnMsgVotesRow, standIns := [], harness := (true, "029102cb30e7a547409226b470d7f280e4393bc0057a3d27fa774fdd0a19acab"), looks := true }, kinds := [], alts := [], laidByText := true, laidKinds := [.data, .data, .data], laidTests := true, laidLooks := .later }
def FnMsgVotesCardSaid : Prop := Claim7.holds Tryd.pinned (.plain (OpenSpec.ofChange fnMsgVotesSpec)) fnMsgVotesCard

/-- THE TIED CARD OF 'laws.FnExactMsgEntry'. -/
def fnExactMsgEntryCard : Claim7 := { stood := { row := fnExactMsgEntryRow, standIns := [], harness := (true, "029102cb30e7a547409226b470d7f280e4393bc0057a3d27fa774fdd0a19acab"), looks := true }, kinds := [], alts := [], laidByText := true, laidKinds := [.data, .data, .data], laidTests := true, laidLooks := .later }
def FnExactMsgEntryCardSaid : Prop := Claim7.holds Tryd.pinned (.plain (OpenSpec.ofChange fnExactMsgEntrySpec)) fnExactMsgEntryCard

/-- THE TIED CARD OF 'laws.FnCertApply'. -/
def fnCertApplyCard : Claim7 := { stood := { row := fnCertApplyRow, standIns := [], harness := (true, "029102cb30e7a547409226b470d7f280e4393bc0057a3d27fa774fdd0a19acab"), looks := true }, kinds := [], alts := [], laidByText := true, laidKinds := [.sentinel, .sentinel, .sentinel, .sentinel, .sentinel, .sentinel], laidTests := true, laidLooks := .later }
def FnCertApplyCardSaid : Prop := Claim7.holds Tryd.pinned (.plain (OpenSpec.ofChange fnCertApplySpec)) fnCertApplyCard

/-- THE TIED CARD OF 'laws.FnCertFold'. -/
def fnCertFoldCard : Claim7 := { stood := { row := fnCertFoldRow, standIns := [], harness := (true, "029102cb30e7a547409226b470d7f280e4393bc0057a3d27fa774fdd0a19acab"), looks := true }, kinds := [], alts := [], laidByText := true, laidKinds := [.sentinel, .sentinel, .sentinel, .sentinel, .sentinel, .sentinel], laidTests := true, laidLooks := .later }
def FnCertFoldCardSaid : Prop := Claim7.holds Tryd.pinned (.plain (OpenSpec.ofChange fnCertFoldSpec)) fnCertFoldCard

/-- THE TIED CARD OF 'laws.FnCertLike'. -/
def fnCertLikeCard : Claim7 := { stood := { row := fnCertLikeRow, standIns := [], harness := (true, "029102cb30e7a547409226b470d7f280e4393bc0057a3d27fa774fdd0a19acab"), looks := true }, kinds := [], alts := [], laidByText := true, laidKinds := [.sentinel], laidTests := true, laidLooks := .later }
def FnCertLikeCardSaid : Prop := Claim7.holds Tryd.pinned (.plain (OpenSpec.ofChange fnCertLikeSpec)) fnCertLikeCard

/-- THE TIED CARD OF 'laws.FnCertFull'. -/
def fnCertFullCard : Claim7 := { stood := { row := fnCertFullRow, standIns := [], harness := (true, "029102cb30e7a547409226b470d7f280e4393bc0057a3d27fa774fdd0a19acab"), looks := true }, kinds := [], alts := [], laidByText := true, laidKinds := [.sentinel, .sentinel, .sentinel, .sentinel, .sentinel, .sentinel], laidTests := true, laidLooks := .later }
def FnCertFullCardSaid : Prop := Claim7.holds Tryd.pinned (.plain (OpenSpec.ofChange fnCertFullSpec)) fnCertFullCard

/-- THE TIED CARD OF 'laws.FnCertLater'. -/
def fnCertLaterCard : Claim7 := { stood := { row := fnCertLaterRow, standIns := [], harness := (true, "029102cb30e7a547409226b470d7f280e4393bc0057a3d27fa774fdd0a19acab"), looks := true }, kinds := [], alts := [], laidByText := true, laidKinds := [.sentinel, .sentinel, .sentinel, .sentinel, .sentinel, .sentinel], laidTests := true, laidLooks := .later }
def FnCertLaterCardSaid : Prop := Claim7.holds Tryd.pinned (.plain (OpenSpec.ofChange fnCertLaterSpec)) fnCertLaterCard

/-- THE SECOND FORM's CARD OF 'laws.FnMsgEntry'. -/
def fnMsgEntryUptoCard : Claim7 := { stood := { row := fnMsgEntryUptoRow, standIns := [], harness := (true, "029102cb30e7a547409226b470d7f280e4393bc0057a3d27fa774fdd0a19acab"), looks := true }, kinds := [], alts := [], laidByText := true, laidKinds := [.data, .data, .data], laidTests := true, laidLooks := .later }
def FnMsgEntryUptoCardSaid : Prop := Claim7.holds Tryd.pinned (.plain (OpenSpec.upto fnMsgEntrySpec)) fnMsgEntryUptoCard

/-- THE SECOND FORM's CARD OF 'laws.FnMsgKinds'. -/
def fnMsgKindsUptoCard : Claim7 := { stood := { row := fnMsgKindsUptoRow, standIns := [], harness := (true, "029102cb30e7a547409226b470d7f280e4393bc0057a3d27fa774fdd0a19acab"), looks := true }, kinds := [], alts := [], laidByText := true, laidKinds := [.data, .data, .data], laidTests := true, laidLooks := .later }
def FnMsgKindsUptoCardSaid : Prop := Claim7.holds Tryd.pinned (.plain (OpenSpec.upto fnMsgKindsSpec)) fnMsgKindsUptoCard

/-- THE SECOND FORM's CARD OF 'laws.FnMsgVotes'. -/
def fnMsgVotesUptoCard : Claim7 := { stood := { row := fnMsgVotesUptoRow, standIns := [], harness := (true, "029102cb30e7a547409226b470d7f280e4393bc0057a3d27fa774fdd0a19acab"), looks := true }, kinds := [], alts := [], laidByText := true, laidKinds := [.data, .data, .data], laidTests := true, laidLooks := .later }
def FnMsgVotesUptoCardSaid : Prop := Claim7.holds Tryd.pinned (.plain (OpenSpec.upto fnMsgVotesSpec)) fnMsgVotesUptoCard

/-- THE SECOND FORM's CARD OF 'laws.FnExactMsgEntry'. -/
def fnExactMsgEntryUptoCard : Claim7 := { stood := { row := fnExactMsgEntryUptoRow, standIns := [], harness := (true, "029102cb30e7a547409226b470d7f280e4393bc0057a3d27fa774fdd0a19acab"), looks := true }, kinds := [], alts := [], laidByText := true, laidKinds := [.data, .data, .data], laidTests := true, laidLooks := .later }
def FnExactMsgEntryUptoCardSaid : Prop := Claim7.holds Tryd.pinned (.plain (OpenSpec.upto fnExactMsgEntrySpec)) fnExactMsgEntryUptoCard

/-- THE SECOND FORM's CARD OF 'laws.FnCertApply'. -/
def fnCertApplyUptoCard : Claim7 := { stood := { row := fnCertApplyUptoRow, standIns := [], harness := (true, "029102cb30e7a547409226b470d7f280e4393bc0057a3d27fa774fdd0a19acab"), looks := true }, kinds := [], alts := [], laidByText := true, laidKinds := [.sentinel, .sentinel, .sentinel, .sentinel, .sentinel, .sentinel], laidTests := true, laidLooks := .later }
def FnCertApplyUptoCardSaid : Prop := Claim7.holds Tryd.pinned (.plain (OpenSpec.upto fnCertApplySpec)) fnCertApplyUptoCard

/-- THE SECOND FORM's CARD OF 'laws.FnCertFold'. -/
def fnCertFoldUptoCard : Claim7 := { stood := { row := fnCertFoldUptoRow, standIns := [], harness := (true, "029102cb30e7a547409226b470d7f280e4393bc0057a3d27fa774fdd0a19acab"), looks := true }, kinds := [], alts := [], laidByText := true, laidKinds := [.sentinel, .sentinel, .sentinel, .sentinel, .sentinel, .sentinel], laidTests := true, laidLooks := .later }
def FnCertFoldUptoCardSaid : Prop := Claim7.holds Tryd.pinned (.plain (OpenSpec.upto fnCertFoldSpec)) fnCertFoldUptoCard

/-- THE SECOND FORM's CARD OF 'laws.FnCertLike'. -/
def fnCertLikeUptoCard : Claim7 := { stood := { row := fnCertLikeUptoRow, standIns := [], harness := (true, "029102cb30e7a547409226b470d7f280e4393bc0057a3d27fa774fdd0a19acab"), looks := true }, kinds := [], alts := [], laidByText := true, laidKinds := [.sentinel], laidTests := true, laidLooks := .later }
def FnCertLikeUptoCardSaid : Prop := Claim7.holds Tryd.pinned (.plain (OpenSpec.upto fnCertLikeSpec)) fnCertLikeUptoCard

/-- THE SECOND FORM's CARD OF 'laws.FnCertFull'. -/
def fnCertFullUptoCard : Claim7 := { stood := { row := fnCertFullUptoRow, standIns := [], harness := (true, "029102cb30e7a547409226b470d7f280e4393bc0057a3d27fa774fdd0a19acab"), looks := true }, kinds := [], alts := [], laidByText := true, laidKinds := [.sentinel, .sentinel, .sentinel, .sentinel, .sentinel, .sentinel], laidTests := true, laidLooks := .later }
def FnCertFullUptoCardSaid : Prop := Claim7.holds Tryd.pinned (.plain (OpenSpec.upto fnCertFullSpec)) fnCertFullUptoCard

/-- THE SECOND FORM's CARD OF 'laws.FnCertLater'. -/
def fnCertLaterUptoCard : Claim7 := { stood := { row := fnCertLaterUptoRow, standIns := [], harness := (true, "029102cb30e7a547409226b470d7f280e4393bc0057a3d27fa774fdd0a19acab"), looks := true }, kinds := [], alts := [], laidByText := true, laidKinds := [.sentinel, .sentinel, .sentinel, .sentinel, .sentinel, .sentinel], laidTests := true, laidLooks := .later }
def FnCertLaterUptoCardSaid : Prop := Claim7.holds Tryd.pinned (.plain (OpenSpec.upto fnCertLaterSpec)) fnCertLaterUptoCard
end Rows
end Go.Proofs.YtmcpefikmcaemaaDoor

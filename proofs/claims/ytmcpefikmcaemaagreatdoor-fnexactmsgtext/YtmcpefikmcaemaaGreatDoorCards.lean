/-
  DERIVED. GIVEN WITH THE SEED: THE CARDS: each row of YtmcpefikmcaemaaGreatDoorRows.lean that lists a variable, with what it lists TIED to the program's text (the seventh form; the later family's looks); each row that meets fmt, with fmt's text TOLD by the authors' own Lean function (tested against real Go, not proved from fmt's source: count such statements apart). THE CARD IS WHAT COUNTS. Prove the row's statement (the work); the ties are given (YtmcpefikmcaemaaGreatDoorTie.lean); close each card by the builder's one call (the guide's Derived/Test/ToyasCard.lean, 'card_holds'). Laid BY PROGRAM, IN A SANDBOX (cutbox-door.mjs). By AI agents, Wed Nov 11 2026. No macro, syntax, notation, axiom, sorry.
-/
import Derived.Test.YtmcpefikmcaemaaGreatDoorRows
import GoSem.ClaimSeven
namespace Go.Proofs.YtmcpefikmcaemaaGreatDoor
namespace Rows

/-- THE TIED CARD OF 'laws.FnMsg'. -/
def fnMsgCard : Claim7 := { stood := { row := fnMsgRow, standIns := [], harness := (true, "ff6135248b7996b15e74cf7b34a654d04e0725cbf83dc4aec912728e2b5de043"), looks := true }, kinds := [], alts := [], laidByText := true, laidKinds := [.data, .data, .data], laidTests := true, laidLooks := .later }
def FnMsgCardSaid : Prop := Claim7.holds Tryz.pinned (.plain (OpenSpec.ofChange fnMsgSpec)) fnMsgCard

/-- THE TIED CARD OF 'laws.FnExactMsgText'. -/
def fnExactMsgTextCard : Claim7 := { stood := { row := fnExactMsgTextRow, standIns := [], harness := (true, "ff6135248b7996b15e74cf7b34a654d04e0725cbf83dc4aec912728e2b5de043"), looks := true }, kinds := [], alts := [], laidByText := true, laidKinds := [.data, .data, .data], laidTests := true, laidLooks := .later }
def FnExactMsgTextCardSaid : Prop := Claim7.holds Tryz.pinned (.plain (OpenSpec.ofChange fnExactMsgTextSpec)) fnExactMsgTextCard

/-- THE TIED CARD OF 'laws.FnCert'. -/
def fnCertCard : Claim7 := { stood := { row := fnCertRow, standIns := [], harness := (true, "ff6135248b7996b15e74cf7b34a654d04e0725cbf83dc4aec912728e2b5de043"), looks := true }, kinds := [], alts := [], laidByText := true, laidKinds := [.sentinel, .sentinel, .sentinel, .sentinel, .sentinel, .sentinel], laidTests := true, laidLooks := .later }
def FnCertCardSaid : Prop := Claim7.holds Tryz.pinned (.plain (OpenSpec.ofChange fnCertSpec)) fnCertCard

/-- THE TIED CARD OF 'laws.FnCertPair'. -/
def fnCertPairCard : Claim7 := { stood := { row := fnCertPairRow, standIns := [], harness := (true, "ff6135248b7996b15e74cf7b34a654d04e0725cbf83dc4aec912728e2b5de043"), looks := true }, kinds := [], alts := [], laidByText := true, laidKinds := [.sentinel, .sentinel, .sentinel, .sentinel, .sentinel, .sentinel], laidTests := true, laidLooks := .later }
def FnCertPairCardSaid : Prop := Claim7.holds Tryz.pinned (.plain (OpenSpec.ofChange fnCertPairSpec)) fnCertPairCard

/-- THE TIED CARD OF 'laws.FnCertBlind'. -/
def fnCertBlindCard : Claim7 := { stood := { row := fnCertBlindRow, standIns := [], harness := (true, "ff6135248b7996b15e74cf7b34a654d04e0725cbf83dc4aec912728e2b5de043"), looks := true }, kinds := [], alts := [], laidByText := true, laidKinds := [.sentinel, .sentinel, .sentinel, .sentinel, .sentinel, .sentinel], laidTests := true, laidLooks := .later }
def FnCertBlindCardSaid : Prop := Claim7.holds Tryz.pinned (.plain (OpenSpec.ofChange fnCertBlindSpec)) fnCertBlindCard

/-- THE SECOND FORM's CARD OF 'laws.FnMsg'. -/
def fnMsgUptoCard : Claim7 := { stood := { row := fnMsgUptoRow, standIns := [], harness := (true, "ff6135248b7996b15e74cf7b34a654d04e0725cbf83dc4aec912728e2b5de043"), looks := true }, kinds := [], alts := [], laidByText := true, laidKinds := [.data, .data, .data], laidTests := true, laidLooks := .later }
def FnMsgUptoCardSaid : Prop := Claim7.holds Tryz.pinned (.plain (OpenSpec.upto fnMsgSpec)) fnMsgUptoCard

/-- THE SECOND FORM's CARD OF 'laws.FnExactMsgText'. -/
def fnExactMsgTextUptoCard : Claim7 := { stood := { row := fnExactMsgTextUptoRow, standIns := [], harness := (true, "ff6135248b7996b15e74cf7b34a654d04e0725cbf83dc4aec912728e2b5de043"), looks := true }, kinds := [], alts := [], laidByText := true, laidKinds := [.data, .data, .data], laidTests := true, laidLooks := .later }
def FnExactMsgTextUptoCardSaid : Prop := Claim7.holds Tryz.pinned (.plain (OpenSpec.upto fnExactMsgTextSpec)) fnExactMsgTextUptoCard

/-- THE SECOND FORM's CARD OF 'laws.FnCert'. -/
def fnCertUptoCard : Claim7 := { stood := { row := fnCertUptoRow, standIns := [], harness := (true, "ff6135248b7996b15e74cf7b34a654d04e0725cbf83dc4aec912728e2b5de043"), looks := true }, kinds := [], alts := [], laidByText := true, laidKinds := [.sentinel, .sentinel, .sentinel, .sentinel, .sentinel, .sentinel], laidTests := true, laidLooks := .later }
def FnCertUptoCardSaid : Prop := Claim7.holds Tryz.pinned (.plain (OpenSpec.upto fnCertSpec)) fnCertUptoCard

/-- THE SECOND FORM's CARD OF 'laws.FnCertPair'. -/
def fnCertPairUptoCard : Claim7 := { stood := { row := fnCertPairUptoRow, standIns := [], harness := (true, "ff6135248b7996b15e74cf7b34a654d04e0725cbf83dc4aec912728e2b5de043"), looks := true }, kinds := [], alts := [], laidByText := true, laidKinds := [.sentinel, .sentinel, .sentinel, .sentinel, .sentinel, .sentinel], laidTests := true, laidLooks := .later }
def FnCertPairUptoCardSaid : Prop := Claim7.holds Tryz.pinned (.plain (OpenSpec.upto fnCertPairSpec)) fnCertPairUptoCard

/-- THE SECOND FORM's CARD OF 'laws.FnCertBlind'. -/
def fnCertBlindUptoCard : Claim7 := { stood := { row := fnCertBlindUptoRow, standIns := [], harness := (true, "ff6135248b7996b15e74cf7b34a654d04e0725cbf83dc4aec912728e2b5de043"), looks := true }, kinds := [], alts := [], laidByText := true, laidKinds := [.sentinel, .sentinel, .sentinel, .sentinel, .sentinel, .sentinel], laidTests := true, laidLooks := .later }
def FnCertBlindUptoCardSaid : Prop := Claim7.holds Tryz.pinned (.plain (OpenSpec.upto fnCertBlindSpec)) fnCertBlindUptoCard
end Rows
end Go.Proofs.YtmcpefikmcaemaaGreatDoor

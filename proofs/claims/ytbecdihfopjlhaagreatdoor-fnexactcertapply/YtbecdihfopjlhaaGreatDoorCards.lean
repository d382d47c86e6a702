/-
  DERIVED. GIVEN WITH THE SEED: THE CARDS: each row of YtbecdihfopjlhaaGreatDoorRows.lean that lists a variable, with what it lists TIED to the program's text (the seventh form; the later family's looks); each row that meets fmt, with fmt's text TOLD by the authors' own Lean function (tested against real Go, not proved from fmt's source: count such statements apart). THE CARD IS WHAT COUNTS. Prove the row's statement (the work); the ties are given (YtbecdihfopjlhaaGreatDoorTie.lean); close each card by the builder's one call (the guide's Derived/Test/ToyasCard.lean, 'card_holds'). Laid BY PROGRAM, IN A SANDBOX (cutbox-door.mjs). By AI agents, Wed Nov 11 2026. No macro, syntax, notation, axiom, sorry.
-/
import Derived.Test.YtbecdihfopjlhaaGreatDoorRows
import GoSem.ClaimSeven
namespace Go.Proofs.YtbecdihfopjlhaaGreatDoor
namespace Rows

/-- THE TIED CARD OF 'laws.FnCert'. -/
def fnCertCard : Claim7 := { stood := { row := fnCertRow, standIns := [], harness := (true, "994836a390a38d7eb72646ac1b01143236918f2183c2a7c37002d3ac18ca061a"), looks := true }, kinds := [], alts := [], laidByText := true, laidKinds := [.sentinel, .sentinel, .sentinel, .sentinel, .sentinel, .sentinel], laidTests := true, laidLooks := .later }
def FnCertCardSaid : Prop := Claim7.holds Tryz.pinned (.plain (OpenSpec.ofChange fnCertSpec)) fnCertCard

/-- THE TIED CARD OF 'laws.FnCertPair'. -/
def fnCertPairCard : Claim7 := { stood := { row := fnCertPairRow, standIns := [], harness := (true, "994836a390a38d7eb72646ac1b01143236918f2183c2a7c37002d3ac18ca061a"), looks := true }, kinds := [], alts := [], laidByText := true, laidKinds := [.sentinel, .sentinel, .sentinel, .sentinel, .sentinel, .sentinel], laidTests := true, laidLooks := .later }
def FnCertPairCardSaid : Prop := Claim7.holds Tryz.pinned (.plain (OpenSpec.ofChange fnCertPairSpec)) fnCertPairCard

/-- THE TIED CARD OF 'laws.FnCertBlind'. -/
def fnCertBlindCard : Claim7 := { stood := { row := fnCertBlindRow, standIns := [], harness := (true, "994836a390a38d7eb72646ac1b01143236918f2183c2a7c37002d3ac18ca061a"), looks := true }, kinds := [], alts := [], laidByText := true, laidKinds := [.sentinel, .sentinel, .sentinel, .sentinel, .sentinel, .sentinel], laidTests := true, laidLooks := .later }
def FnCertBlindCardSaid : Prop := Claim7.holds Tryz.pinned (.plain (OpenSpec.ofChange fnCertBlindSpec)) fnCertBlindCard

/-- THE TIED CARD OF 'laws.FnExactCertApply'. -/
def fnExactCertApplyCard : Claim7 := { stood := { row := fnExactCertApplyRow, standIns := [], harness := (true, "994836a390a38d7eb72646ac1b01143236918f2183c2a7c37002d3ac18ca061a"), looks := true }, kinds := [], alts := [], laidByText := true, laidKinds := [.sentinel, .sentinel, .sentinel, .sentinel, .sentinel, .sentinel], laidTests := true, laidLooks := .later }
def FnExactCertApplyCardSaid : Prop := Claim7.holds Tryz.pinned (.plain (OpenSpec.ofChange fnExactCertApplySpec)) fnExactCertApplyCard

/-- THE TIED CARD OF 'laws.FnExactCertFold'. -/
def fnExactCertFoldCard : Claim7 := { stood := { row := fnExactCertFoldRow, standIns := [], harness := (true, "994836a390a38d7eb72646ac1b01143236918f2183c2a7c37002d3ac18ca061a"), looks := true }, kinds := [], alts := [], laidByText := true, laidKinds := [.sentinel], laidTests := true, laidLooks := .later }
def FnExactCertFoldCardSaid : Prop := Claim7.holds Tryz.pinned (.plain (OpenSpec.ofChange fnExactCertFoldSpec)) fnExactCertFoldCard

/-- THE SECOND FORM's CARD OF 'laws.FnCert'. -/
def fnCertUptoCard : Claim7 := { stood := { row := fnCertUptoRow, standIns := [], harness := (true, "994836a390a38d7eb72646ac1b01143236918f2183c2a7c37002d3ac18ca061a"), looks := true }, kinds := [], alts := [], laidByText := true, laidKinds := [.sentinel, .sentinel, .sentinel, .sentinel, .sentinel, .sentinel], laidTests := true, laidLooks := .later }
def FnCertUptoCardSaid : Prop := Claim7.holds Tryz.pinned (.plain (OpenSpec.upto fnCertSpec)) fnCertUptoCard

/-- THE SECOND FORM's CARD OF 'laws.FnCertPair'. -/
def fnCertPairUptoCard : Claim7 := { stood := { row := fnCertPairUptoRow, standIns := [], harness := (true, "994836a390a38d7eb72646ac1b01143236918f2183c2a7c37002d3ac18ca061a"), looks := true }, kinds := [], alts := [], laidByText := true, laidKinds := [.sentinel, .sentinel, .sentinel, .sentinel, .sentinel, .sentinel], laidTests := true, laidLooks := .later }
def FnCertPairUptoCardSaid : Prop := Claim7.holds Tryz.pinned (.plain (OpenSpec.upto fnCertPairSpec)) fnCertPairUptoCard

/-- THE SECOND FORM's CARD OF 'laws.FnCertBlind'. -/
def fnCertBlindUptoCard : Claim7 := { stood := { row := fnCertBlindUptoRow, standIns := [], harness := (true, "994836a390a38d7eb72646ac1b01143236918f2183c2a7c37002d3ac18ca061a"), looks := true }, kinds := [], alts := [], laidByText := true, laidKinds := [.sentinel, .sentinel, .sentinel, .sentinel, .sentinel, .sentinel], laidTests := true, laidLooks := .later }
def FnCertBlindUptoCardSaid : Prop := Claim7.holds Tryz.pinned (.plain (OpenSpec.upto fnCertBlindSpec)) fnCertBlindUptoCard

/-- THE SECOND FORM's CARD OF 'laws.FnExactCertApply'. -/
def fnExactCertApplyUptoCard : Claim7 := { stood := { row := fnExactCertApplyUptoRow, standIns := [], harness := (true, "994836a390a38d7eb72646ac1b01143236918f2183c2a7c37002d3ac18ca061a"), looks := true }, kinds := [], alts := [], laidByText := true, laidKinds := [.sentinel, .sentinel, .sentinel, .sentinel, .sentinel, .sentinel], laidTests := true, laidLooks := .later }
def FnExactCertApplyUptoCardSaid : Prop := Claim7.holds Tryz.pinned (.plain (OpenSpec.upto fnExactCertApplySpec)) fnExactCertApplyUptoCard

/-- THE SECOND FORM's CARD OF 'laws.FnExactCertFold'. -/
def fnExactCertFoldUptoCard : Claim7 := { stood := { row := fnExactCertFoldUptoRow, standIns := [], harness := (true, "994836a390a38d7eb72646ac1b01143236918f2183c2a7c37002d3ac18ca061a"), looks := true }, kinds := [], alts := [], laidByText := true, laidKinds := [.sentinel], laidTests := true, laidLooks := .later }
def FnExactCertFoldUptoCardSaid : Prop := Claim7.holds Tryz.pinned (.plain (OpenSpec.upto fnExactCertFoldSpec)) fnExactCertFoldUptoCard
end Rows
end Go.Proofs.YtbecdihfopjlhaaGreatDoor

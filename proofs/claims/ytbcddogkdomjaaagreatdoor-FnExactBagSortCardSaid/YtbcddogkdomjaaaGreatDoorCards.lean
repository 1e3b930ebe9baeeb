/-
  DERIVED. GIVEN WITH THE SEED: THE CARDS: each row of YtbcddogkdomjaaaGreatDoorRows.lean that lists a variable, with what it lists TIED to the program's text (the seventh form; the later family's looks); each row that meets fmt, with fmt's text TOLD by the authors' own Lean function (tested against real Go, not proved from fmt's source: count such statements apart). THE CARD IS WHAT COUNTS. Prove the row's statement (the work); the ties are given (YtbcddogkdomjaaaGreatDoorTie.lean); close each card by the builder's one call (the guide's Derived/Test/ToyasCard.lean, 'card_holds'). Laid BY PROGRAM, IN A SANDBOX (cutbox-door.mjs). By AI agents, Wed Nov 11 2026. No macro, syntax, notation, axiom, sorry.
-/
import Derived.Test.YtbcddogkdomjaaaGreatDoorRows
import GoSem.ClaimSeven
namespace Go.Proofs.YtbcddogkdomjaaaGreatDoor
namespace Rows

/-- THE TIED CARD OF 'laws.FnExactTermValid'. -/
def fnExactTermValidCard : Claim7 := { stood := { row := fnExactTermValidRow, standIns := [], harness := (true, "252738d4027d7a57d72336bde1fc719c146c855e3989cc79eefe4338b54421df"), looks := true }, kinds := [], alts := [], laidByText := true, laidKinds := [.data, .data, .data, .sentinel, .sentinel], laidTests := true, laidLooks := .later }
def FnExactTermValidCardSaid : Prop := Claim7.holds Tryz.pinned (.plain (OpenSpec.ofChange fnExactTermValidSpec)) fnExactTermValidCard

/-- THE TIED CARD OF 'laws.FnExactTermSort'. -/
def fnExactTermSortCard : Claim7 := { stood := { row := fnExactTermSortRow, standIns := [], harness := (true, "252738d4027d7a57d72336bde1fc719c146c855e3989cc79eefe4338b54421df"), looks := true }, kinds := [], alts := [], laidByText := true, laidKinds := [.data, .data, .data, .sentinel, .sentinel], laidTests := true, laidLooks := .later }
def FnExactTermSortCardSaid : Prop := Claim7.holds Tryz.pinned (.plain (OpenSpec.ofChange fnExactTermSortSpec)) fnExactTermSortCard

/-- THE TIED CARD OF 'laws.FnExactTermSize'. -/
def fnExactTermSizeCard : Claim7 := { stood := { row := fnExactTermSizeRow, standIns := [], harness := (true, "252738d4027d7a57d72336bde1fc719c146c855e3989cc79eefe4338b54421df"), looks := true }, kinds := [], alts := [], laidByText := true, laidKinds := [.data, .data, .data, .sentinel, .sentinel], laidTests := true, laidLooks := .later }
def FnExactTermSizeCardSaid : Prop := Claim7.holds Tryz.pinned (.plain (OpenSpec.ofChange fnExactTermSizeSpec)) fnExactTermSizeCard

/-- THE TIED CARD OF 'laws.FnExactTermNames'. -/
def fnExactTermNamesCard : Claim7 := { stood := { row := fnExactTermNamesRow, standIns := [], harness := (true, "252738d4027d7a57d72336bde1fc719c146c855e3989cc79eefe4338b54421df"), looks := true }, kinds := [], alts := [], laidByText := true, laidKinds := [.data, .data, .data, .sentinel, .sentinel], laidTests := true, laidLooks := .later }
def FnExactTermNamesCardSaid : Prop := Claim7.holds Tryz.pinned (.plain (OpenSpec.ofChange fnExactTermNamesSpec)) fnExactTermNamesCard

/-- THE TIED CARD OF 'laws.FnExactTermDegree'. -/
def fnExactTermDegreeCard : Claim7 := { stood := { row := fnExactTermDegreeRow, standIns := [], harness := (true, "252738d4027d7a57d72336bde1fc719c146c855e3989cc79eefe4338b54421df"), looks := true }, kinds := [], alts := [], laidByText := true, laidKinds := [.data, .data, .data, .sentinel, .sentinel], laidTests := true, laidLooks := .later }
def FnExactTermDegreeCardSaid : Prop := Claim7.holds Tryz.pinned (.plain (OpenSpec.ofChange fnExactTermDegreeSpec)) fnExactTermDegreeCard

/-- THE TIED CARD OF 'laws.FnExactTermKids'. -/
def fnExactTermKidsCard : Claim7 := { stood := { row := fnExactTermKidsRow, standIns := [], harness := (true, "252738d4027d7a57d72336bde1fc719c146c855e3989cc79eefe4338b54421df"), looks := true }, kinds := [], alts := [], laidByText := true, laidKinds := [.data, .data, .data, .sentinel, .sentinel], laidTests := true, laidLooks := .later }
def FnExactTermKidsCardSaid : Prop := Claim7.holds Tryz.pinned (.plain (OpenSpec.ofChange fnExactTermKidsSpec)) fnExactTermKidsCard

/-- THE TIED CARD OF 'laws.FnExactBagSort'. -/
def fnExactBagSortCard : Claim7 := { stood := { row := fnExactBagSortRow, standIns := [], harness := (true, "252738d4027d7a57d72336bde1fc719c146c855e3989cc79eefe4338b54421df"), looks := true }, kinds := [], alts := [], laidByText := true, laidKinds := [.data, .data, .data, .sentinel, .sentinel], laidTests := true, laidLooks := .later }
def FnExactBagSortCardSaid : Prop := Claim7.holds Tryz.pinned (.plain (OpenSpec.ofChange fnExactBagSortSpec)) fnExactBagSortCard

/-- THE TIED CARD OF 'laws.FnExactTermRename'. -/
def fnExactTermRenameCard : Claim7 := { stood := { row := fnExactTermRenameRow, standIns := [], harness := (true, "252738d4027d7a57d72336bde1fc719c146c855e3989cc79eefe4338b54421df"), looks := true }, kinds := [], alts := [], laidByText := true, laidKinds := [.data, .data, .data, .sentinel, .sentinel], laidTests := true, laidLooks := .later }
def FnExactTermRenameCardSaid : Prop := Claim7.holds Tryz.pinned (.plain (OpenSpec.ofChange fnExactTermRenameSpec)) fnExactTermRenameCard

/-- THE TIED CARD OF 'laws.FnExactTermBind'. -/
def fnExactTermBindCard : Claim7 := { stood := { row := fnExactTermBindRow, standIns := [], harness := (true, "252738d4027d7a57d72336bde1fc719c146c855e3989cc79eefe4338b54421df"), looks := true }, kinds := [], alts := [], laidByText := true, laidKinds := [.data, .data, .data, .sentinel, .sentinel], laidTests := true, laidLooks := .later }
def FnExactTermBindCardSaid : Prop := Claim7.holds Tryz.pinned (.plain (OpenSpec.ofChange fnExactTermBindSpec)) fnExactTermBindCard

/-- THE TIED CARD OF 'laws.FnExactTermOpen'. -/
def fnExactTermOpenCard : Claim7 := { stood := { row := fnExactTermOpenRow, standIns := [], harness := (true, "252738d4027d7a57d72336bde1fc719c146c855e3989cc79eefe4338b54421df"), looks := true }, kinds := [], alts := [], laidByText := true, laidKinds := [.data, .data, .data, .sentinel, .sentinel], laidTests := true, laidLooks := .later }
def FnExactTermOpenCardSaid : Prop := Claim7.holds Tryz.pinned (.plain (OpenSpec.ofChange fnExactTermOpenSpec)) fnExactTermOpenCard

/-- THE SECOND FORM's CARD OF 'laws.FnExactTermValid'. -/
def fnExactTermValidUptoCard : Claim7 := { stood := { row := fnExactTermValidUptoRow, standIns := [], harness := (true, "252738d4027d7a57d72336bde1fc719c146c855e3989cc79eefe4338b54421df"), looks := true }, kinds := [], alts := [], laidByText := true, laidKinds := [.data, .data, .data, .sentinel, .sentinel], laidTests := true, laidLooks := .later }
def FnExactTermValidUptoCardSaid : Prop := Claim7.holds Tryz.pinned (.plain (OpenSpec.upto fnExactTermValidSpec)) fnExactTermValidUptoCard

/-- THE SECOND FORM's CARD OF 'laws.FnExactTermSort'. -/
def fnExactTermSortUptoCard : Claim7 := { stood := { row := fnExactTermSortUptoRow, standIns := [], harness := (true, "252738d4027d7a57d72336bde1fc719c146c855e3989cc79eefe4338b54421df"), looks := true }, kinds := [], alts := [], laidByText := true, laidKinds := [.data, .data, .data, .sentinel, .sentinel], laidTests := true, laidLooks := .later }
def FnExactTermSortUptoCardSaid : Prop := Claim7.holds Tryz.pinned (.plain (OpenSpec.upto fnExactTermSortSpec)) fnExactTermSortUptoCard

/-- THE SECOND FORM's CARD OF 'laws.FnExactTermSize'. -/
def fnExactTermSizeUptoCard : Claim7 := { stood := { row := fnExactTermSizeUptoRow, standIns := [], harness := (true, "252738d4027d7a57d72336bde1fc719c146c855e3989cc79eefe4338b54421df"), looks := true }, kinds := [], alts := [], laidByText := true, laidKinds := [.data, .data, .data, .sentinel, .sentinel], laidTests := true, laidLooks := .later }
def FnExactTermSizeUptoCardSaid : Prop := Claim7.holds Tryz.pinned (.plain (OpenSpec.upto fnExactTermSizeSpec)) fnExactTermSizeUptoCard

/-- THE SECOND FORM's CARD OF 'laws.FnExactTermNames'. -/
def fnExactTermNamesUptoCard : Claim7 := { stood := { row := fnExactTermNamesUptoRow, standIns := [], harness := (true, "252738d4027d7a57d72336bde1fc719c146c855e3989cc79eefe4338b54421df"), looks := true }, kinds := [], alts := [], laidByText := true, laidKinds := [.data, .data, .data, .sentinel, .sentinel], laidTests := true, laidLooks := .later }
def FnExactTermNamesUptoCardSaid : Prop := Claim7.holds Tryz.pinned (.plain (OpenSpec.upto fnExactTermNamesSpec)) fnExactTermNamesUptoCard

/-- THE SECOND FORM's CARD OF 'laws.FnExactTermDegree'. -/
def fnExactTermDegreeUptoCard : Claim7 := { stood := { row := fnExactTermDegreeUptoRow, standIns := [], harness := (true, "252738d4027d7a57d72336bde1fc719c146c855e3989cc79eefe4338b54421df"), looks := true }, kinds := [], alts := [], laidByText := true, laidKinds := [.data, .data, .data, .sentinel, .sentinel], laidTests := true, laidLooks := .later }
def FnExactTermDegreeUptoCardSaid : Prop := Claim7.holds Tryz.pinned (.plain (OpenSpec.upto fnExactTermDegreeSpec)) fnExactTermDegreeUptoCard

/-- THE SECOND FORM's CARD OF 'laws.FnExactTermKids'. -/
def fnExactTermKidsUptoCard : Claim7 := { stood := { row := fnExactTermKidsUptoRow, standIns := [], harness := (true, "252738d4027d7a57d72336bde1fc719c146c855e3989cc79eefe4338b54421df"), looks := true }, kinds := [], alts := [], laidByText := true, laidKinds := [.data, .data, .data, .sentinel, .sentinel], laidTests := true, laidLooks := .later }
def FnExactTermKidsUptoCardSaid : Prop := Claim7.holds Tryz.pinned (.plain (OpenSpec.upto fnExactTermKidsSpec)) fnExactTermKidsUptoCard

/-- THE SECOND FORM's CARD OF 'laws.FnExactBagSort'. -/
def fnExactBagSortUptoCard : Claim7 := { stood := { row := fnExactBagSortUptoRow, standIns := [], harness := (true, "252738d4027d7a57d72336bde1fc719c146c855e3989cc79eefe4338b54421df"), looks := true }, kinds := [], alts := [], laidByText := true, laidKinds := [.data, .data, .data, .sentinel, .sentinel], laidTests := true, laidLooks := .later }
def FnExactBagSortUptoCardSaid : Prop := Claim7.holds Tryz.pinned (.plain (OpenSpec.upto fnExactBagSortSpec)) fnExactBagSortUptoCard

/-- THE SECOND FORM's CARD OF 'laws.FnExactTermRename'. -/
def fnExactTermRenameUptoCard : Claim7 := { stood := { row := fnExactTermRenameUptoRow, standIns := [], harness := (true, "252738d4027d7a57d72336bde1fc719c146c855e3989cc79eefe4338b54421df"), looks := true }, kinds := [], alts := [], laidByText := true, laidKinds := [.data, .data, .data, .sentinel, .sentinel], laidTests := true, laidLooks := .later }
def FnExactTermRenameUptoCardSaid : Prop := Claim7.holds Tryz.pinned (.plain (OpenSpec.upto fnExactTermRenameSpec)) fnExactTermRenameUptoCard

/-- THE SECOND FORM's CARD OF 'laws.FnExactTermBind'. -/
def fnExactTermBindUptoCard : Claim7 := { stood := { row := fnExactTermBindUptoRow, standIns := [], harness := (true, "252738d4027d7a57d72336bde1fc719c146c855e3989cc79eefe4338b54421df"), looks := true }, kinds := [], alts := [], laidByText := true, laidKinds := [.data, .data, .data, .sentinel, .sentinel], laidTests := true, laidLooks := .later }
def FnExactTermBindUptoCardSaid : Prop := Claim7.holds Tryz.pinned (.plain (OpenSpec.upto fnExactTermBindSpec)) fnExactTermBindUptoCard

/-- THE SECOND FORM's CARD OF 'laws.FnExactTermOpen'. -/
def fnExactTermOpenUptoCard : Claim7 := { stood := { row := fnExactTermOpenUptoRow, standIns := [], harness := (true, "252738d4027d7a57d72336bde1fc719c146c855e3989cc79eefe4338b54421df"), looks := true }, kinds := [], alts := [], laidByText := true, laidKinds := [.data, .data, .data, .sentinel, .sentinel], laidTests := true, laidLooks := .later }
def FnExactTermOpenUptoCardSaid : Prop := Claim7.holds Tryz.pinned (.plain (OpenSpec.upto fnExactTermOpenSpec)) fnExactTermOpenUptoCard
end Rows
end Go.Proofs.YtbcddogkdomjaaaGreatDoor

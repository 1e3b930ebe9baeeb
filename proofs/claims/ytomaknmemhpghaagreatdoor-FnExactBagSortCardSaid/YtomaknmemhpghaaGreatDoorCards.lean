/-
  DERIVED. GIVEN WITH THE SEED: THE CARDS: each row of YtomaknmemhpghaaGreatDoorRows.lean that lists a variable, with what it lists TIED to the program's text (the seventh form; the later family's looks); each row that meets fmt, with fmt's text TOLD by the authors' own Lean function (tested against real Go, not proved from fmt's source: count such statements apart). THE CARD IS WHAT COUNTS. Prove the row's statement (the work); the ties are given (YtomaknmemhpghaaGreatDoorTie.lean); close each card by the builder's one call (the guide's Derived/Test/ToyasCard.lean, 'card_holds'). Laid BY PROGRAM, IN A SANDBOX (cutbox-door.mjs). By AI agents, Wed Nov 11 2026. No macro, syntax, notation, axiom, sorry.
-/
import Derived.Test.YtomaknmemhpghaaGreatDoorRows
import GoSem.ClaimSeven
namespace Go.Proofs.YtomaknmemhpghaaGreatDoor
namespace Rows

/-- THE TIED CARD OF 'laws.FnTerm'. -/
def fnTermCard : Claim7 := { stood := { row := fnTermRow, standIns := [], harness := (true, "0bef8010c3dd62bf8b6f2897d5f6f4e1c4fa7578a095740b4c227577a20613e1"), looks := true }, kinds := [], alts := [], laidByText := true, laidKinds := [.data, .data, .data, .sentinel, .sentinel], laidTests := true, laidLooks := .later }
def FnTermCardSaid : Prop := Claim7.holds Tryz.pinned (.plain (OpenSpec.ofChange fnTermSpec)) fnTermCard

/-- THE TIED CARD OF 'laws.FnSort'. -/
def fnSortCard : Claim7 := { stood := { row := fnSortRow, standIns := [], harness := (true, "0bef8010c3dd62bf8b6f2897d5f6f4e1c4fa7578a095740b4c227577a20613e1"), looks := true }, kinds := [], alts := [], laidByText := true, laidKinds := [.data, .data, .data, .sentinel, .sentinel], laidTests := true, laidLooks := .later }
def FnSortCardSaid : Prop := Claim7.holds Tryz.pinned (.plain (OpenSpec.ofChange fnSortSpec)) fnSortCard

/-- THE TIED CARD OF 'laws.FnSize'. -/
def fnSizeCard : Claim7 := { stood := { row := fnSizeRow, standIns := [], harness := (true, "0bef8010c3dd62bf8b6f2897d5f6f4e1c4fa7578a095740b4c227577a20613e1"), looks := true }, kinds := [], alts := [], laidByText := true, laidKinds := [.data, .data, .data, .sentinel, .sentinel], laidTests := true, laidLooks := .later }
def FnSizeCardSaid : Prop := Claim7.holds Tryz.pinned (.plain (OpenSpec.ofChange fnSizeSpec)) fnSizeCard

/-- THE TIED CARD OF 'laws.FnBind'. -/
def fnBindCard : Claim7 := { stood := { row := fnBindRow, standIns := [], harness := (true, "0bef8010c3dd62bf8b6f2897d5f6f4e1c4fa7578a095740b4c227577a20613e1"), looks := true }, kinds := [], alts := [], laidByText := true, laidKinds := [.data, .data, .data, .sentinel, .sentinel], laidTests := true, laidLooks := .later }
def FnBindCardSaid : Prop := Claim7.holds Tryz.pinned (.plain (OpenSpec.ofChange fnBindSpec)) fnBindCard

/-- THE TIED CARD OF 'laws.FnHead'. -/
def fnHeadCard : Claim7 := { stood := { row := fnHeadRow, standIns := [], harness := (true, "0bef8010c3dd62bf8b6f2897d5f6f4e1c4fa7578a095740b4c227577a20613e1"), looks := true }, kinds := [], alts := [], laidByText := true, laidKinds := [.data, .data, .data, .sentinel, .sentinel], laidTests := true, laidLooks := .later }
def FnHeadCardSaid : Prop := Claim7.holds Tryz.pinned (.plain (OpenSpec.ofChange fnHeadSpec)) fnHeadCard

/-- THE TIED CARD OF 'laws.FnExactTermNames'. -/
def fnExactTermNamesCard : Claim7 := { stood := { row := fnExactTermNamesRow, standIns := [], harness := (true, "0bef8010c3dd62bf8b6f2897d5f6f4e1c4fa7578a095740b4c227577a20613e1"), looks := true }, kinds := [], alts := [], laidByText := true, laidKinds := [.data, .data, .data, .sentinel, .sentinel], laidTests := true, laidLooks := .later }
def FnExactTermNamesCardSaid : Prop := Claim7.holds Tryz.pinned (.plain (OpenSpec.ofChange fnExactTermNamesSpec)) fnExactTermNamesCard

/-- THE TIED CARD OF 'laws.FnExactTermDegree'. -/
def fnExactTermDegreeCard : Claim7 := { stood := { row := fnExactTermDegreeRow, standIns := [], harness := (true, "0bef8010c3dd62bf8b6f2897d5f6f4e1c4fa7578a095740b4c227577a20613e1"), looks := true }, kinds := [], alts := [], laidByText := true, laidKinds := [.data, .data, .data, .sentinel, .sentinel], laidTests := true, laidLooks := .later }
def FnExactTermDegreeCardSaid : Prop := Claim7.holds Tryz.pinned (.plain (OpenSpec.ofChange fnExactTermDegreeSpec)) fnExactTermDegreeCard

/-- THE TIED CARD OF 'laws.FnExactTermKids'. -/
def fnExactTermKidsCard : Claim7 := { stood := { row := fnExactTermKidsRow, standIns := [], harness := (true, "0bef8010c3dd62bf8b6f2897d5f6f4e1c4fa7578a095740b4c227577a20613e1"), looks := true }, kinds := [], alts := [], laidByText := true, laidKinds := [.data, .data, .data, .sentinel, .sentinel], laidTests := true, laidLooks := .later }
def FnExactTermKidsCardSaid : Prop := Claim7.holds Tryz.pinned (.plain (OpenSpec.ofChange fnExactTermKidsSpec)) fnExactTermKidsCard

/-- THE TIED CARD OF 'laws.FnExactBagSort'. -/
def fnExactBagSortCard : Claim7 := { stood := { row := fnExactBagSortRow, standIns := [], harness := (true, "0bef8010c3dd62bf8b6f2897d5f6f4e1c4fa7578a095740b4c227577a20613e1"), looks := true }, kinds := [], alts := [], laidByText := true, laidKinds := [.data, .data, .data, .sentinel, .sentinel], laidTests := true, laidLooks := .later }
def FnExactBagSortCardSaid : Prop := Claim7.holds Tryz.pinned (.plain (OpenSpec.ofChange fnExactBagSortSpec)) fnExactBagSortCard

/-- THE TIED CARD OF 'laws.FnExactTermRename'. -/
def fnExactTermRenameCard : Claim7 := { stood := { row := fnExactTermRenameRow, standIns := [], harness := (true, "0bef8010c3dd62bf8b6f2897d5f6f4e1c4fa7578a095740b4c227577a20613e1"), looks := true }, kinds := [], alts := [], laidByText := true, laidKinds := [.data, .data, .data, .sentinel, .sentinel], laidTests := true, laidLooks := .later }
def FnExactTermRenameCardSaid : Prop := Claim7.holds Tryz.pinned (.plain (OpenSpec.ofChange fnExactTermRenameSpec)) fnExactTermRenameCard

/-- THE TIED CARD OF 'laws.FnExactTermBind'. -/
def fnExactTermBindCard : Claim7 := { stood := { row := fnExactTermBindRow, standIns := [], harness := (true, "0bef8010c3dd62bf8b6f2897d5f6f4e1c4fa7578a095740b4c227577a20613e1"), looks := true }, kinds := [], alts := [], laidByText := true, laidKinds := [.data, .data, .data, .sentinel, .sentinel], laidTests := true, laidLooks := .later }
def FnExactTermBindCardSaid : Prop := Claim7.holds Tryz.pinned (.plain (OpenSpec.ofChange fnExactTermBindSpec)) fnExactTermBindCard

/-- THE TIED CARD OF 'laws.FnExactTermOpen'. -/
def fnExactTermOpenCard : Claim7 := { stood := { row := fnExactTermOpenRow, standIns := [], harness := (true, "0bef8010c3dd62bf8b6f2897d5f6f4e1c4fa7578a095740b4c227577a20613e1"), looks := true }, kinds := [], alts := [], laidByText := true, laidKinds := [.data, .data, .data, .sentinel, .sentinel], laidTests := true, laidLooks := .later }
def FnExactTermOpenCardSaid : Prop := Claim7.holds Tryz.pinned (.plain (OpenSpec.ofChange fnExactTermOpenSpec)) fnExactTermOpenCard

/-- THE SECOND FORM's CARD OF 'laws.FnTerm'. -/
def fnTermUptoCard : Claim7 := { stood := { row := fnTermUptoRow, standIns := [], harness := (true, "0bef8010c3dd62bf8b6f2897d5f6f4e1c4fa7578a095740b4c227577a20613e1"), looks := true }, kinds := [], alts := [], laidByText := true, laidKinds := [.data, .data, .data, .sentinel, .sentinel], laidTests := true, laidLooks := .later }
def FnTermUptoCardSaid : Prop := Claim7.holds Tryz.pinned (.plain (OpenSpec.upto fnTermSpec)) fnTermUptoCard

/-- THE SECOND FORM's CARD OF 'laws.FnSort'. -/
def fnSortUptoCard : Claim7 := { stood := { row := fnSortUptoRow, standIns := [], harness := (true, "0bef8010c3dd62bf8b6f2897d5f6f4e1c4fa7578a095740b4c227577a20613e1"), looks := true }, kinds := [], alts := [], laidByText := true, laidKinds := [.data, .data, .data, .sentinel, .sentinel], laidTests := true, laidLooks := .later }
def FnSortUptoCardSaid : Prop := Claim7.holds Tryz.pinned (.plain (OpenSpec.upto fnSortSpec)) fnSortUptoCard

/-- THE SECOND FORM's CARD OF 'laws.FnSize'. -/
def fnSizeUptoCard : Claim7 := { stood := { row := fnSizeUptoRow, standIns := [], harness := (true, "0bef8010c3dd62bf8b6f2897d5f6f4e1c4fa7578a095740b4c227577a20613e1"), looks := true }, kinds := [], alts := [], laidByText := true, laidKinds := [.data, .data, .data, .sentinel, .sentinel], laidTests := true, laidLooks := .later }
def FnSizeUptoCardSaid : Prop := Claim7.holds Tryz.pinned (.plain (OpenSpec.upto fnSizeSpec)) fnSizeUptoCard

/-- THE SECOND FORM's CARD OF 'laws.FnBind'. -/
def fnBindUptoCard : Claim7 := { stood := { row := fnBindUptoRow, standIns := [], harness := (true, "0bef8010c3dd62bf8b6f2897d5f6f4e1c4fa7578a095740b4c227577a20613e1"), looks := true }, kinds := [], alts := [], laidByText := true, laidKinds := [.data, .data, .data, .sentinel, .sentinel], laidTests := true, laidLooks := .later }
def FnBindUptoCardSaid : Prop := Claim7.holds Tryz.pinned (.plain (OpenSpec.upto fnBindSpec)) fnBindUptoCard

/-- THE SECOND FORM's CARD OF 'laws.FnHead'. -/
def fnHeadUptoCard : Claim7 := { stood := { row := fnHeadUptoRow, standIns := [], harness := (true, "0bef8010c3dd62bf8b6f2897d5f6f4e1c4fa7578a095740b4c227577a20613e1"), looks := true }, kinds := [], alts := [], laidByText := true, laidKinds := [.data, .data, .data, .sentinel, .sentinel], laidTests := true, laidLooks := .later }
def FnHeadUptoCardSaid : Prop := Claim7.holds Tryz.pinned (.plain (OpenSpec.upto fnHeadSpec)) fnHeadUptoCard

/-- THE SECOND FORM's CARD OF 'laws.FnExactTermNames'. -/
def fnExactTermNamesUptoCard : Claim7 := { stood := { row := fnExactTermNamesUptoRow, standIns := [], harness := (true, "0bef8010c3dd62bf8b6f2897d5f6f4e1c4fa7578a095740b4c227577a20613e1"), looks := true }, kinds := [], alts := [], laidByText := true, laidKinds := [.data, .data, .data, .sentinel, .sentinel], laidTests := true, laidLooks := .later }
def FnExactTermNamesUptoCardSaid : Prop := Claim7.holds Tryz.pinned (.plain (OpenSpec.upto fnExactTermNamesSpec)) fnExactTermNamesUptoCard

/-- THE SECOND FORM's CARD OF 'laws.FnExactTermDegree'. -/
def fnExactTermDegreeUptoCard : Claim7 := { stood := { row := fnExactTermDegreeUptoRow, standIns := [], harness := (true, "0bef8010c3dd62bf8b6f2897d5f6f4e1c4fa7578a095740b4c227577a20613e1"), looks := true }, kinds := [], alts := [], laidByText := true, laidKinds := [.data, .data, .data, .sentinel, .sentinel], laidTests := true, laidLooks := .later }
def FnExactTermDegreeUptoCardSaid : Prop := Claim7.holds Tryz.pinned (.plain (OpenSpec.upto fnExactTermDegreeSpec)) fnExactTermDegreeUptoCard

/-- THE SECOND FORM's CARD OF 'laws.FnExactTermKids'. -/
def fnExactTermKidsUptoCard : Claim7 := { stood := { row := fnExactTermKidsUptoRow, standIns := [], harness := (true, "0bef8010c3dd62bf8b6f2897d5f6f4e1c4fa7578a095740b4c227577a20613e1"), looks := true }, kinds := [], alts := [], laidByText := true, laidKinds := [.data, .data, .data, .sentinel, .sentinel], laidTests := true, laidLooks := .later }
def FnExactTermKidsUptoCardSaid : Prop := Claim7.holds Tryz.pinned (.plain (OpenSpec.upto fnExactTermKidsSpec)) fnExactTermKidsUptoCard

/-- THE SECOND FORM's CARD OF 'laws.FnExactBagSort'. -/
def fnExactBagSortUptoCard : Claim7 := { stood := { row := fnExactBagSortUptoRow, standIns := [], harness := (true, "0bef8010c3dd62bf8b6f2897d5f6f4e1c4fa7578a095740b4c227577a20613e1"), looks := true }, kinds := [], alts := [], laidByText := true, laidKinds := [.data, .data, .data, .sentinel, .sentinel], laidTests := true, laidLooks := .later }
def FnExactBagSortUptoCardSaid : Prop := Claim7.holds Tryz.pinned (.plain (OpenSpec.upto fnExactBagSortSpec)) fnExactBagSortUptoCard

/-- THE SECOND FORM's CARD OF 'laws.FnExactTermRename'. -/
def fnExactTermRenameUptoCard : Claim7 := { stood := { row := fnExactTermRenameUptoRow, standIns := [], harness := (true, "0bef8010c3dd62bf8b6f2897d5f6f4e1c4fa7578a095740b4c227577a20613e1"), looks := true }, kinds := [], alts := [], laidByText := true, laidKinds := [.data, .data, .data, .sentinel, .sentinel], laidTests := true, laidLooks := .later }
def FnExactTermRenameUptoCardSaid : Prop := Claim7.holds Tryz.pinned (.plain (OpenSpec.upto fnExactTermRenameSpec)) fnExactTermRenameUptoCard

/-- THE SECOND FORM's CARD OF 'laws.FnExactTermBind'. -/
def fnExactTermBindUptoCard : Claim7 := { stood := { row := fnExactTermBindUptoRow, standIns := [], harness := (true, "0bef8010c3dd62bf8b6f2897d5f6f4e1c4fa7578a095740b4c227577a20613e1"), looks := true }, kinds := [], alts := [], laidByText := true, laidKinds := [.data, .data, .data, .sentinel, .sentinel], laidTests := true, laidLooks := .later }
def FnExactTermBindUptoCardSaid : Prop := Claim7.holds Tryz.pinned (.plain (OpenSpec.upto fnExactTermBindSpec)) fnExactTermBindUptoCard

/-- THE SECOND FORM's CARD OF 'laws.FnExactTermOpen'. -/
def fnExactTermOpenUptoCard : Claim7 := { stood := { row := fnExactTermOpenUptoRow, standIns := [], harness := (true, "0bef8010c3dd62bf8b6f2897d5f6f4e1c4fa7578a095740b4c227577a20613e1"), looks := true }, kinds := [], alts := [], laidByText := true, laidKinds := [.data, .data, .data, .sentinel, .sentinel], laidTests := true, laidLooks := .later }
def FnExactTermOpenUptoCardSaid : Prop := Claim7.holds Tryz.pinned (.plain (OpenSpec.upto fnExactTermOpenSpec)) fnExactTermOpenUptoCard
end Rows
end Go.Proofs.YtomaknmemhpghaaGreatDoor

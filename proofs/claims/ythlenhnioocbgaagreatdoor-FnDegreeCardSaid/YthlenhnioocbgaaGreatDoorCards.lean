/-
  DERIVED. GIVEN WITH THE SEED: THE CARDS: each row of YthlenhnioocbgaaGreatDoorRows.lean that lists a variable, with what it lists TIED to the program's text (the seventh form; the later family's looks); each row that meets fmt, with fmt's text TOLD by the authors' own Lean function (tested against real Go, not proved from fmt's source: count such statements apart). THE CARD IS WHAT COUNTS. Prove the row's statement (the work); the ties are given (YthlenhnioocbgaaGreatDoorTie.lean); close each card by the builder's one call (the guide's Derived/Test/ToyasCard.lean, 'card_holds'). Laid BY PROGRAM, IN A SANDBOX (cutbox-door.mjs). By AI agents, Wed Nov 11 2026. No macro, syntax, notation, axiom, sorry.
-/
import Derived.Test.YthlenhnioocbgaaGreatDoorRows
import GoSem.ClaimSeven
namespace Go.Proofs.YthlenhnioocbgaaGreatDoor
namespace Rows

/-- THE TIED CARD OF 'laws.FnSort'. -/
def fnSortCard : Claim7 := { stood := { row := fnSortRow, standIns := [], harness := (true, "1d576a731dac84acefe0e17e7d6f5073cffdd7cb0a3411945f0734f65f0036a5"), looks := true }, kinds := [], alts := [], laidByText := true, laidKinds := [.data, .data, .data, .sentinel, .sentinel], laidTests := true, laidLooks := .later }
def FnSortCardSaid : Prop := Claim7.holds Tryz.pinned (.plain (OpenSpec.ofChange fnSortSpec)) fnSortCard

/-- THE TIED CARD OF 'laws.FnNames'. -/
def fnNamesCard : Claim7 := { stood := { row := fnNamesRow, standIns := [], harness := (true, "1d576a731dac84acefe0e17e7d6f5073cffdd7cb0a3411945f0734f65f0036a5"), looks := true }, kinds := [], alts := [], laidByText := true, laidKinds := [.data, .data, .data, .sentinel, .sentinel], laidTests := true, laidLooks := .later }
def FnNamesCardSaid : Prop := Claim7.holds Tryz.pinned (.plain (OpenSpec.ofChange fnNamesSpec)) fnNamesCard

/-- THE TIED CARD OF 'laws.FnDegree'. -/
def fnDegreeCard : Claim7 := { stood := { row := fnDegreeRow, standIns := [], harness := (true, "1d576a731dac84acefe0e17e7d6f5073cffdd7cb0a3411945f0734f65f0036a5"), looks := true }, kinds := [], alts := [], laidByText := true, laidKinds := [.data, .data, .data, .sentinel, .sentinel], laidTests := true, laidLooks := .later }
def FnDegreeCardSaid : Prop := Claim7.holds Tryz.pinned (.plain (OpenSpec.ofChange fnDegreeSpec)) fnDegreeCard

/-- THE TIED CARD OF 'laws.FnKids'. -/
def fnKidsCard : Claim7 := { stood := { row := fnKidsRow, standIns := [], harness := (true, "1d576a731dac84acefe0e17e7d6f5073cffdd7cb0a3411945f0734f65f0036a5"), looks := true }, kinds := [], alts := [], laidByText := true, laidKinds := [.data, .data, .data, .sentinel, .sentinel], laidTests := true, laidLooks := .later }
def FnKidsCardSaid : Prop := Claim7.holds Tryz.pinned (.plain (OpenSpec.ofChange fnKidsSpec)) fnKidsCard

/-- THE TIED CARD OF 'laws.FnBag'. -/
def fnBagCard : Claim7 := { stood := { row := fnBagRow, standIns := [], harness := (true, "1d576a731dac84acefe0e17e7d6f5073cffdd7cb0a3411945f0734f65f0036a5"), looks := true }, kinds := [], alts := [], laidByText := true, laidKinds := [.data, .data, .data, .sentinel, .sentinel], laidTests := true, laidLooks := .later }
def FnBagCardSaid : Prop := Claim7.holds Tryz.pinned (.plain (OpenSpec.ofChange fnBagSpec)) fnBagCard

/-- THE TIED CARD OF 'laws.FnRename'. -/
def fnRenameCard : Claim7 := { stood := { row := fnRenameRow, standIns := [], harness := (true, "1d576a731dac84acefe0e17e7d6f5073cffdd7cb0a3411945f0734f65f0036a5"), looks := true }, kinds := [], alts := [], laidByText := true, laidKinds := [.data, .data, .data, .sentinel, .sentinel], laidTests := true, laidLooks := .later }
def FnRenameCardSaid : Prop := Claim7.holds Tryz.pinned (.plain (OpenSpec.ofChange fnRenameSpec)) fnRenameCard

/-- THE TIED CARD OF 'laws.FnExactTermKids'. -/
def fnExactTermKidsCard : Claim7 := { stood := { row := fnExactTermKidsRow, standIns := [], harness := (true, "1d576a731dac84acefe0e17e7d6f5073cffdd7cb0a3411945f0734f65f0036a5"), looks := true }, kinds := [], alts := [], laidByText := true, laidKinds := [.data, .data, .data, .sentinel, .sentinel], laidTests := true, laidLooks := .later }
def FnExactTermKidsCardSaid : Prop := Claim7.holds Tryz.pinned (.plain (OpenSpec.ofChange fnExactTermKidsSpec)) fnExactTermKidsCard

/-- THE TIED CARD OF 'laws.FnExactBagSort'. -/
def fnExactBagSortCard : Claim7 := { stood := { row := fnExactBagSortRow, standIns := [], harness := (true, "1d576a731dac84acefe0e17e7d6f5073cffdd7cb0a3411945f0734f65f0036a5"), looks := true }, kinds := [], alts := [], laidByText := true, laidKinds := [.data, .data, .data, .sentinel, .sentinel], laidTests := true, laidLooks := .later }
def FnExactBagSortCardSaid : Prop := Claim7.holds Tryz.pinned (.plain (OpenSpec.ofChange fnExactBagSortSpec)) fnExactBagSortCard

/-- THE TIED CARD OF 'laws.FnExactTermOpen'. -/
def fnExactTermOpenCard : Claim7 := { stood := { row := fnExactTermOpenRow, standIns := [], harness := (true, "1d576a731dac84acefe0e17e7d6f5073cffdd7cb0a3411945f0734f65f0036a5"), looks := true }, kinds := [], alts := [], laidByText := true, laidKinds := [.data, .data, .data, .sentinel, .sentinel], laidTests := true, laidLooks := .later }
def FnExactTermOpenCardSaid : Prop := Claim7.holds Tryz.pinned (.plain (OpenSpec.ofChange fnExactTermOpenSpec)) fnExactTermOpenCard

/-- THE SECOND FORM's CARD OF 'laws.FnSort'. -/
def fnSortUptoCard : Claim7 := { stood := { row := fnSortUptoRow, standIns := [], harness := (true, "1d576a731dac84acefe0e17e7d6f5073cffdd7cb0a3411945f0734f65f0036a5"), looks := true }, kinds := [], alts := [], laidByText := true, laidKinds := [.data, .data, .data, .sentinel, .sentinel], laidTests := true, laidLooks := .later }
def FnSortUptoCardSaid : Prop := Claim7.holds Tryz.pinned (.plain (OpenSpec.upto fnSortSpec)) fnSortUptoCard

/-- THE SECOND FORM's CARD OF 'laws.FnNames'. -/
def fnNamesUptoCard : Claim7 := { stood := { row := fnNamesUptoRow, standIns := [], harness := (true, "1d576a731dac84acefe0e17e7d6f5073cffdd7cb0a3411945f0734f65f0036a5"), looks := true }, kinds := [], alts := [], laidByText := true, laidKinds := [.data, .data, .data, .sentinel, .sentinel], laidTests := true, laidLooks := .later }
def FnNamesUptoCardSaid : Prop := Claim7.holds Tryz.pinned (.plain (OpenSpec.upto fnNamesSpec)) fnNamesUptoCard

/-- THE SECOND FORM's CARD OF 'laws.FnDegree'. -/
def fnDegreeUptoCard : Claim7 := { stood := { row := fnDegreeUptoRow, standIns := [], harness := (true, "1d576a731dac84acefe0e17e7d6f5073cffdd7cb0a3411945f0734f65f0036a5"), looks := true }, kinds := [], alts := [], laidByText := true, laidKinds := [.data, .data, .data, .sentinel, .sentinel], laidTests := true, laidLooks := .later }
def FnDegreeUptoCardSaid : Prop := Claim7.holds Tryz.pinned (.plain (OpenSpec.upto fnDegreeSpec)) fnDegreeUptoCard

/-- THE SECOND FORM's CARD OF 'laws.FnKids'. -/
def fnKidsUptoCard : Claim7 := { stood := { row := fnKidsUptoRow, standIns := [], harness := (true, "1d576a731dac84acefe0e17e7d6f5073cffdd7cb0a3411945f0734f65f0036a5"), looks := true }, kinds := [], alts := [], laidByText := true, laidKinds := [.data, .data, .data, .sentinel, .sentinel], laidTests := true, laidLooks := .later }
def FnKidsUptoCardSaid : Prop := Claim7.holds Tryz.pinned (.plain (OpenSpec.upto fnKidsSpec)) fnKidsUptoCard

/-- THE SECOND FORM's CARD OF 'laws.FnBag'. -/
def fnBagUptoCard : Claim7 := { stood := { row := fnBagUptoRow, standIns := [], harness := (true, "1d576a731dac84acefe0e17e7d6f5073cffdd7cb0a3411945f0734f65f0036a5"), looks := true }, kinds := [], alts := [], laidByText := true, laidKinds := [.data, .data, .data, .sentinel, .sentinel], laidTests := true, laidLooks := .later }
def FnBagUptoCardSaid : Prop := Claim7.holds Tryz.pinned (.plain (OpenSpec.upto fnBagSpec)) fnBagUptoCard

/-- THE SECOND FORM's CARD OF 'laws.FnRename'. -/
def fnRenameUptoCard : Claim7 := { stood := { row := fnRenameUptoRow, standIns := [], harness := (true, "1d576a731dac84acefe0e17e7d6f5073cffdd7cb0a3411945f0734f65f0036a5"), looks := true }, kinds := [], alts := [], laidByText := true, laidKinds := [.data, .data, .data, .sentinel, .sentinel], laidTests := true, laidLooks := .later }
def FnRenameUptoCardSaid : Prop := Claim7.holds Tryz.pinned (.plain (OpenSpec.upto fnRenameSpec)) fnRenameUptoCard

/-- THE SECOND FORM's CARD OF 'laws.FnExactTermKids'. -/
def fnExactTermKidsUptoCard : Claim7 := { stood := { row := fnExactTermKidsUptoRow, standIns := [], harness := (true, "1d576a731dac84acefe0e17e7d6f5073cffdd7cb0a3411945f0734f65f0036a5"), looks := true }, kinds := [], alts := [], laidByText := true, laidKinds := [.data, .data, .data, .sentinel, .sentinel], laidTests := true, laidLooks := .later }
def FnExactTermKidsUptoCardSaid : Prop := Claim7.holds Tryz.pinned (.plain (OpenSpec.upto fnExactTermKidsSpec)) fnExactTermKidsUptoCard

/-- THE SECOND FORM's CARD OF 'laws.FnExactBagSort'. -/
def fnExactBagSortUptoCard : Claim7 := { stood := { row := fnExactBagSortUptoRow, standIns := [], harness := (true, "1d576a731dac84acefe0e17e7d6f5073cffdd7cb0a3411945f0734f65f0036a5"), looks := true }, kinds := [], alts := [], laidByText := true, laidKinds := [.data, .data, .data, .sentinel, .sentinel], laidTests := true, laidLooks := .later }
def FnExactBagSortUptoCardSaid : Prop := Claim7.holds Tryz.pinned (.plain (OpenSpec.upto fnExactBagSortSpec)) fnExactBagSortUptoCard

/-- THE SECOND FORM's CARD OF 'laws.FnExactTermOpen'. -/
def fnExactTermOpenUptoCard : Claim7 := { stood := { row := fnExactTermOpenUptoRow, standIns := [], harness := (true, "1d576a731dac84acefe0e17e7d6f5073cffdd7cb0a3411945f0734f65f0036a5"), looks := true }, kinds := [], alts := [], laidByText := true, laidKinds := [.data, .data, .data, .sentinel, .sentinel], laidTests := true, laidLooks := .later }
def FnExactTermOpenUptoCardSaid : Prop := Claim7.holds Tryz.pinned (.plain (OpenSpec.upto fnExactTermOpenSpec)) fnExactTermOpenUptoCard
end Rows
end Go.Proofs.YthlenhnioocbgaaGreatDoor

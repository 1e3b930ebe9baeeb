/-
  DERIVED. GIVEN WITH THE SEED: THE CARDS: each row of YtggbccmhpnfedaaGreatDoorRows.lean that lists a variable, with what it lists TIED to the program's text (the seventh form; the later family's looks); each row that meets fmt, with fmt's text TOLD by the authors' own Lean function (tested against real Go, not proved from fmt's source: count such statements apart). THE CARD IS WHAT COUNTS. Prove the row's statement (the work); the ties are given (YtggbccmhpnfedaaGreatDoorTie.lean); close each card by the builder's one call (the guide's Derived/Test/ToyasCard.lean, 'card_holds'). Laid BY PROGRAM, IN A SANDBOX (cutbox-door.mjs). By AI agents, Wed Nov 11 2026. No macro, syntax, notation, axiom, sorry.
-/
import Derived.Test.YtggbccmhpnfedaaGreatDoorRows
import GoSem.ClaimSeven
namespace Go.Proofs.YtggbccmhpnfedaaGreatDoor
namespace Rows

/-- THE TIED CARD OF 'laws.FnExactSumValid'. -/
def fnExactSumValidCard : Claim7 := { stood := { row := fnExactSumValidRow, standIns := [], harness := (true, "30bc547df744211d8fcfec95ad7d6b1ef1e5cf4732165c275618d7480a68b3cb"), looks := true }, kinds := [], alts := [], laidByText := true, laidKinds := [.data, .data, .data, .sentinel, .sentinel], laidTests := true, laidLooks := .later }
def FnExactSumValidCardSaid : Prop := Claim7.holds Tryz.pinned (.plain (OpenSpec.ofChange fnExactSumValidSpec)) fnExactSumValidCard

/-- THE TIED CARD OF 'laws.FnExactSumOf'. -/
def fnExactSumOfCard : Claim7 := { stood := { row := fnExactSumOfRow, standIns := [], harness := (true, "30bc547df744211d8fcfec95ad7d6b1ef1e5cf4732165c275618d7480a68b3cb"), looks := true }, kinds := [], alts := [], laidByText := true, laidKinds := [.data, .data, .data, .sentinel, .sentinel], laidTests := true, laidLooks := .later }
def FnExactSumOfCardSaid : Prop := Claim7.holds Tryz.pinned (.plain (OpenSpec.ofChange fnExactSumOfSpec)) fnExactSumOfCard

/-- THE TIED CARD OF 'laws.FnExactSumTimes'. -/
def fnExactSumTimesCard : Claim7 := { stood := { row := fnExactSumTimesRow, standIns := [], harness := (true, "30bc547df744211d8fcfec95ad7d6b1ef1e5cf4732165c275618d7480a68b3cb"), looks := true }, kinds := [], alts := [], laidByText := true, laidKinds := [.data, .data, .data, .sentinel, .sentinel], laidTests := true, laidLooks := .later }
def FnExactSumTimesCardSaid : Prop := Claim7.holds Tryz.pinned (.plain (OpenSpec.ofChange fnExactSumTimesSpec)) fnExactSumTimesCard

/-- THE TIED CARD OF 'laws.FnExactSumPart'. -/
def fnExactSumPartCard : Claim7 := { stood := { row := fnExactSumPartRow, standIns := [], harness := (true, "30bc547df744211d8fcfec95ad7d6b1ef1e5cf4732165c275618d7480a68b3cb"), looks := true }, kinds := [], alts := [], laidByText := true, laidKinds := [.data, .data, .data, .sentinel, .sentinel], laidTests := true, laidLooks := .later }
def FnExactSumPartCardSaid : Prop := Claim7.holds Tryz.pinned (.plain (OpenSpec.ofChange fnExactSumPartSpec)) fnExactSumPartCard

/-- THE TIED CARD OF 'laws.FnExactSumBind'. -/
def fnExactSumBindCard : Claim7 := { stood := { row := fnExactSumBindRow, standIns := [], harness := (true, "30bc547df744211d8fcfec95ad7d6b1ef1e5cf4732165c275618d7480a68b3cb"), looks := true }, kinds := [], alts := [], laidByText := true, laidKinds := [.data, .data, .data, .sentinel, .sentinel], laidTests := true, laidLooks := .later }
def FnExactSumBindCardSaid : Prop := Claim7.holds Tryz.pinned (.plain (OpenSpec.ofChange fnExactSumBindSpec)) fnExactSumBindCard

/-- THE TIED CARD OF 'laws.FnExactSumWhole'. -/
def fnExactSumWholeCard : Claim7 := { stood := { row := fnExactSumWholeRow, standIns := [], harness := (true, "30bc547df744211d8fcfec95ad7d6b1ef1e5cf4732165c275618d7480a68b3cb"), looks := true }, kinds := [], alts := [], laidByText := true, laidKinds := [.data, .data, .data, .sentinel, .sentinel], laidTests := true, laidLooks := .later }
def FnExactSumWholeCardSaid : Prop := Claim7.holds Tryz.pinned (.plain (OpenSpec.ofChange fnExactSumWholeSpec)) fnExactSumWholeCard

/-- THE TIED CARD OF 'laws.FnExactTermValid'. -/
def fnExactTermValidCard : Claim7 := { stood := { row := fnExactTermValidRow, standIns := [], harness := (true, "30bc547df744211d8fcfec95ad7d6b1ef1e5cf4732165c275618d7480a68b3cb"), looks := true }, kinds := [], alts := [], laidByText := true, laidKinds := [.data, .data, .data, .sentinel, .sentinel], laidTests := true, laidLooks := .later }
def FnExactTermValidCardSaid : Prop := Claim7.holds Tryz.pinned (.plain (OpenSpec.ofChange fnExactTermValidSpec)) fnExactTermValidCard

/-- THE TIED CARD OF 'laws.FnExactTermSort'. -/
def fnExactTermSortCard : Claim7 := { stood := { row := fnExactTermSortRow, standIns := [], harness := (true, "30bc547df744211d8fcfec95ad7d6b1ef1e5cf4732165c275618d7480a68b3cb"), looks := true }, kinds := [], alts := [], laidByText := true, laidKinds := [.data, .data, .data, .sentinel, .sentinel], laidTests := true, laidLooks := .later }
def FnExactTermSortCardSaid : Prop := Claim7.holds Tryz.pinned (.plain (OpenSpec.ofChange fnExactTermSortSpec)) fnExactTermSortCard

/-- THE TIED CARD OF 'laws.FnExactTermSize'. -/
def fnExactTermSizeCard : Claim7 := { stood := { row := fnExactTermSizeRow, standIns := [], harness := (true, "30bc547df744211d8fcfec95ad7d6b1ef1e5cf4732165c275618d7480a68b3cb"), looks := true }, kinds := [], alts := [], laidByText := true, laidKinds := [.data, .data, .data, .sentinel, .sentinel], laidTests := true, laidLooks := .later }
def FnExactTermSizeCardSaid : Prop := Claim7.holds Tryz.pinned (.plain (OpenSpec.ofChange fnExactTermSizeSpec)) fnExactTermSizeCard

/-- THE TIED CARD OF 'laws.FnExactTermBind'. -/
def fnExactTermBindCard : Claim7 := { stood := { row := fnExactTermBindRow, standIns := [], harness := (true, "30bc547df744211d8fcfec95ad7d6b1ef1e5cf4732165c275618d7480a68b3cb"), looks := true }, kinds := [], alts := [], laidByText := true, laidKinds := [.data, .data, .data, .sentinel, .sentinel], laidTests := true, laidLooks := .later }
def FnExactTermBindCardSaid : Prop := Claim7.holds Tryz.pinned (.plain (OpenSpec.ofChange fnExactTermBindSpec)) fnExactTermBindCard

/-- THE SECOND FORM's CARD OF 'laws.FnExactSumValid'. -/
def fnExactSumValidUptoCard : Claim7 := { stood := { row := fnExactSumValidUptoRow, standIns := [], harness := (true, "30bc547df744211d8fcfec95ad7d6b1ef1e5cf4732165c275618d7480a68b3cb"), looks := true }, kinds := [], alts := [], laidByText := true, laidKinds := [.data, .data, .data, .sentinel, .sentinel], laidTests := true, laidLooks := .later }
def FnExactSumValidUptoCardSaid : Prop := Claim7.holds Tryz.pinned (.plain (OpenSpec.upto fnExactSumValidSpec)) fnExactSumValidUptoCard

/-- THE SECOND FORM's CARD OF 'laws.FnExactSumOf'. -/
def fnExactSumOfUptoCard : Claim7 := { stood := { row := fnExactSumOfUptoRow, standIns := [], harness := (true, "30bc547df744211d8fcfec95ad7d6b1ef1e5cf4732165c275618d7480a68b3cb"), looks := true }, kinds := [], alts := [], laidByText := true, laidKinds := [.data, .data, .data, .sentinel, .sentinel], laidTests := true, laidLooks := .later }
def FnExactSumOfUptoCardSaid : Prop := Claim7.holds Tryz.pinned (.plain (OpenSpec.upto fnExactSumOfSpec)) fnExactSumOfUptoCard

/-- THE SECOND FORM's CARD OF 'laws.FnExactSumTimes'. -/
def fnExactSumTimesUptoCard : Claim7 := { stood := { row := fnExactSumTimesUptoRow, standIns := [], harness := (true, "30bc547df744211d8fcfec95ad7d6b1ef1e5cf4732165c275618d7480a68b3cb"), looks := true }, kinds := [], alts := [], laidByText := true, laidKinds := [.data, .data, .data, .sentinel, .sentinel], laidTests := true, laidLooks := .later }
def FnExactSumTimesUptoCardSaid : Prop := Claim7.holds Tryz.pinned (.plain (OpenSpec.upto fnExactSumTimesSpec)) fnExactSumTimesUptoCard

/-- THE SECOND FORM's CARD OF 'laws.FnExactSumPart'. -/
def fnExactSumPartUptoCard : Claim7 := { stood := { row := fnExactSumPartUptoRow, standIns := [], harness := (true, "30bc547df744211d8fcfec95ad7d6b1ef1e5cf4732165c275618d7480a68b3cb"), looks := true }, kinds := [], alts := [], laidByText := true, laidKinds := [.data, .data, .data, .sentinel, .sentinel], laidTests := true, laidLooks := .later }
def FnExactSumPartUptoCardSaid : Prop := Claim7.holds Tryz.pinned (.plain (OpenSpec.upto fnExactSumPartSpec)) fnExactSumPartUptoCard

/-- THE SECOND FORM's CARD OF 'laws.FnExactSumBind'. -/
def fnExactSumBindUptoCard : Claim7 := { stood := { row := fnExactSumBindUptoRow, standIns := [], harness := (true, "30bc547df744211d8fcfec95ad7d6b1ef1e5cf4732165c275618d7480a68b3cb"), looks := true }, kinds := [], alts := [], laidByText := true, laidKinds := [.data, .data, .data, .sentinel, .sentinel], laidTests := true, laidLooks := .later }
def FnExactSumBindUptoCardSaid : Prop := Claim7.holds Tryz.pinned (.plain (OpenSpec.upto fnExactSumBindSpec)) fnExactSumBindUptoCard

/-- THE SECOND FORM's CARD OF 'laws.FnExactSumWhole'. -/
def fnExactSumWholeUptoCard : Claim7 := { stood := { row := fnExactSumWholeUptoRow, standIns := [], harness := (true, "30bc547df744211d8fcfec95ad7d6b1ef1e5cf4732165c275618d7480a68b3cb"), looks := true }, kinds := [], alts := [], laidByText := true, laidKinds := [.data, .data, .data, .sentinel, .sentinel], laidTests := true, laidLooks := .later }
def FnExactSumWholeUptoCardSaid : Prop := Claim7.holds Tryz.pinned (.plain (OpenSpec.upto fnExactSumWholeSpec)) fnExactSumWholeUptoCard

/-- THE SECOND FORM's CARD OF 'laws.FnExactTermValid'. -/
def fnExactTermValidUptoCard : Claim7 := { stood := { row := fnExactTermValidUptoRow, standIns := [], harness := (true, "30bc547df744211d8fcfec95ad7d6b1ef1e5cf4732165c275618d7480a68b3cb"), looks := true }, kinds := [], alts := [], laidByText := true, laidKinds := [.data, .data, .data, .sentinel, .sentinel], laidTests := true, laidLooks := .later }
def FnExactTermValidUptoCardSaid : Prop := Claim7.holds Tryz.pinned (.plain (OpenSpec.upto fnExactTermValidSpec)) fnExactTermValidUptoCard

/-- THE SECOND FORM's CARD OF 'laws.FnExactTermSort'. -/
def fnExactTermSortUptoCard : Claim7 := { stood := { row := fnExactTermSortUptoRow, standIns := [], harness := (true, "30bc547df744211d8fcfec95ad7d6b1ef1e5cf4732165c275618d7480a68b3cb"), looks := true }, kinds := [], alts := [], laidByText := true, laidKinds := [.data, .data, .data, .sentinel, .sentinel], laidTests := true, laidLooks := .later }
def FnExactTermSortUptoCardSaid : Prop := Claim7.holds Tryz.pinned (.plain (OpenSpec.upto fnExactTermSortSpec)) fnExactTermSortUptoCard

/-- THE SECOND FORM's CARD OF 'laws.FnExactTermSize'. -/
def fnExactTermSizeUptoCard : Claim7 := { stood := { row := fnExactTermSizeUptoRow, standIns := [], harness := (true, "30bc547df744211d8fcfec95ad7d6b1ef1e5cf4732165c275618d7480a68b3cb"), looks := true }, kinds := [], alts := [], laidByText := true, laidKinds := [.data, .data, .data, .sentinel, .sentinel], laidTests := true, laidLooks := .later }
def FnExactTermSizeUptoCardSaid : Prop := Claim7.holds Tryz.pinned (.plain (OpenSpec.upto fnExactTermSizeSpec)) fnExactTermSizeUptoCard

/-- THE SECOND FORM's CARD OF 'laws.FnExactTermBind'. -/
def fnExactTermBindUptoCard : Claim7 := { stood := { row := fnExactTermBindUptoRow, standIns := [], harness := (true, "30bc547df744211d8fcfec95ad7d6b1ef1e5cf4732165c275618d7480a68b3cb"), looks := true }, kinds := [], alts := [], laidByText := true, laidKinds := [.data, .data, .data, .sentinel, .sentinel], laidTests := true, laidLooks := .later }
def FnExactTermBindUptoCardSaid : Prop := Claim7.holds Tryz.pinned (.plain (OpenSpec.upto fnExactTermBindSpec)) fnExactTermBindUptoCard
end Rows
end Go.Proofs.YtggbccmhpnfedaaGreatDoor

/-
  DERIVED. GIVEN WITH THE SEED: THE CARDS: each row of YtdijebbmjgmaiaaGreatDoorRows.lean that lists a variable, with what it lists TIED to the program's text (the seventh form; the later family's looks); each row that meets fmt, with fmt's text TOLD by the authors' own Lean function (tested against real Go, not proved from fmt's source: count such statements apart). THE CARD IS WHAT COUNTS. Prove the row's statement (the work); the ties are given (YtdijebbmjgmaiaaGreatDoorTie.lean); close each card by the builder's one call (the guide's Derived/Test/ToyasCard.lean, 'card_holds'). Laid BY PROGRAM, IN A SANDBOX (cutbox-door.mjs). By AI agents, Wed Nov 11 2026. No macro, syntax, notation, axiom, sorry.
-/
import Derived.Test.YtdijebbmjgmaiaaGreatDoorRows
import GoSem.ClaimSeven
namespace Go.Proofs.YtdijebbmjgmaiaaGreatDoor
namespace Rows

/-- THE TIED CARD OF 'laws.FnExactTermValid'. -/
def fnExactTermValidCard : Claim7 := { stood := { row := fnExactTermValidRow, standIns := [], harness := (true, "1bb0e271938a9c0b9bdaa29c47c4dc98a5535f29a93d6953539076cadfbb1c1f"), looks := true }, kinds := [], alts := [], laidByText := true, laidKinds := [.data, .data, .data, .sentinel, .sentinel], laidTests := true, laidLooks := .later }
def FnExactTermValidCardSaid : Prop := Claim7.holds Tryz.pinned (.plain (OpenSpec.ofChange fnExactTermValidSpec)) fnExactTermValidCard

/-- THE TIED CARD OF 'laws.FnExactTermSort'. -/
def fnExactTermSortCard : Claim7 := { stood := { row := fnExactTermSortRow, standIns := [], harness := (true, "1bb0e271938a9c0b9bdaa29c47c4dc98a5535f29a93d6953539076cadfbb1c1f"), looks := true }, kinds := [], alts := [], laidByText := true, laidKinds := [.data, .data, .data, .sentinel, .sentinel], laidTests := true, laidLooks := .later }
def FnExactTermSortCardSaid : Prop := Claim7.holds Tryz.pinned (.plain (OpenSpec.ofChange fnExactTermSortSpec)) fnExactTermSortCard

/-- THE TIED CARD OF 'laws.FnExactTermSize'. -/
def fnExactTermSizeCard : Claim7 := { stood := { row := fnExactTermSizeRow, standIns := [], harness := (true, "1bb0e271938a9c0b9bdaa29c47c4dc98a5535f29a93d6953539076cadfbb1c1f"), looks := true }, kinds := [], alts := [], laidByText := true, laidKinds := [.data, .data, .data, .sentinel, .sentinel], laidTests := true, laidLooks := .later }
def FnExactTermSizeCardSaid : Prop := Claim7.holds Tryz.pinned (.plain (OpenSpec.ofChange fnExactTermSizeSpec)) fnExactTermSizeCard

/-- THE TIED CARD OF 'laws.FnExactRedexCount'. -/
def fnExactRedexCountCard : Claim7 := { stood := { row := fnExactRedexCountRow, standIns := [], harness := (true, "1bb0e271938a9c0b9bdaa29c47c4dc98a5535f29a93d6953539076cadfbb1c1f"), looks := true }, kinds := [], alts := [], laidByText := true, laidKinds := [.data, .data, .data, .sentinel, .sentinel], laidTests := true, laidLooks := .later }
def FnExactRedexCountCardSaid : Prop := Claim7.holds Tryz.pinned (.plain (OpenSpec.ofChange fnExactRedexCountSpec)) fnExactRedexCountCard

/-- THE TIED CARD OF 'laws.FnExactTermNormal'. -/
def fnExactTermNormalCard : Claim7 := { stood := { row := fnExactTermNormalRow, standIns := [], harness := (true, "1bb0e271938a9c0b9bdaa29c47c4dc98a5535f29a93d6953539076cadfbb1c1f"), looks := true }, kinds := [], alts := [], laidByText := true, laidKinds := [.data, .data, .data, .sentinel, .sentinel], laidTests := true, laidLooks := .later }
def FnExactTermNormalCardSaid : Prop := Claim7.holds Tryz.pinned (.plain (OpenSpec.ofChange fnExactTermNormalSpec)) fnExactTermNormalCard

/-- THE TIED CARD OF 'laws.FnExactHeadName'. -/
def fnExactHeadNameCard : Claim7 := { stood := { row := fnExactHeadNameRow, standIns := [], harness := (true, "1bb0e271938a9c0b9bdaa29c47c4dc98a5535f29a93d6953539076cadfbb1c1f"), looks := true }, kinds := [], alts := [], laidByText := true, laidKinds := [.data, .data, .data, .sentinel, .sentinel], laidTests := true, laidLooks := .later }
def FnExactHeadNameCardSaid : Prop := Claim7.holds Tryz.pinned (.plain (OpenSpec.ofChange fnExactHeadNameSpec)) fnExactHeadNameCard

/-- THE SECOND FORM's CARD OF 'laws.FnExactTermValid'. -/
def fnExactTermValidUptoCard : Claim7 := { stood := { row := fnExactTermValidUptoRow, standIns := [], harness := (true, "1bb0e271938a9c0b9bdaa29c47c4dc98a5535f29a93d6953539076cadfbb1c1f"), looks := true }, kinds := [], alts := [], laidByText := true, laidKinds := [.data, .data, .data, .sentinel, .sentinel], laidTests := true, laidLooks := .later }
def FnExactTermValidUptoCardSaid : Prop := Claim7.holds Tryz.pinned (.plain (OpenSpec.upto fnExactTermValidSpec)) fnExactTermValidUptoCard

/-- THE SECOND FORM's CARD OF 'laws.FnExactTermSort'. -/
def fnExactTermSortUptoCard : Claim7 := { stood := { row := fnExactTermSortUptoRow, standIns := [], harness := (true, "1bb0e271938a9c0b9bdaa29c47c4dc98a5535f29a93d6953539076cadfbb1c1f"), looks := true }, kinds := [], alts := [], laidByText := true, laidKinds := [.data, .data, .data, .sentinel, .sentinel], laidTests := true, laidLooks := .later }
def FnExactTermSortUptoCardSaid : Prop := Claim7.holds Tryz.pinned (.plain (OpenSpec.upto fnExactTermSortSpec)) fnExactTermSortUptoCard

/-- THE SECOND FORM's CARD OF 'laws.FnExactTermSize'. -/
def fnExactTermSizeUptoCard : Claim7 := { stood := { row := fnExactTermSizeUptoRow, standIns := [], harness := (true, "1bb0e271938a9c0b9bdaa29c47c4dc98a5535f29a93d6953539076cadfbb1c1f"), looks := true }, kinds := [], alts := [], laidByText := true, laidKinds := [.data, .data, .data, .sentinel, .sentinel], laidTests := true, laidLooks := .later }
def FnExactTermSizeUptoCardSaid : Prop := Claim7.holds Tryz.pinned (.plain (OpenSpec.upto fnExactTermSizeSpec)) fnExactTermSizeUptoCard

/-- THE SECOND FORM's CARD OF 'laws.FnExactRedexCount'. -/
def fnExactRedexCountUptoCard : Claim7 := { stood := { row := fnExactRedexCountUptoRow, standIns := [], harness := (true, "1bb0e271938a9c0b9bdaa29c47c4dc98a5535f29a93d6953539076cadfbb1c1f"), looks := true }, kinds := [], alts := [], laidByText := true, laidKinds := [.data, .data, .data, .sentinel, .sentinel], laidTests := true, laidLooks := .later }
def FnExactRedexCountUptoCardSaid : Prop := Claim7.holds Tryz.pinned (.plain (OpenSpec.upto fnExactRedexCountSpec)) fnExactRedexCountUptoCard

/-- THE SECOND FORM's CARD OF 'laws.FnExactTermNormal'. -/
def fnExactTermNormalUptoCard : Claim7 := { stood := { row := fnExactTermNormalUptoRow, standIns := [], harness := (true, "1bb0e271938a9c0b9bdaa29c47c4dc98a5535f29a93d6953539076cadfbb1c1f"), looks := true }, kinds := [], alts := [], laidByText := true, laidKinds := [.data, .data, .data, .sentinel, .sentinel], laidTests := true, laidLooks := .later }
def FnExactTermNormalUptoCardSaid : Prop := Claim7.holds Tryz.pinned (.plain (OpenSpec.upto fnExactTermNormalSpec)) fnExactTermNormalUptoCard

/-- THE SECOND FORM's CARD OF 'laws.FnExactHeadName'. -/
def fnExactHeadNameUptoCard : Claim7 := { stood := { row := fnExactHeadNameUptoRow, standIns := [], harness := (true, "1bb0e271938a9c0b9bdaa29c47c4dc98a5535f29a93d6953539076cadfbb1c1f"), looks := true }, kinds := [], alts := [], laidByText := true, laidKinds := [.data, .data, .data, .sentinel, .sentinel], laidTests := true, laidLooks := .later }
def FnExactHeadNameUptoCardSaid : Prop := Claim7.holds Tryz.pinned (.plain (OpenSpec.upto fnExactHeadNameSpec)) fnExactHeadNameUptoCard
end Rows
end Go.Proofs.YtdijebbmjgmaiaaGreatDoor

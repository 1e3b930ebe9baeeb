/-
  DERIVED. GIVEN WITH THE SEED: THE CARDS: each row of YtgopodjondchnaaGreatDoorRows.lean that lists a variable, with what it lists TIED to the program's text (the seventh form; the later family's looks); each row that meets fmt, with fmt's text TOLD by the authors' own Lean function (tested against real Go, not proved from fmt's source: count such statements apart). THE CARD IS WHAT COUNTS. Prove the row's statement (the work); the ties are given (YtgopodjondchnaaGreatDoorTie.lean); close each card by the builder's one call (the guide's Derived/Test/ToyasCard.lean, 'card_holds'). Laid BY PROGRAM, IN A SANDBOX (cutbox-door.mjs). By AI agents, Wed Nov 11 2026. No macro, syntax, notation, axiom, sorry.
-/
import Derived.Test.YtgopodjondchnaaGreatDoorRows
import GoSem.ClaimSeven
namespace Go.Proofs.YtgopodjondchnaaGreatDoor
namespace Rows

/-- THE TIED CARD OF 'laws.FnExactBagSort'. -/
def fnExactBagSortCard : Claim7 := { stood := { row := fnExactBagSortRow, standIns := [], harness := (true, "3751e67df9e2f8c056cfb8d22d26deac5019afec03c712c2aa1fb95007ce100b"), looks := true }, kinds := [], alts := [], laidByText := true, laidKinds := [.data, .data, .data, .sentinel, .sentinel], laidTests := true, laidLooks := .later }
def FnExactBagSortCardSaid : Prop := Claim7.holds Tryz.pinned (.plain (OpenSpec.ofChange fnExactBagSortSpec)) fnExactBagSortCard

/-- THE TIED CARD OF 'laws.FnExactTermRename'. -/
def fnExactTermRenameCard : Claim7 := { stood := { row := fnExactTermRenameRow, standIns := [], harness := (true, "3751e67df9e2f8c056cfb8d22d26deac5019afec03c712c2aa1fb95007ce100b"), looks := true }, kinds := [], alts := [], laidByText := true, laidKinds := [.data, .data, .data, .sentinel, .sentinel], laidTests := true, laidLooks := .later }
def FnExactTermRenameCardSaid : Prop := Claim7.holds Tryz.pinned (.plain (OpenSpec.ofChange fnExactTermRenameSpec)) fnExactTermRenameCard

/-- THE SECOND FORM's CARD OF 'laws.FnExactBagSort'. -/
def fnExactBagSortUptoCard : Claim7 := { stood := { row := fnExactBagSortUptoRow, standIns := [], harness := (true, "3751e67df9e2f8c056cfb8d22d26deac5019afec03c712c2aa1fb95007ce100b"), looks := true }, kinds := [], alts := [], laidByText := true, laidKinds := [.data, .data, .data, .sentinel, .sentinel], laidTests := true, laidLooks := .later }
def FnExactBagSortUptoCardSaid : Prop := Claim7.holds Tryz.pinned (.plain (OpenSpec.upto fnExactBagSortSpec)) fnExactBagSortUptoCard

/-- THE SECOND FORM's CARD OF 'laws.FnExactTermRename'. -/
def fnExactTermRenameUptoCard : Claim7 := { stood := { row := fnExactTermRenameUptoRow, standIns := [], harness := (true, "3751e67df9e2f8c056cfb8d22d26deac5019afec03c712c2aa1fb95007ce100b"), looks := true }, kinds := [], alts := [], laidByText := true, laidKinds := [.data, .data, .data, .sentinel, .sentinel], laidTests := true, laidLooks := .later }
def FnExactTermRenameUptoCardSaid : Prop := Claim7.holds Tryz.pinned (.plain (OpenSpec.upto fnExactTermRenameSpec)) fnExactTermRenameUptoCard
end Rows
end Go.Proofs.YtgopodjondchnaaGreatDoor

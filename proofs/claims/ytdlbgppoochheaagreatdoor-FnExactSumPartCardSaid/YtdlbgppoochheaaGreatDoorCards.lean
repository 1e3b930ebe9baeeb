/-
  DERIVED. GIVEN WITH THE SEED: THE CARDS: each row of YtdlbgppoochheaaGreatDoorRows.lean that lists a variable, with what it lists TIED to the program's text (the seventh form; the later family's looks); each row that meets fmt, with fmt's text TOLD by the authors' own Lean function (tested against real Go, not proved from fmt's source: count such statements apart). THE CARD IS WHAT COUNTS. Prove the row's statement (the work); the ties are given (YtdlbgppoochheaaGreatDoorTie.lean); close each card by the builder's one call (the guide's Derived/Test/ToyasCard.lean, 'card_holds'). Laid BY PROGRAM, IN A SANDBOX (cutbox-door.mjs). By AI agents, Wed Nov 11 2026. No macro, syntax, notation, axiom, sorry.
-/
import Derived.Test.YtdlbgppoochheaaGreatDoorRows
import GoSem.ClaimSeven
namespace Go.Proofs.YtdlbgppoochheaaGreatDoor
namespace Rows

/-- THE TIED CARD OF 'laws.FnExactSumValid'. -/
def fnExactSumValidCard : Claim7 := { stood := { row := fnExactSumValidRow, standIns := [], harness := (true, "da7ab7e6ffa2ee6d3088631f9dbc8f7bf73f80c82dc2377e4d21a9e44e97b8b3"), looks := true }, kinds := [], alts := [], laidByText := true, laidKinds := [.data, .data, .data, .sentinel, .sentinel], laidTests := true, laidLooks := .later }
def FnExactSumValidCardSaid : Prop := Claim7.holds Tryz.pinned (.plain (OpenSpec.ofChange fnExactSumValidSpec)) fnExactSumValidCard

/-- THE TIED CARD OF 'laws.FnExactSumPart'. -/
def fnExactSumPartCard : Claim7 := { stood := { row := fnExactSumPartRow, standIns := [], harness := (true, "da7ab7e6ffa2ee6d3088631f9dbc8f7bf73f80c82dc2377e4d21a9e44e97b8b3"), looks := true }, kinds := [], alts := [], laidByText := true, laidKinds := [.data, .data, .data, .sentinel, .sentinel], laidTests := true, laidLooks := .later }
def FnExactSumPartCardSaid : Prop := Claim7.holds Tryz.pinned (.plain (OpenSpec.ofChange fnExactSumPartSpec)) fnExactSumPartCard

/-- THE TIED CARD OF 'laws.FnExactSumWhole'. -/
def fnExactSumWholeCard : Claim7 := { stood := { row := fnExactSumWholeRow, standIns := [], harness := (true, "da7ab7e6ffa2ee6d3088631f9dbc8f7bf73f80c82dc2377e4d21a9e44e97b8b3"), looks := true }, kinds := [], alts := [], laidByText := true, laidKinds := [.data, .data, .data, .sentinel, .sentinel], laidTests := true, laidLooks := .later }
def FnExactSumWholeCardSaid : Prop := Claim7.holds Tryz.pinned (.plain (OpenSpec.ofChange fnExactSumWholeSpec)) fnExactSumWholeCard

/-- THE SECOND FORM's CARD OF 'laws.FnExactSumValid'. -/
def fnExactSumValidUptoCard : Claim7 := { stood := { row := fnExactSumValidUptoRow, standIns := [], harness := (true, "da7ab7e6ffa2ee6d3088631f9dbc8f7bf73f80c82dc2377e4d21a9e44e97b8b3"), looks := true }, kinds := [], alts := [], laidByText := true, laidKinds := [.data, .data, .data, .sentinel, .sentinel], laidTests := true, laidLooks := .later }
def FnExactSumValidUptoCardSaid : Prop := Claim7.holds Tryz.pinned (.plain (OpenSpec.upto fnExactSumValidSpec)) fnExactSumValidUptoCard

/-- THE SECOND FORM's CARD OF 'laws.FnExactSumPart'. -/
def fnExactSumPartUptoCard : Claim7 := { stood := { row := fnExactSumPartUptoRow, standIns := [], harness := (true, "da7ab7e6ffa2ee6d3088631f9dbc8f7bf73f80c82dc2377e4d21a9e44e97b8b3"), looks := true }, kinds := [], alts := [], laidByText := true, laidKinds := [.data, .data, .data, .sentinel, .sentinel], laidTests := true, laidLooks := .later }
def FnExactSumPartUptoCardSaid : Prop := Claim7.holds Tryz.pinned (.plain (OpenSpec.upto fnExactSumPartSpec)) fnExactSumPartUptoCard

/-- THE SECOND FORM's CARD OF 'laws.FnExactSumWhole'. -/
def fnExactSumWholeUptoCard : Claim7 := { stood := { row := fnExactSumWholeUptoRow, standIns := [], harness := (true, "da7ab7e6ffa2ee6d3088631f9dbc8f7bf73f80c82dc2377e4d21a9e44e97b8b3"), looks := true }, kinds := [], alts := [], laidByText := true, laidKinds := [.data, .data, .data, .sentinel, .sentinel], laidTests := true, laidLooks := .later }
def FnExactSumWholeUptoCardSaid : Prop := Claim7.holds Tryz.pinned (.plain (OpenSpec.upto fnExactSumWholeSpec)) fnExactSumWholeUptoCard
end Rows
end Go.Proofs.YtdlbgppoochheaaGreatDoor

/-
  DERIVED. GIVEN WITH THE SEED: THE CARDS: each row of YtcbciaofajhklaaGreatDoorRows.lean that lists a variable, with what it lists TIED to the program's text (the seventh form; the later family's looks); each row that meets fmt, with fmt's text TOLD by the authors' own Lean function (tested against real Go, not proved from fmt's source: count such statements apart). THE CARD IS WHAT COUNTS. Prove the row's statement (the work); the ties are given (YtcbciaofajhklaaGreatDoorTie.lean); close each card by the builder's one call (the guide's Derived/Test/ToyasCard.lean, 'card_holds'). Laid BY PROGRAM, IN A SANDBOX (cutbox-door.mjs). By AI agents, Wed Nov 11 2026. No macro, syntax, notation, axiom, sorry.
-/
import Derived.Test.YtcbciaofajhklaaGreatDoorRows
import GoSem.ClaimSeven
namespace Go.Proofs.YtcbciaofajhklaaGreatDoor
namespace Rows

/-- THE TIED CARD OF 'laws.FnRedexes'. -/
def fnRedexesCard : Claim7 := { stood := { row := fnRedexesRow, standIns := [], harness := (true, "5776a4c0b05fb6445b311cb7b7fa61dbe42edcce1cb01b16740d6975961c9b81"), looks := true }, kinds := [], alts := [], laidByText := true, laidKinds := [.data, .data, .data, .sentinel, .sentinel], laidTests := true, laidLooks := .later }
def FnRedexesCardSaid : Prop := Claim7.holds Tryz.pinned (.plain (OpenSpec.ofChange fnRedexesSpec)) fnRedexesCard

/-- THE TIED CARD OF 'laws.FnExactSumOf'. -/
def fnExactSumOfCard : Claim7 := { stood := { row := fnExactSumOfRow, standIns := [], harness := (true, "5776a4c0b05fb6445b311cb7b7fa61dbe42edcce1cb01b16740d6975961c9b81"), looks := true }, kinds := [], alts := [], laidByText := true, laidKinds := [.data, .data, .data, .sentinel, .sentinel], laidTests := true, laidLooks := .later }
def FnExactSumOfCardSaid : Prop := Claim7.holds Tryz.pinned (.plain (OpenSpec.ofChange fnExactSumOfSpec)) fnExactSumOfCard

/-- THE SECOND FORM's CARD OF 'laws.FnRedexes'. -/
def fnRedexesUptoCard : Claim7 := { stood := { row := fnRedexesUptoRow, standIns := [], harness := (true, "5776a4c0b05fb6445b311cb7b7fa61dbe42edcce1cb01b16740d6975961c9b81"), looks := true }, kinds := [], alts := [], laidByText := true, laidKinds := [.data, .data, .data, .sentinel, .sentinel], laidTests := true, laidLooks := .later }
def FnRedexesUptoCardSaid : Prop := Claim7.holds Tryz.pinned (.plain (OpenSpec.upto fnRedexesSpec)) fnRedexesUptoCard

/-- THE SECOND FORM's CARD OF 'laws.FnExactSumOf'. -/
def fnExactSumOfUptoCard : Claim7 := { stood := { row := fnExactSumOfUptoRow, standIns := [], harness := (true, "5776a4c0b05fb6445b311cb7b7fa61dbe42edcce1cb01b16740d6975961c9b81"), looks := true }, kinds := [], alts := [], laidByText := true, laidKinds := [.data, .data, .data, .sentinel, .sentinel], laidTests := true, laidLooks := .later }
def FnExactSumOfUptoCardSaid : Prop := Claim7.holds Tryz.pinned (.plain (OpenSpec.upto fnExactSumOfSpec)) fnExactSumOfUptoCard
end Rows
end Go.Proofs.YtcbciaofajhklaaGreatDoor

/-
  DERIVED. GIVEN WITH THE SEED: THE CARDS: each row of YtopmkddmllmecaaGreatDoorRows.lean that lists a variable, with what it lists TIED to the program's text (the seventh form; the later family's looks); each row that meets fmt, with fmt's text TOLD by the authors' own Lean function (tested against real Go, not proved from fmt's source: count such statements apart). THE CARD IS WHAT COUNTS. Prove the row's statement (the work); the ties are given (YtopmkddmllmecaaGreatDoorTie.lean); close each card by the builder's one call (the guide's Derived/Test/ToyasCard.lean, 'card_holds'). Laid BY PROGRAM, IN A SANDBOX (cutbox-door.mjs). By AI agents, Wed Nov 11 2026. No macro, syntax, notation, axiom, sorry.
-/
import Derived.Test.YtopmkddmllmecaaGreatDoorRows
import GoSem.ClaimSeven
namespace Go.Proofs.YtopmkddmllmecaaGreatDoor
namespace Rows

/-- THE TIED CARD OF 'laws.FnExactSumOf'. -/
def fnExactSumOfCard : Claim7 := { stood := { row := fnExactSumOfRow, standIns := [], harness := (true, "12dd088509b1eae2bd5ec9615aec0b8ab1e8bf8dfef2d31c9507728a7c6da52d"), looks := true }, kinds := [], alts := [], laidByText := true, laidKinds := [.data, .data, .data, .sentinel, .sentinel], laidTests := true, laidLooks := .later }
def FnExactSumOfCardSaid : Prop := Claim7.holds Tryz.pinned (.plain (OpenSpec.ofChange fnExactSumOfSpec)) fnExactSumOfCard

/-- THE TIED CARD OF 'laws.FnExactSumTimes'. -/
def fnExactSumTimesCard : Claim7 := { stood := { row := fnExactSumTimesRow, standIns := [], harness := (true, "12dd088509b1eae2bd5ec9615aec0b8ab1e8bf8dfef2d31c9507728a7c6da52d"), looks := true }, kinds := [], alts := [], laidByText := true, laidKinds := [.data, .data, .data, .sentinel, .sentinel], laidTests := true, laidLooks := .later }
def FnExactSumTimesCardSaid : Prop := Claim7.holds Tryz.pinned (.plain (OpenSpec.ofChange fnExactSumTimesSpec)) fnExactSumTimesCard

/-- THE TIED CARD OF 'laws.FnExactSumBind'. -/
def fnExactSumBindCard : Claim7 := { stood := { row := fnExactSumBindRow, standIns := [], harness := (true, "12dd088509b1eae2bd5ec9615aec0b8ab1e8bf8dfef2d31c9507728a7c6da52d"), looks := true }, kinds := [], alts := [], laidByText := true, laidKinds := [.data, .data, .data, .sentinel, .sentinel], laidTests := true, laidLooks := .later }
def FnExactSumBindCardSaid : Prop := Claim7.holds Tryz.pinned (.plain (OpenSpec.ofChange fnExactSumBindSpec)) fnExactSumBindCard

/-- THE TIED CARD OF 'laws.FnExactCoherent'. -/
def fnExactCoherentCard : Claim7 := { stood := { row := fnExactCoherentRow, standIns := [], harness := (true, "12dd088509b1eae2bd5ec9615aec0b8ab1e8bf8dfef2d31c9507728a7c6da52d"), looks := true }, kinds := [], alts := [], laidByText := true, laidKinds := [.data, .data, .data, .sentinel, .sentinel], laidTests := true, laidLooks := .later }
def FnExactCoherentCardSaid : Prop := Claim7.holds Tryz.pinned (.plain (OpenSpec.ofChange fnExactCoherentSpec)) fnExactCoherentCard

/-- THE TIED CARD OF 'laws.FnExactUniform'. -/
def fnExactUniformCard : Claim7 := { stood := { row := fnExactUniformRow, standIns := [], harness := (true, "12dd088509b1eae2bd5ec9615aec0b8ab1e8bf8dfef2d31c9507728a7c6da52d"), looks := true }, kinds := [], alts := [], laidByText := true, laidKinds := [.data, .data, .data, .sentinel, .sentinel], laidTests := true, laidLooks := .later }
def FnExactUniformCardSaid : Prop := Claim7.holds Tryz.pinned (.plain (OpenSpec.ofChange fnExactUniformSpec)) fnExactUniformCard

/-- THE TIED CARD OF 'laws.FnExactClique'. -/
def fnExactCliqueCard : Claim7 := { stood := { row := fnExactCliqueRow, standIns := [], harness := (true, "12dd088509b1eae2bd5ec9615aec0b8ab1e8bf8dfef2d31c9507728a7c6da52d"), looks := true }, kinds := [], alts := [], laidByText := true, laidKinds := [.data, .data, .data, .sentinel, .sentinel], laidTests := true, laidLooks := .later }
def FnExactCliqueCardSaid : Prop := Claim7.holds Tryz.pinned (.plain (OpenSpec.ofChange fnExactCliqueSpec)) fnExactCliqueCard

/-- THE TIED CARD OF 'laws.FnExactCliqueJoin'. -/
def fnExactCliqueJoinCard : Claim7 := { stood := { row := fnExactCliqueJoinRow, standIns := [], harness := (true, "12dd088509b1eae2bd5ec9615aec0b8ab1e8bf8dfef2d31c9507728a7c6da52d"), looks := true }, kinds := [], alts := [], laidByText := true, laidKinds := [.data, .data, .data, .sentinel, .sentinel], laidTests := true, laidLooks := .later }
def FnExactCliqueJoinCardSaid : Prop := Claim7.holds Tryz.pinned (.plain (OpenSpec.ofChange fnExactCliqueJoinSpec)) fnExactCliqueJoinCard

/-- THE SECOND FORM's CARD OF 'laws.FnExactSumOf'. -/
def fnExactSumOfUptoCard : Claim7 := { stood := { row := fnExactSumOfUptoRow, standIns := [], harness := (true, "12dd088509b1eae2bd5ec9615aec0b8ab1e8bf8dfef2d31c9507728a7c6da52d"), looks := true }, kinds := [], alts := [], laidByText := true, laidKinds := [.data, .data, .data, .sentinel, .sentinel], laidTests := true, laidLooks := .later }
def FnExactSumOfUptoCardSaid : Prop := Claim7.holds Tryz.pinned (.plain (OpenSpec.upto fnExactSumOfSpec)) fnExactSumOfUptoCard

/-- THE SECOND FORM's CARD OF 'laws.FnExactSumTimes'. -/
def fnExactSumTimesUptoCard : Claim7 := { stood := { row := fnExactSumTimesUptoRow, standIns := [], harness := (true, "12dd088509b1eae2bd5ec9615aec0b8ab1e8bf8dfef2d31c9507728a7c6da52d"), looks := true }, kinds := [], alts := [], laidByText := true, laidKinds := [.data, .data, .data, .sentinel, .sentinel], laidTests := true, laidLooks := .later }
def FnExactSumTimesUptoCardSaid : Prop := Claim7.holds Tryz.pinned (.plain (OpenSpec.upto fnExactSumTimesSpec)) fnExactSumTimesUptoCard

/-- THE SECOND FORM's CARD OF 'laws.FnExactSumBind'. -/
def fnExactSumBindUptoCard : Claim7 := { stood := { row := fnExactSumBindUptoRow, standIns := [], harness := (true, "12dd088509b1eae2bd5ec9615aec0b8ab1e8bf8dfef2d31c9507728a7c6da52d"), looks := true }, kinds := [], alts := [], laidByText := true, laidKinds := [.data, .data, .data, .sentinel, .sentinel], laidTests := true, laidLooks := .later }
def FnExactSumBindUptoCardSaid : Prop := Claim7.holds Tryz.pinned (.plain (OpenSpec.upto fnExactSumBindSpec)) fnExactSumBindUptoCard

/-- THE SECOND FORM's CARD OF 'laws.FnExactCoherent'. -/
def fnExactCoherentUptoCard : Claim7 := { stood := { row := fnExactCoherentUptoRow, standIns := [], harness := (true, "12dd088509b1eae2bd5ec9615aec0b8ab1e8bf8dfef2d31c9507728a7c6da52d"), looks := true }, kinds := [], alts := [], laidByText := true, laidKinds := [.data, .data, .data, .sentinel, .sentinel], laidTests := true, laidLooks := .later }
def FnExactCoherentUptoCardSaid : Prop := Claim7.holds Tryz.pinned (.plain (OpenSpec.upto fnExactCoherentSpec)) fnExactCoherentUptoCard

/-- THE SECOND FORM's CARD OF 'laws.FnExactUniform'. -/
def fnExactUniformUptoCard : Claim7 := { stood := { row := fnExactUniformUptoRow, standIns := [], harness := (true, "12dd088509b1eae2bd5ec9615aec0b8ab1e8bf8dfef2d31c9507728a7c6da52d"), looks := true }, kinds := [], alts := [], laidByText := true, laidKinds := [.data, .data, .data, .sentinel, .sentinel], laidTests := true, laidLooks := .later }
def FnExactUniformUptoCardSaid : Prop := Claim7.holds Tryz.pinned (.plain (OpenSpec.upto fnExactUniformSpec)) fnExactUniformUptoCard

/-- THE SECOND FORM's CARD OF 'laws.FnExactClique'. -/
def fnExactCliqueUptoCard : Claim7 := { stood := { row := fnExactCliqueUptoRow, standIns := [], harness := (true, "12dd088509b1eae2bd5ec9615aec0b8ab1e8bf8dfef2d31c9507728a7c6da52d"), looks := true }, kinds := [], alts := [], laidByText := true, laidKinds := [.data, .data, .data, .sentinel, .sentinel], laidTests := true, laidLooks := .later }
def FnExactCliqueUptoCardSaid : Prop := Claim7.holds Tryz.pinned (.plain (OpenSpec.upto fnExactCliqueSpec)) fnExactCliqueUptoCard

/-- THE SECOND FORM's CARD OF 'laws.FnExactCliqueJoin'. -/
def fnExactCliqueJoinUptoCard : Claim7 := { stood := { row := fnExactCliqueJoinUptoRow, standIns := [], harness := (true, "12dd088509b1eae2bd5ec9615aec0b8ab1e8bf8dfef2d31c9507728a7c6da52d"), looks := true }, kinds := [], alts := [], laidByText := true, laidKinds := [.data, .data, .data, .sentinel, .sentinel], laidTests := true, laidLooks := .later }
def FnExactCliqueJoinUptoCardSaid : Prop := Claim7.holds Tryz.pinned (.plain (OpenSpec.upto fnExactCliqueJoinSpec)) fnExactCliqueJoinUptoCard
end Rows
end Go.Proofs.YtopmkddmllmecaaGreatDoor

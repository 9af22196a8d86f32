/-
  DERIVED. GIVEN WITH THE SEED: THE CARDS: each row of YtilnchlnlnpkfaaDoorRows.lean that lists a variable, with what it lists TIED to the program's text (the seventh form; the later family's looks); each row that meets fmt, with fmt's text TOLD by the authors' own Lean function (tested against real Go, not proved from fmt's source: count such statements apart). THE CARD IS WHAT COUNTS. Prove the row's statement (the work); the ties are given (YtilnchlnlnpkfaaDoorTie.lean); close each card by the builder's one call (the guide's Derived/Test/ToyasCard.lean, 'card_holds'). Laid BY PROGRAM, IN A SANDBOX (cutbox-door.mjs). By AI agents, Wed Nov 11 2026. No macro, syntax, notation, axiom, sorry.
-/
import Derived.Test.YtilnchlnlnpkfaaDoorRows
import GoSem.ClaimSeven
namespace Go.Proofs.YtilnchlnlnpkfaaDoor
namespace Rows

/-- THE TIED CARD OF 'almonerlaw11.DemandServers'. -/
def demandServersCard : Claim7 := { stood := { row := demandServersRow, standIns := [], harness := (true, "6c110c50229bb9d94df9765b4a26a6b5db23d7d9c9853d00e0dd4b2cccf948e0"), looks := true }, kinds := [], alts := [], laidByText := true, laidKinds := [.sentinel, .sentinel, .sentinel, .sentinel, .sentinel, .sentinel, .sentinel, .sentinel, .sentinel, .sentinel, .sentinel, .sentinel, .sentinel, .sentinel, .sentinel, .sentinel], laidTests := true, laidLooks := .later }
def DemandServersCardSaid : Prop := Claim7.holds Tryd.pinned (.plain (OpenSpec.ofChange demandServersSpec)) demandServersCard

/-- THE TIED CARD OF 'almonerlaw11.DemandTasks'. -/
def demandTasksCard : Claim7 := { stood := { row := demandTasksRow, standIns := [], harness := (true, "6c110c50229bb9d94df9765b4a26a6b5db23d7d9c9853d00e0dd4b2cccf948e0"), looks := true }, kinds := [], alts := [], laidByText := true, laidKinds := [.sentinel, .sentinel, .sentinel, .sentinel, .sentinel, .sentinel, .sentinel, .sentinel, .sentinel, .sentinel, .sentinel, .sentinel, .sentinel, .sentinel, .sentinel, .sentinel], laidTests := true, laidLooks := .later }
def DemandTasksCardSaid : Prop := Claim7.holds Tryd.pinned (.plain (OpenSpec.ofChange demandTasksSpec)) demandTasksCard

/-- THE TIED CARD OF 'almonerlaw11.DemandSteps'. -/
def demandStepsCard : Claim7 := { stood := { row := demandStepsRow, standIns := [], harness := (true, "6c110c50229bb9d94df9765b4a26a6b5db23d7d9c9853d00e0dd4b2cccf948e0"), looks := true }, kinds := [], alts := [], laidByText := true, laidKinds := [.sentinel, .sentinel, .sentinel], laidTests := true, laidLooks := .later }
def DemandStepsCardSaid : Prop := Claim7.holds Tryd.pinned (.plain (OpenSpec.ofChange demandStepsSpec)) demandStepsCard

/-- THE TIED CARD OF 'almonerlaw11.DemandGrows'. -/
def demandGrowsCard : Claim7 := { stood := { row := demandGrowsRow, standIns := [], harness := (true, "6c110c50229bb9d94df9765b4a26a6b5db23d7d9c9853d00e0dd4b2cccf948e0"), looks := true }, kinds := [], alts := [], laidByText := true, laidKinds := [.sentinel, .sentinel, .sentinel, .sentinel, .sentinel, .sentinel, .sentinel, .sentinel, .sentinel, .sentinel, .sentinel, .sentinel, .sentinel, .sentinel, .sentinel, .sentinel], laidTests := true, laidLooks := .later }
def DemandGrowsCardSaid : Prop := Claim7.holds Tryd.pinned (.plain (OpenSpec.ofChange demandGrowsSpec)) demandGrowsCard

/-- THE TIED CARD OF 'almonerlaw11.DemandSplits'. -/
def demandSplitsCard : Claim7 := { stood := { row := demandSplitsRow, standIns := [], harness := (true, "6c110c50229bb9d94df9765b4a26a6b5db23d7d9c9853d00e0dd4b2cccf948e0"), looks := true }, kinds := [], alts := [], laidByText := true, laidKinds := [.sentinel, .sentinel, .sentinel], laidTests := true, laidLooks := .later }
def DemandSplitsCardSaid : Prop := Claim7.holds Tryd.pinned (.plain (OpenSpec.ofChange demandSplitsSpec)) demandSplitsCard

/-- THE TIED CARD OF 'almonerlaw11.DemandPeriods'. -/
def demandPeriodsCard : Claim7 := { stood := { row := demandPeriodsRow, standIns := [], harness := (true, "6c110c50229bb9d94df9765b4a26a6b5db23d7d9c9853d00e0dd4b2cccf948e0"), looks := true }, kinds := [], alts := [], laidByText := true, laidKinds := [.sentinel, .sentinel, .sentinel, .sentinel], laidTests := true, laidLooks := .later }
def DemandPeriodsCardSaid : Prop := Claim7.holds Tryd.pinned (.plain (OpenSpec.ofChange demandPeriodsSpec)) demandPeriodsCard

/-- THE SECOND FORM's CARD OF 'almonerlaw11.DemandServers'. -/
def demandServersUptoCard : Claim7 := { stood := { row := demandServersUptoRow, standIns := [], harness := (true, "6c110c50229bb9d94df9765b4a26a6b5db23d7d9c9853d00e0dd4b2cccf948e0"), looks := true }, kinds := [], alts := [], laidByText := true, laidKinds := [.sentinel, .sentinel, .sentinel, .sentinel, .sentinel, .sentinel, .sentinel, .sentinel, .sentinel, .sentinel, .sentinel, .sentinel, .sentinel, .sentinel, .sentinel, .sentinel], laidTests := true, laidLooks := .later }
def DemandServersUptoCardSaid : Prop := Claim7.holds Tryd.pinned (.plain (OpenSpec.upto demandServersSpec)) demandServersUptoCard

/-- THE SECOND FORM's CARD OF 'almonerlaw11.DemandTasks'. -/
def demandTasksUptoCard : Claim7 := { stood := { row := demandTasksUptoRow, standIns := [], harness := (true, "6c110c50229bb9d94df9765b4a26a6b5db23d7d9c9853d00e0dd4b2cccf948e0"), looks := true }, kinds := [], alts := [], laidByText := true, laidKinds := [.sentinel, .sentinel, .sentinel, .sentinel, .sentinel, .sentinel, .sentinel, .sentinel, .sentinel, .sentinel, .sentinel, .sentinel, .sentinel, .sentinel, .sentinel, .sentinel], laidTests := true, laidLooks := .later }
def DemandTasksUptoCardSaid : Prop := Claim7.holds Tryd.pinned (.plain (OpenSpec.upto demandTasksSpec)) demandTasksUptoCard

/-- THE SECOND FORM's CARD OF 'almonerlaw11.DemandSteps'. -/
def demandStepsUptoCard : Claim7 := { stood := { row := demandStepsUptoRow, standIns := [], harness := (true, "6c110c50229bb9d94df9765b4a26a6b5db23d7d9c9853d00e0dd4b2cccf948e0"), looks := true }, kinds := [], alts := [], laidByText := true, laidKinds := [.sentinel, .sentinel, .sentinel], laidTests := true, laidLooks := .later }
def DemandStepsUptoCardSaid : Prop := Claim7.holds Tryd.pinned (.plain (OpenSpec.upto demandStepsSpec)) demandStepsUptoCard

/-- THE SECOND FORM's CARD OF 'almonerlaw11.DemandGrows'. -/
def demandGrowsUptoCard : Claim7 := { stood := { row := demandGrowsUptoRow, standIns := [], harness := (true, "6c110c50229bb9d94df9765b4a26a6b5db23d7d9c9853d00e0dd4b2cccf948e0"), looks := true }, kinds := [], alts := [], laidByText := true, laidKinds := [.sentinel, .sentinel, .sentinel, .sentinel, .sentinel, .sentinel, .sentinel, .sentinel, .sentinel, .sentinel, .sentinel, .sentinel, .sentinel, .sentinel, .sentinel, .sentinel], laidTests := true, laidLooks := .later }
def DemandGrowsUptoCardSaid : Prop := Claim7.holds Tryd.pinned (.plain (OpenSpec.upto demandGrowsSpec)) demandGrowsUptoCard

/-- THE SECOND FORM's CARD OF 'almonerlaw11.DemandSplits'. -/
def demandSplitsUptoCard : Claim7 := { stood := { row := demandSplitsUptoRow, standIns := [], harness := (true, "6c110c50229bb9d94df9765b4a26a6b5db23d7d9c9853d00e0dd4b2cccf948e0"), looks := true }, kinds := [], alts := [], laidByText := true, laidKinds := [.sentinel, .sentinel, .sentinel], laidTests := true, laidLooks := .later }
def DemandSplitsUptoCardSaid : Prop := Claim7.holds Tryd.pinned (.plain (OpenSpec.upto demandSplitsSpec)) demandSplitsUptoCard

/-- THE SECOND FORM's CARD OF 'almonerlaw11.DemandPeriods'. -/
def demandPeriodsUptoCard : Claim7 := { stood := { row := demandPeriodsUptoRow, standIns := [], harness := (true, "6c110c50229bb9d94df9765b4a26a6b5db23d7d9c9853d00e0dd4b2cccf948e0"), looks := true }, kinds := [], alts := [], laidByText := true, laidKinds := [.sentinel, .sentinel, .sentinel, .sentinel], laidTests := true, laidLooks := .later }
def DemandPeriodsUptoCardSaid : Prop := Claim7.holds Tryd.pinned (.plain (OpenSpec.upto demandPeriodsSpec)) demandPeriodsUptoCard
end Rows
end Go.Proofs.YtilnchlnlnpkfaaDoor

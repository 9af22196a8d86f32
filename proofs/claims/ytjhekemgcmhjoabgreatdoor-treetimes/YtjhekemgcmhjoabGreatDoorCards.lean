/-
  DERIVED. GIVEN WITH THE SEED: THE CARDS: each row of YtjhekemgcmhjoabGreatDoorRows.lean that lists a variable, with what it lists TIED to the program's text (the seventh form; the later family's looks); each row that meets fmt, with fmt's text TOLD by the authors' own Lean function (tested against real Go, not proved from fmt's source: count such statements apart). THE CARD IS WHAT COUNTS. Prove the row's statement (the work); the ties are given (YtjhekemgcmhjoabGreatDoorTie.lean); close each card by the builder's one call (the guide's Derived/Test/ToyasCard.lean, 'card_holds'). Laid BY PROGRAM, IN A SANDBOX (cutbox-door.mjs). By AI agents, Wed Nov 11 2026. No macro, syntax, notation, axiom, sorry.
-/
import Derived.Test.YtjhekemgcmhjoabGreatDoorRows
import GoSem.ClaimSeven
namespace Go.Proofs.YtjhekemgcmhjoabGreatDoor
namespace Rows

/-- THE TIED CARD OF 'almonerlaw13.TreeTimes'. -/
def treeTimesCard : Claim7 := { stood := { row := treeTimesRow, standIns := [], harness := (true, "843b1395e0480b500e97cd660ddb3b81b035ee6744b48c986dcf43f8267b0f1b"), looks := false }, kinds := [], alts := [], laidByText := true, laidKinds := [.sentinel, .sentinel, .sentinel, .sentinel, .sentinel, .sentinel], laidTests := true, laidLooks := .later }
def TreeTimesCardSaid : Prop := Claim7.holds Tryz.pinned (.plain (OpenSpec.ofChange treeTimesSpec)) treeTimesCard

/-- THE SECOND FORM's CARD OF 'almonerlaw13.TreeTimes'. -/
def treeTimesUptoCard : Claim7 := { stood := { row := treeTimesUptoRow, standIns := [], harness := (true, "843b1395e0480b500e97cd660ddb3b81b035ee6744b48c986dcf43f8267b0f1b"), looks := false }, kinds := [], alts := [], laidByText := true, laidKinds := [.sentinel, .sentinel, .sentinel, .sentinel, .sentinel, .sentinel], laidTests := true, laidLooks := .later }
def TreeTimesUptoCardSaid : Prop := Claim7.holds Tryz.pinned (.plain (OpenSpec.upto treeTimesSpec)) treeTimesUptoCard
end Rows
end Go.Proofs.YtjhekemgcmhjoabGreatDoor

/-
  DERIVED. GIVEN WITH THE SEED: THE CARDS: each row of YtjhekemgcmhjoabDoorRows.lean that lists a variable, with what it lists TIED to the program's text (the seventh form; the later family's looks); each row that meets fmt, with fmt's text TOLD by the authors' own Lean function (tested against real Go, not proved from fmt's source: count such statements apart). THE CARD IS WHAT COUNTS. Prove the row's statement (the work); the ties are given (YtjhekemgcmhjoabDoorTie.lean); close each card by the builder's one call (the guide's Derived/Test/ToyasCard.lean, 'card_holds'). Laid BY PROGRAM, IN A SANDBOX (cutbox-door.mjs). By AI agents, Wed Nov 11 2026. No macro, syntax, notation, axiom, sorry.
-/
import Derived.Test.YtjhekemgcmhjoabDoorRows
import GoSem.ClaimSeven
namespace Go.Proofs.YtjhekemgcmhjoabDoor
namespace Rows

/-- THE TIED CARD OF 'almonerlaw13.TreeIds'. -/
def treeIdsCard : Claim7 := { stood := { row := treeIdsRow, standIns := [], harness := (true, "deaebfb94934d7e0e69baae86a5c10f359f48631d3f49dd28e65bbe86b492304"), looks := false }, kinds := [], alts := [], laidByText := true, laidKinds := [.sentinel, .sentinel, .sentinel, .sentinel, .sentinel, .sentinel], laidTests := true, laidLooks := .later }
def TreeIdsCardSaid : Prop := Claim7.holds Tryd.pinned (.plain (OpenSpec.ofChange treeIdsSpec)) treeIdsCard

/-- THE SECOND FORM's CARD OF 'almonerlaw13.TreeIds'. -/
def treeIdsUptoCard : Claim7 := { stood := { row := treeIdsUptoRow, standIns := [], harness := (true, "deaebfb94934d7e0e69baae86a5c10f359f48631d3f49dd28e65bbe86b492304"), looks := false }, kinds := [], alts := [], laidByText := true, laidKinds := [.sentinel, .sentinel, .sentinel, .sentinel, .sentinel, .sentinel], laidTests := true, laidLooks := .later }
def TreeIdsUptoCardSaid : Prop := Claim7.holds Tryd.pinned (.plain (OpenSpec.upto treeIdsSpec)) treeIdsUptoCard
end Rows
end Go.Proofs.YtjhekemgcmhjoabDoor

/-
  DERIVED. GIVEN WITH THE SEED: THE CARDS: each row of YtjhekemgcmhjoaaDoorRows.lean that lists a variable, with what it lists TIED to the program's text (the seventh form; the later family's looks); each row that meets fmt, with fmt's text TOLD by the authors' own Lean function (tested against real Go, not proved from fmt's source: count such statements apart). THE CARD IS WHAT COUNTS. Prove the row's statement (the work); the ties are given (YtjhekemgcmhjoaaDoorTie.lean); close each card by the builder's one call (the guide's Derived/Test/ToyasCard.lean, 'card_holds'). Laid BY PROGRAM, IN A SANDBOX (cutbox-door.mjs). By AI agents, Wed Nov 11 2026. No macro, syntax, notation, axiom, sorry.
-/
import Derived.Test.YtjhekemgcmhjoaaDoorRows
import GoSem.ClaimSeven
namespace Go.Proofs.YtjhekemgcmhjoaaDoor
namespace Rows

/-- THE TIED CARD OF 'almonerlaw13.TreeGhosts'. -/
def treeGhostsCard : Claim7 := { stood := { row := treeGhostsRow, standIns := [], harness := (true, "07c45d45d86eeafc0d3544623bea196b45bc2716bba878ac91126683dd2c9206"), looks := false }, kinds := [], alts := [], laidByText := true, laidKinds := [.sentinel, .sentinel, .sentinel, .sentinel, .sentinel, .sentinel], laidTests := true, laidLooks := .later }
def TreeGhostsCardSaid : Prop := Claim7.holds Tryd.pinned (.plain (OpenSpec.ofChange treeGhostsSpec)) treeGhostsCard

/-- THE SECOND FORM's CARD OF 'almonerlaw13.TreeGhosts'. -/
def treeGhostsUptoCard : Claim7 := { stood := { row := treeGhostsUptoRow, standIns := [], harness := (true, "07c45d45d86eeafc0d3544623bea196b45bc2716bba878ac91126683dd2c9206"), looks := false }, kinds := [], alts := [], laidByText := true, laidKinds := [.sentinel, .sentinel, .sentinel, .sentinel, .sentinel, .sentinel], laidTests := true, laidLooks := .later }
def TreeGhostsUptoCardSaid : Prop := Claim7.holds Tryd.pinned (.plain (OpenSpec.upto treeGhostsSpec)) treeGhostsUptoCard
end Rows
end Go.Proofs.YtjhekemgcmhjoaaDoor

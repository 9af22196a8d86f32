/-
  DERIVED. GIVEN WITH THE SEED: THE CARDS: each row of YtldfngkooilmnabDoorRows.lean that lists a variable, with what it lists TIED to the program's text (the seventh form; the later family's looks); each row that meets fmt, with fmt's text TOLD by the authors' own Lean function (tested against real Go, not proved from fmt's source: count such statements apart). THE CARD IS WHAT COUNTS. Prove the row's statement (the work); the ties are given (YtldfngkooilmnabDoorTie.lean); close each card by the builder's one call (the guide's Derived/Test/ToyasCard.lean, 'card_holds'). Laid BY PROGRAM, IN A SANDBOX (cutbox-door.mjs). By AI agents, Wed Nov 11 2026. No macro, syntax, notation, axiom, sorry.
-/
import Derived.Test.YtldfngkooilmnabDoorRows
import GoSem.ClaimSeven
namespace Go.Proofs.YtldfngkooilmnabDoor
namespace Rows

/-- THE TIED CARD OF 'almonerlaw10.SupplyAdds'. -/
def supplyAddsCard : Claim7 := { stood := { row := supplyAddsRow, standIns := [], harness := (true, "6b4ad452cff04b3600359e9dbf4269b9ccc02ca3968e49e3ab3d9b6366cb7f0a"), looks := false }, kinds := [], alts := [], laidByText := true, laidKinds := [.sentinel, .sentinel, .sentinel], laidTests := true, laidLooks := .later }
def SupplyAddsCardSaid : Prop := Claim7.holds Tryd.pinned (.plain (OpenSpec.ofChange supplyAddsSpec)) supplyAddsCard

/-- THE SECOND FORM's CARD OF 'almonerlaw10.SupplyAdds'. -/
def supplyAddsUptoCard : Claim7 := { stood := { row := supplyAddsUptoRow, standIns := [], harness := (true, "6b4ad452cff04b3600359e9dbf4269b9ccc02ca3968e49e3ab3d9b6366cb7f0a"), looks := false }, kinds := [], alts := [], laidByText := true, laidKinds := [.sentinel, .sentinel, .sentinel], laidTests := true, laidLooks := .later }
def SupplyAddsUptoCardSaid : Prop := Claim7.holds Tryd.pinned (.plain (OpenSpec.upto supplyAddsSpec)) supplyAddsUptoCard
end Rows
end Go.Proofs.YtldfngkooilmnabDoor

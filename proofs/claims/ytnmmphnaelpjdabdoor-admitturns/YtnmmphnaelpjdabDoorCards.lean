/-
  DERIVED. GIVEN WITH THE SEED: THE CARDS: each row of YtnmmphnaelpjdabDoorRows.lean that lists a variable, with what it lists TIED to the program's text (the seventh form; the later family's looks); each row that meets fmt, with fmt's text TOLD by the authors' own Lean function (tested against real Go, not proved from fmt's source: count such statements apart). THE CARD IS WHAT COUNTS. Prove the row's statement (the work); the ties are given (YtnmmphnaelpjdabDoorTie.lean); close each card by the builder's one call (the guide's Derived/Test/ToyasCard.lean, 'card_holds'). Laid BY PROGRAM, IN A SANDBOX (cutbox-door.mjs). By AI agents, Wed Nov 11 2026. No macro, syntax, notation, axiom, sorry.
-/
import Derived.Test.YtnmmphnaelpjdabDoorRows
import GoSem.ClaimSeven
namespace Go.Proofs.YtnmmphnaelpjdabDoor
namespace Rows

/-- THE TIED CARD OF 'almonerlaw12.AdmitTurns'. -/
def admitTurnsCard : Claim7 := { stood := { row := admitTurnsRow, standIns := [], harness := (true, "e6133acea45182a1a9ad254af7dc069d412f0d8285ba62f8143721dac4fdc7d9"), looks := true }, kinds := [], alts := [], laidByText := true, laidKinds := [.sentinel, .sentinel, .sentinel, .sentinel, .sentinel, .sentinel, .sentinel, .sentinel, .sentinel, .sentinel, .sentinel, .sentinel, .sentinel, .sentinel, .sentinel, .sentinel], laidTests := true, laidLooks := .later }
def AdmitTurnsCardSaid : Prop := Claim7.holds Tryd.pinned (.plain (OpenSpec.ofChange admitTurnsSpec)) admitTurnsCard

/-- THE TIED CARD OF 'almonerlaw12.AdmitShorter'. -/
def admitShorterCard : Claim7 := { stood := { row := admitShorterRow, standIns := [], harness := (true, "e6133acea45182a1a9ad254af7dc069d412f0d8285ba62f8143721dac4fdc7d9"), looks := true }, kinds := [], alts := [], laidByText := true, laidKinds := [.sentinel, .sentinel, .sentinel, .sentinel, .sentinel, .sentinel], laidTests := true, laidLooks := .later }
def AdmitShorterCardSaid : Prop := Claim7.holds Tryd.pinned (.plain (OpenSpec.ofChange admitShorterSpec)) admitShorterCard

/-- THE SECOND FORM's CARD OF 'almonerlaw12.AdmitTurns'. -/
def admitTurnsUptoCard : Claim7 := { stood := { row := admitTurnsUptoRow, standIns := [], harness := (true, "e6133acea45182a1a9ad254af7dc069d412f0d8285ba62f8143721dac4fdc7d9"), looks := true }, kinds := [], alts := [], laidByText := true, laidKinds := [.sentinel, .sentinel, .sentinel, .sentinel, .sentinel, .sentinel, .sentinel, .sentinel, .sentinel, .sentinel, .sentinel, .sentinel, .sentinel, .sentinel, .sentinel, .sentinel], laidTests := true, laidLooks := .later }
def AdmitTurnsUptoCardSaid : Prop := Claim7.holds Tryd.pinned (.plain (OpenSpec.upto admitTurnsSpec)) admitTurnsUptoCard

/-- THE SECOND FORM's CARD OF 'almonerlaw12.AdmitShorter'. -/
def admitShorterUptoCard : Claim7 := { stood := { row := admitShorterUptoRow, standIns := [], harness := (true, "e6133acea45182a1a9ad254af7dc069d412f0d8285ba62f8143721dac4fdc7d9"), looks := true }, kinds := [], alts := [], laidByText := true, laidKinds := [.sentinel, .sentinel, .sentinel, .sentinel, .sentinel, .sentinel], laidTests := true, laidLooks := .later }
def AdmitShorterUptoCardSaid : Prop := Claim7.holds Tryd.pinned (.plain (OpenSpec.upto admitShorterSpec)) admitShorterUptoCard
end Rows
end Go.Proofs.YtnmmphnaelpjdabDoor

/-
  DERIVED. GIVEN WITH THE SEED: THE CARDS: each row of YtjocjkfllicjdaaDoorRows.lean that lists a variable, with what it lists TIED to the program's text (the seventh form; the later family's looks); each row that meets fmt, with fmt's text TOLD by the authors' own Lean function (tested against real Go, not proved from fmt's source: count such statements apart). THE CARD IS WHAT COUNTS. Prove the row's statement (the work); the ties are given (YtjocjkfllicjdaaDoorTie.lean); close each card by the builder's one call (the guide's Derived/Test/ToyasCard.lean, 'card_holds'). Laid BY PROGRAM, IN A SANDBOX (cutbox-door.mjs). By AI agents, Wed Nov 11 2026. No macro, syntax, notation, axiom, sorry.
-/
import Derived.Test.YtjocjkfllicjdaaDoorRows
import GoSem.ClaimSeven
namespace Go.Proofs.YtjocjkfllicjdaaDoor
namespace Rows

/-- THE TIED CARD OF 'almonerlaw19.RoundPlays'. -/
def roundPlaysCard : Claim7 := { stood := { row := roundPlaysRow, standIns := [], harness := (true, "88547c2dc71dd1019da7001ab96a4e3655089d673b3eeb32494be7e6245a83bc"), looks := true }, kinds := [], alts := [], laidByText := true, laidKinds := [.sentinel, .sentinel, .sentinel, .sentinel, .sentinel, .sentinel, .sentinel, .sentinel, .sentinel, .sentinel, .sentinel, .sentinel, .sentinel, .sentinel, .sentinel, .sentinel], laidTests := true, laidLooks := .later }
def RoundPlaysCardSaid : Prop := Claim7.holds Tryd.pinned (.plain (OpenSpec.ofChange roundPlaysSpec)) roundPlaysCard

/-- THE TIED CARD OF 'almonerlaw19.RoundNewest'. -/
def roundNewestCard : Claim7 := { stood := { row := roundNewestRow, standIns := [], harness := (true, "88547c2dc71dd1019da7001ab96a4e3655089d673b3eeb32494be7e6245a83bc"), looks := true }, kinds := [], alts := [], laidByText := true, laidKinds := [.sentinel, .sentinel, .sentinel, .sentinel, .sentinel], laidTests := true, laidLooks := .later }
def RoundNewestCardSaid : Prop := Claim7.holds Tryd.pinned (.plain (OpenSpec.ofChange roundNewestSpec)) roundNewestCard

/-- THE TIED CARD OF 'almonerlaw19.RoundHalves'. -/
def roundHalvesCard : Claim7 := { stood := { row := roundHalvesRow, standIns := [], harness := (true, "88547c2dc71dd1019da7001ab96a4e3655089d673b3eeb32494be7e6245a83bc"), looks := true }, kinds := [], alts := [], laidByText := true, laidKinds := [.sentinel, .sentinel, .sentinel, .sentinel, .sentinel], laidTests := true, laidLooks := .later }
def RoundHalvesCardSaid : Prop := Claim7.holds Tryd.pinned (.plain (OpenSpec.ofChange roundHalvesSpec)) roundHalvesCard

/-- THE TIED CARD OF 'almonerlaw19.RoundReads'. -/
def roundReadsCard : Claim7 := { stood := { row := roundReadsRow, standIns := [], harness := (true, "88547c2dc71dd1019da7001ab96a4e3655089d673b3eeb32494be7e6245a83bc"), looks := true }, kinds := [], alts := [], laidByText := true, laidKinds := [.sentinel, .sentinel, .sentinel, .sentinel, .sentinel], laidTests := true, laidLooks := .later }
def RoundReadsCardSaid : Prop := Claim7.holds Tryd.pinned (.plain (OpenSpec.ofChange roundReadsSpec)) roundReadsCard

/-- THE SECOND FORM's CARD OF 'almonerlaw19.RoundPlays'. -/
def roundPlaysUptoCard : Claim7 := { stood := { row := roundPlaysUptoRow, standIns := [], harness := (true, "88547c2dc71dd1019da7001ab96a4e3655089d673b3eeb32494be7e6245a83bc"), looks := true }, kinds := [], alts := [], laidByText := true, laidKinds := [.sentinel, .sentinel, .sentinel, .sentinel, .sentinel, .sentinel, .sentinel, .sentinel, .sentinel, .sentinel, .sentinel, .sentinel, .sentinel, .sentinel, .sentinel, .sentinel], laidTests := true, laidLooks := .later }
def RoundPlaysUptoCardSaid : Prop := Claim7.holds Tryd.pinned (.plain (OpenSpec.upto roundPlaysSpec)) roundPlaysUptoCard

/-- THE SECOND FORM's CARD OF 'almonerlaw19.RoundNewest'. -/
def roundNewestUptoCard : Claim7 := { stood := { row := roundNewestUptoRow, standIns := [], harness := (true, "88547c2dc71dd1019da7001ab96a4e3655089d673b3eeb32494be7e6245a83bc"), looks := true }, kinds := [], alts := [], laidByText := true, laidKinds := [.sentinel, .sentinel, .sentinel, .sentinel, .sentinel], laidTests := true, laidLooks := .later }
def RoundNewestUptoCardSaid : Prop := Claim7.holds Tryd.pinned (.plain (OpenSpec.upto roundNewestSpec)) roundNewestUptoCard

/-- THE SECOND FORM's CARD OF 'almonerlaw19.RoundHalves'. -/
def roundHalvesUptoCard : Claim7 := { stood := { row := roundHalvesUptoRow, standIns := [], harness := (true, "88547c2dc71dd1019da7001ab96a4e3655089d673b3eeb32494be7e6245a83bc"), looks := true }, kinds := [], alts := [], laidByText := true, laidKinds := [.sentinel, .sentinel, .sentinel, .sentinel, .sentinel], laidTests := true, laidLooks := .later }
def RoundHalvesUptoCardSaid : Prop := Claim7.holds Tryd.pinned (.plain (OpenSpec.upto roundHalvesSpec)) roundHalvesUptoCard

/-- THE SECOND FORM's CARD OF 'almonerlaw19.RoundReads'. -/
def roundReadsUptoCard : Claim7 := { stood := { row := roundReadsUptoRow, standIns := [], harness := (true, "88547c2dc71dd1019da7001ab96a4e3655089d673b3eeb32494be7e6245a83bc"), looks := true }, kinds := [], alts := [], laidByText := true, laidKinds := [.sentinel, .sentinel, .sentinel, .sentinel, .sentinel], laidTests := true, laidLooks := .later }
def RoundReadsUptoCardSaid : Prop := Claim7.holds Tryd.pinned (.plain (OpenSpec.upto roundReadsSpec)) roundReadsUptoCard
end Rows
end Go.Proofs.YtjocjkfllicjdaaDoor

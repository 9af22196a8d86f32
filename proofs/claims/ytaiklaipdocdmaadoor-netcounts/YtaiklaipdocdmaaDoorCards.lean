/-
  DERIVED. GIVEN WITH THE SEED: THE CARDS: each row of YtaiklaipdocdmaaDoorRows.lean that lists a variable, with what it lists TIED to the program's text (the seventh form; the later family's looks); each row that meets fmt, with fmt's text TOLD by the authors' own Lean function (tested against real Go, not proved from fmt's source: count such statements apart). THE CARD IS WHAT COUNTS. Prove the row's statement (the work); the ties are given (YtaiklaipdocdmaaDoorTie.lean); close each card by the builder's one call (the guide's Derived/Test/ToyasCard.lean, 'card_holds'). Laid BY PROGRAM, IN A SANDBOX (cutbox-door.mjs). By AI agents, Wed Nov 11 2026. No macro, syntax, notation, axiom, sorry.
-/
import Derived.Test.YtaiklaipdocdmaaDoorRows
import GoSem.ClaimSeven
namespace Go.Proofs.YtaiklaipdocdmaaDoor
namespace Rows

/-- THE TIED CARD OF 'almonerlaw17.NetPlays'. -/
def netPlaysCard : Claim7 := { stood := { row := netPlaysRow, standIns := [], harness := (true, "0a003d3154a2aca36876fd00509668dc036bfaadc6cb5849cdbcfd9e4dbb9474"), looks := true }, kinds := [], alts := [], laidByText := true, laidKinds := [.sentinel, .sentinel, .sentinel, .sentinel, .sentinel, .sentinel, .sentinel, .sentinel, .sentinel, .sentinel, .sentinel, .sentinel, .sentinel, .sentinel, .sentinel, .sentinel], laidTests := true, laidLooks := .later }
def NetPlaysCardSaid : Prop := Claim7.holds Tryd.pinned (.plain (OpenSpec.ofChange netPlaysSpec)) netPlaysCard

/-- THE TIED CARD OF 'almonerlaw17.NetCounts'. -/
def netCountsCard : Claim7 := { stood := { row := netCountsRow, standIns := [], harness := (true, "0a003d3154a2aca36876fd00509668dc036bfaadc6cb5849cdbcfd9e4dbb9474"), looks := true }, kinds := [], alts := [], laidByText := true, laidKinds := [.sentinel, .sentinel, .sentinel], laidTests := true, laidLooks := .later }
def NetCountsCardSaid : Prop := Claim7.holds Tryd.pinned (.plain (OpenSpec.ofChange netCountsSpec)) netCountsCard

/-- THE TIED CARD OF 'almonerlaw17.NetOrders'. -/
def netOrdersCard : Claim7 := { stood := { row := netOrdersRow, standIns := [], harness := (true, "0a003d3154a2aca36876fd00509668dc036bfaadc6cb5849cdbcfd9e4dbb9474"), looks := true }, kinds := [], alts := [], laidByText := true, laidKinds := [.sentinel, .sentinel, .sentinel], laidTests := true, laidLooks := .later }
def NetOrdersCardSaid : Prop := Claim7.holds Tryd.pinned (.plain (OpenSpec.ofChange netOrdersSpec)) netOrdersCard

/-- THE TIED CARD OF 'almonerlaw17.NetPuts'. -/
def netPutsCard : Claim7 := { stood := { row := netPutsRow, standIns := [], harness := (true, "0a003d3154a2aca36876fd00509668dc036bfaadc6cb5849cdbcfd9e4dbb9474"), looks := true }, kinds := [], alts := [], laidByText := true, laidKinds := [.sentinel, .sentinel, .sentinel, .sentinel, .sentinel], laidTests := true, laidLooks := .later }
def NetPutsCardSaid : Prop := Claim7.holds Tryd.pinned (.plain (OpenSpec.ofChange netPutsSpec)) netPutsCard

/-- THE TIED CARD OF 'almonerlaw17.NetGets'. -/
def netGetsCard : Claim7 := { stood := { row := netGetsRow, standIns := [], harness := (true, "0a003d3154a2aca36876fd00509668dc036bfaadc6cb5849cdbcfd9e4dbb9474"), looks := true }, kinds := [], alts := [], laidByText := true, laidKinds := [.sentinel, .sentinel, .sentinel, .sentinel, .sentinel, .sentinel, .sentinel, .sentinel, .sentinel, .sentinel, .sentinel, .sentinel, .sentinel, .sentinel, .sentinel, .sentinel], laidTests := true, laidLooks := .later }
def NetGetsCardSaid : Prop := Claim7.holds Tryd.pinned (.plain (OpenSpec.ofChange netGetsSpec)) netGetsCard

/-- THE TIED CARD OF 'almonerlaw17.NetUnlike'. -/
def netUnlikeCard : Claim7 := { stood := { row := netUnlikeRow, standIns := [], harness := (true, "0a003d3154a2aca36876fd00509668dc036bfaadc6cb5849cdbcfd9e4dbb9474"), looks := true }, kinds := [], alts := [], laidByText := true, laidKinds := [.sentinel, .sentinel, .sentinel, .sentinel, .sentinel], laidTests := true, laidLooks := .later }
def NetUnlikeCardSaid : Prop := Claim7.holds Tryd.pinned (.plain (OpenSpec.ofChange netUnlikeSpec)) netUnlikeCard

/-- THE SECOND FORM's CARD OF 'almonerlaw17.NetPlays'. -/
def netPlaysUptoCard : Claim7 := { stood := { row := netPlaysUptoRow, standIns := [], harness := (true, "0a003d3154a2aca36876fd00509668dc036bfaadc6cb5849cdbcfd9e4dbb9474"), looks := true }, kinds := [], alts := [], laidByText := true, laidKinds := [.sentinel, .sentinel, .sentinel, .sentinel, .sentinel, .sentinel, .sentinel, .sentinel, .sentinel, .sentinel, .sentinel, .sentinel, .sentinel, .sentinel, .sentinel, .sentinel], laidTests := true, laidLooks := .later }
def NetPlaysUptoCardSaid : Prop := Claim7.holds Tryd.pinned (.plain (OpenSpec.upto netPlaysSpec)) netPlaysUptoCard

/-- THE SECOND FORM's CARD OF 'almonerlaw17.NetCounts'. -/
def netCountsUptoCard : Claim7 := { stood := { row := netCountsUptoRow, standIns := [], harness := (true, "0a003d3154a2aca36876fd00509668dc036bfaadc6cb5849cdbcfd9e4dbb9474"), looks := true }, kinds := [], alts := [], laidByText := true, laidKinds := [.sentinel, .sentinel, .sentinel], laidTests := true, laidLooks := .later }
def NetCountsUptoCardSaid : Prop := Claim7.holds Tryd.pinned (.plain (OpenSpec.upto netCountsSpec)) netCountsUptoCard

/-- THE SECOND FORM's CARD OF 'almonerlaw17.NetOrders'. -/
def netOrdersUptoCard : Claim7 := { stood := { row := netOrdersUptoRow, standIns := [], harness := (true, "0a003d3154a2aca36876fd00509668dc036bfaadc6cb5849cdbcfd9e4dbb9474"), looks := true }, kinds := [], alts := [], laidByText := true, laidKinds := [.sentinel, .sentinel, .sentinel], laidTests := true, laidLooks := .later }
def NetOrdersUptoCardSaid : Prop := Claim7.holds Tryd.pinned (.plain (OpenSpec.upto netOrdersSpec)) netOrdersUptoCard

/-- THE SECOND FORM's CARD OF 'almonerlaw17.NetPuts'. -/
def netPutsUptoCard : Claim7 := { stood := { row := netPutsUptoRow, standIns := [], harness := (true, "0a003d3154a2aca36876fd00509668dc036bfaadc6cb5849cdbcfd9e4dbb9474"), looks := true }, kinds := [], alts := [], laidByText := true, laidKinds := [.sentinel, .sentinel, .sentinel, .sentinel, .sentinel], laidTests := true, laidLooks := .later }
def NetPutsUptoCardSaid : Prop := Claim7.holds Tryd.pinned (.plain (OpenSpec.upto netPutsSpec)) netPutsUptoCard

/-- THE SECOND FORM's CARD OF 'almonerlaw17.NetGets'. -/
def netGetsUptoCard : Claim7 := { stood := { row := netGetsUptoRow, standIns := [], harness := (true, "0a003d3154a2aca36876fd00509668dc036bfaadc6cb5849cdbcfd9e4dbb9474"), looks := true }, kinds := [], alts := [], laidByText := true, laidKinds := [.sentinel, .sentinel, .sentinel, .sentinel, .sentinel, .sentinel, .sentinel, .sentinel, .sentinel, .sentinel, .sentinel, .sentinel, .sentinel, .sentinel, .sentinel, .sentinel], laidTests := true, laidLooks := .later }
def NetGetsUptoCardSaid : Prop := Claim7.holds Tryd.pinned (.plain (OpenSpec.upto netGetsSpec)) netGetsUptoCard

/-- THE SECOND FORM's CARD OF 'almonerlaw17.NetUnlike'. -/
def netUnlikeUptoCard : Claim7 := { stood := { row := netUnlikeUptoRow, standIns := [], harness := (true, "0a003d3154a2aca36876fd00509668dc036bfaadc6cb5849cdbcfd9e4dbb9474"), looks := true }, kinds := [], alts := [], laidByText := true, laidKinds := [.sentinel, .sentinel, .sentinel, .sentinel, .sentinel], laidTests := true, laidLooks := .later }
def NetUnlikeUptoCardSaid : Prop := Claim7.holds Tryd.pinned (.plain (OpenSpec.upto netUnlikeSpec)) netUnlikeUptoCard
end Rows
end Go.Proofs.YtaiklaipdocdmaaDoor

/-
  DERIVED. GIVEN WITH THE SEED: THE CARDS: each row of YtpdehdomilnmeaaGreatDoorRows.lean that lists a variable, with what it lists TIED to the program's text (the seventh form; the later family's looks); each row that meets fmt, with fmt's text TOLD by the authors' own Lean function (tested against real Go, not proved from fmt's source: count such statements apart). THE CARD IS WHAT COUNTS. Prove the row's statement (the work); the ties are given (YtpdehdomilnmeaaGreatDoorTie.lean); close each card by the builder's one call (the guide's Derived/Test/ToyasCard.lean, 'card_holds'). Laid BY PROGRAM, IN A SANDBOX (cutbox-door.mjs). By AI agents, Wed Nov 11 2026. No macro, syntax, notation, axiom, sorry.
-/
import Derived.Test.YtpdehdomilnmeaaGreatDoorRows
import GoSem.ClaimSeven
namespace Go.Proofs.YtpdehdomilnmeaaGreatDoor
namespace Rows

/-- THE TIED CARD OF 'almonerlaw16.HostPlays'. -/
def hostPlaysCard : Claim7 := { stood := { row := hostPlaysRow, standIns := [], harness := (true, "514176123ab983dadaccd367ea62b815511ea7b84dc8f3c1144473092fe19b5f"), looks := true }, kinds := [], alts := [], laidByText := true, laidKinds := [.sentinel, .sentinel, .sentinel, .sentinel, .sentinel, .sentinel, .sentinel, .sentinel, .sentinel, .sentinel, .sentinel, .sentinel, .sentinel, .sentinel, .sentinel, .sentinel], laidTests := true, laidLooks := .later }
def HostPlaysCardSaid : Prop := Claim7.holds Tryz.pinned (.plain (OpenSpec.ofChange hostPlaysSpec)) hostPlaysCard

/-- THE TIED CARD OF 'almonerlaw16.HostSupplies'. -/
def hostSuppliesCard : Claim7 := { stood := { row := hostSuppliesRow, standIns := [], harness := (true, "514176123ab983dadaccd367ea62b815511ea7b84dc8f3c1144473092fe19b5f"), looks := true }, kinds := [], alts := [], laidByText := true, laidKinds := [.sentinel, .sentinel, .sentinel, .sentinel, .sentinel, .sentinel, .sentinel, .sentinel, .sentinel], laidTests := true, laidLooks := .later }
def HostSuppliesCardSaid : Prop := Claim7.holds Tryz.pinned (.plain (OpenSpec.ofChange hostSuppliesSpec)) hostSuppliesCard

/-- THE TIED CARD OF 'almonerlaw16.HostDeadlines'. -/
def hostDeadlinesCard : Claim7 := { stood := { row := hostDeadlinesRow, standIns := [], harness := (true, "514176123ab983dadaccd367ea62b815511ea7b84dc8f3c1144473092fe19b5f"), looks := true }, kinds := [], alts := [], laidByText := true, laidKinds := [.sentinel, .sentinel, .sentinel, .sentinel, .sentinel, .sentinel, .sentinel, .sentinel, .sentinel], laidTests := true, laidLooks := .later }
def HostDeadlinesCardSaid : Prop := Claim7.holds Tryz.pinned (.plain (OpenSpec.ofChange hostDeadlinesSpec)) hostDeadlinesCard

/-- THE TIED CARD OF 'almonerlaw16.HostPaths'. -/
def hostPathsCard : Claim7 := { stood := { row := hostPathsRow, standIns := [], harness := (true, "514176123ab983dadaccd367ea62b815511ea7b84dc8f3c1144473092fe19b5f"), looks := true }, kinds := [], alts := [], laidByText := true, laidKinds := [.sentinel, .sentinel, .sentinel, .sentinel, .sentinel, .sentinel, .sentinel, .sentinel, .sentinel], laidTests := true, laidLooks := .later }
def HostPathsCardSaid : Prop := Claim7.holds Tryz.pinned (.plain (OpenSpec.ofChange hostPathsSpec)) hostPathsCard

/-- THE TIED CARD OF 'almonerlaw16.HostOrders'. -/
def hostOrdersCard : Claim7 := { stood := { row := hostOrdersRow, standIns := [], harness := (true, "514176123ab983dadaccd367ea62b815511ea7b84dc8f3c1144473092fe19b5f"), looks := true }, kinds := [], alts := [], laidByText := true, laidKinds := [.sentinel, .sentinel, .sentinel, .sentinel, .sentinel, .sentinel, .sentinel, .sentinel, .sentinel], laidTests := true, laidLooks := .later }
def HostOrdersCardSaid : Prop := Claim7.holds Tryz.pinned (.plain (OpenSpec.ofChange hostOrdersSpec)) hostOrdersCard

/-- THE TIED CARD OF 'almonerlaw16.HostTwins'. -/
def hostTwinsCard : Claim7 := { stood := { row := hostTwinsRow, standIns := [], harness := (true, "514176123ab983dadaccd367ea62b815511ea7b84dc8f3c1144473092fe19b5f"), looks := true }, kinds := [], alts := [], laidByText := true, laidKinds := [.sentinel, .sentinel, .sentinel, .sentinel, .sentinel, .sentinel, .sentinel, .sentinel, .sentinel], laidTests := true, laidLooks := .later }
def HostTwinsCardSaid : Prop := Claim7.holds Tryz.pinned (.plain (OpenSpec.ofChange hostTwinsSpec)) hostTwinsCard

/-- THE SECOND FORM's CARD OF 'almonerlaw16.HostPlays'. -/
def hostPlaysUptoCard : Claim7 := { stood := { row := hostPlaysUptoRow, standIns := [], harness := (true, "514176123ab983dadaccd367ea62b815511ea7b84dc8f3c1144473092fe19b5f"), looks := true }, kinds := [], alts := [], laidByText := true, laidKinds := [.sentinel, .sentinel, .sentinel, .sentinel, .sentinel, .sentinel, .sentinel, .sentinel, .sentinel, .sentinel, .sentinel, .sentinel, .sentinel, .sentinel, .sentinel, .sentinel], laidTests := true, laidLooks := .later }
def HostPlaysUptoCardSaid : Prop := Claim7.holds Tryz.pinned (.plain (OpenSpec.upto hostPlaysSpec)) hostPlaysUptoCard

/-- THE SECOND FORM's CARD OF 'almonerlaw16.HostSupplies'. -/
def hostSuppliesUptoCard : Claim7 := { stood := { row := hostSuppliesUptoRow, standIns := [], harness := (true, "514176123ab983dadaccd367ea62b815511ea7b84dc8f3c1144473092fe19b5f"), looks := true }, kinds := [], alts := [], laidByText := true, laidKinds := [.sentinel, .sentinel, .sentinel, .sentinel, .sentinel, .sentinel, .sentinel, .sentinel, .sentinel], laidTests := true, laidLooks := .later }
def HostSuppliesUptoCardSaid : Prop := Claim7.holds Tryz.pinned (.plain (OpenSpec.upto hostSuppliesSpec)) hostSuppliesUptoCard

/-- THE SECOND FORM's CARD OF 'almonerlaw16.HostDeadlines'. -/
def hostDeadlinesUptoCard : Claim7 := { stood := { row := hostDeadlinesUptoRow, standIns := [], harness := (true, "514176123ab983dadaccd367ea62b815511ea7b84dc8f3c1144473092fe19b5f"), looks := true }, kinds := [], alts := [], laidByText := true, laidKinds := [.sentinel, .sentinel, .sentinel, .sentinel, .sentinel, .sentinel, .sentinel, .sentinel, .sentinel], laidTests := true, laidLooks := .later }
def HostDeadlinesUptoCardSaid : Prop := Claim7.holds Tryz.pinned (.plain (OpenSpec.upto hostDeadlinesSpec)) hostDeadlinesUptoCard

/-- THE SECOND FORM's CARD OF 'almonerlaw16.HostPaths'. -/
def hostPathsUptoCard : Claim7 := { stood := { row := hostPathsUptoRow, standIns := [], harness := (true, "514176123ab983dadaccd367ea62b815511ea7b84dc8f3c1144473092fe19b5f"), looks := true }, kinds := [], alts := [], laidByText := true, laidKinds := [.sentinel, .sentinel, .sentinel, .sentinel, .sentinel, .sentinel, .sentinel, .sentinel, .sentinel], laidTests := true, laidLooks := .later }
def HostPathsUptoCardSaid : Prop := Claim7.holds Tryz.pinned (.plain (OpenSpec.upto hostPathsSpec)) hostPathsUptoCard

/-- THE SECOND FORM's CARD OF 'almonerlaw16.HostOrders'. -/
def hostOrdersUptoCard : Claim7 := { stood := { row := hostOrdersUptoRow, standIns := [], harness := (true, "514176123ab983dadaccd367ea62b815511ea7b84dc8f3c1144473092fe19b5f"), looks := true }, kinds := [], alts := [], laidByText := true, laidKinds := [.sentinel, .sentinel, .sentinel, .sentinel, .sentinel, .sentinel, .sentinel, .sentinel, .sentinel], laidTests := true, laidLooks := .later }
def HostOrdersUptoCardSaid : Prop := Claim7.holds Tryz.pinned (.plain (OpenSpec.upto hostOrdersSpec)) hostOrdersUptoCard

/-- THE SECOND FORM's CARD OF 'almonerlaw16.HostTwins'. -/
def hostTwinsUptoCard : Claim7 := { stood := { row := hostTwinsUptoRow, standIns := [], harness := (true, "514176123ab983dadaccd367ea62b815511ea7b84dc8f3c1144473092fe19b5f"), looks := true }, kinds := [], alts := [], laidByText := true, laidKinds := [.sentinel, .sentinel, .sentinel, .sentinel, .sentinel, .sentinel, .sentinel, .sentinel, .sentinel], laidTests := true, laidLooks := .later }
def HostTwinsUptoCardSaid : Prop := Claim7.holds Tryz.pinned (.plain (OpenSpec.upto hostTwinsSpec)) hostTwinsUptoCard
end Rows
end Go.Proofs.YtpdehdomilnmeaaGreatDoor

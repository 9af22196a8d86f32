/-
  DERIVED. GIVEN WITH THE SEED: THE CARDS: each row of YtgmkhhaieolndaaDoorRows.lean that lists a variable, with what it lists TIED to the program's text (the seventh form; the later family's looks); each row that meets fmt, with fmt's text TOLD by the authors' own Lean function (tested against real Go, not proved from fmt's source: count such statements apart). THE CARD IS WHAT COUNTS. Prove the row's statement (the work); the ties are given (YtgmkhhaieolndaaDoorTie.lean); close each card by the builder's one call (the guide's Derived/Test/ToyasCard.lean, 'card_holds'). Laid BY PROGRAM, IN A SANDBOX (cutbox-door.mjs). By AI agents, Wed Nov 11 2026. No macro, syntax, notation, axiom, sorry.
-/
import Derived.Test.YtgmkhhaieolndaaDoorRows
import GoSem.ClaimSeven
namespace Go.Proofs.YtgmkhhaieolndaaDoor
namespace Rows

/-- THE TIED CARD OF 'almonerlaw08.PlanLegal'. -/
def planLegalCard : Claim7 := { stood := { row := planLegalRow, standIns := [], harness := (true, "ab1b08220a426edc218244fd4e823d75ca770a299d23722c2ed92ebe7f87d874"), looks := true }, kinds := [], alts := [], laidByText := true, laidKinds := [.sentinel, .sentinel, .sentinel], laidTests := true, laidLooks := .later }
def PlanLegalCardSaid : Prop := Claim7.holds Tryd.pinned (.plain (OpenSpec.ofChange planLegalSpec)) planLegalCard

/-- THE TIED CARD OF 'almonerlaw08.PlanShares'. -/
def planSharesCard : Claim7 := { stood := { row := planSharesRow, standIns := [], harness := (true, "ab1b08220a426edc218244fd4e823d75ca770a299d23722c2ed92ebe7f87d874"), looks := true }, kinds := [], alts := [], laidByText := true, laidKinds := [.sentinel, .sentinel, .sentinel, .sentinel, .sentinel, .sentinel, .sentinel, .sentinel, .sentinel, .sentinel, .sentinel, .sentinel, .sentinel, .sentinel, .sentinel, .sentinel], laidTests := true, laidLooks := .later }
def PlanSharesCardSaid : Prop := Claim7.holds Tryd.pinned (.plain (OpenSpec.ofChange planSharesSpec)) planSharesCard

/-- THE TIED CARD OF 'almonerlaw08.PlanCounts'. -/
def planCountsCard : Claim7 := { stood := { row := planCountsRow, standIns := [], harness := (true, "ab1b08220a426edc218244fd4e823d75ca770a299d23722c2ed92ebe7f87d874"), looks := true }, kinds := [], alts := [], laidByText := true, laidKinds := [.sentinel, .sentinel], laidTests := true, laidLooks := .later }
def PlanCountsCardSaid : Prop := Claim7.holds Tryd.pinned (.plain (OpenSpec.ofChange planCountsSpec)) planCountsCard

/-- THE TIED CARD OF 'almonerlaw08.PlanOrders'. -/
def planOrdersCard : Claim7 := { stood := { row := planOrdersRow, standIns := [], harness := (true, "ab1b08220a426edc218244fd4e823d75ca770a299d23722c2ed92ebe7f87d874"), looks := true }, kinds := [], alts := [], laidByText := true, laidKinds := [.sentinel, .sentinel], laidTests := true, laidLooks := .later }
def PlanOrdersCardSaid : Prop := Claim7.holds Tryd.pinned (.plain (OpenSpec.ofChange planOrdersSpec)) planOrdersCard

/-- THE TIED CARD OF 'almonerlaw08.PlanParts'. -/
def planPartsCard : Claim7 := { stood := { row := planPartsRow, standIns := [], harness := (true, "ab1b08220a426edc218244fd4e823d75ca770a299d23722c2ed92ebe7f87d874"), looks := true }, kinds := [], alts := [], laidByText := true, laidKinds := [.sentinel, .sentinel], laidTests := true, laidLooks := .later }
def PlanPartsCardSaid : Prop := Claim7.holds Tryd.pinned (.plain (OpenSpec.ofChange planPartsSpec)) planPartsCard

/-- THE SECOND FORM's CARD OF 'almonerlaw08.PlanLegal'. -/
def planLegalUptoCard : Claim7 := { stood := { row := planLegalUptoRow, standIns := [], harness := (true, "ab1b08220a426edc218244fd4e823d75ca770a299d23722c2ed92ebe7f87d874"), looks := true }, kinds := [], alts := [], laidByText := true, laidKinds := [.sentinel, .sentinel, .sentinel], laidTests := true, laidLooks := .later }
def PlanLegalUptoCardSaid : Prop := Claim7.holds Tryd.pinned (.plain (OpenSpec.upto planLegalSpec)) planLegalUptoCard

/-- THE SECOND FORM's CARD OF 'almonerlaw08.PlanShares'. -/
def planSharesUptoCard : Claim7 := { stood := { row := planSharesUptoRow, standIns := [], harness := (true, "ab1b08220a426edc218244fd4e823d75ca770a299d23722c2ed92ebe7f87d874"), looks := true }, kinds := [], alts := [], laidByText := true, laidKinds := [.sentinel, .sentinel, .sentinel, .sentinel, .sentinel, .sentinel, .sentinel, .sentinel, .sentinel, .sentinel, .sentinel, .sentinel, .sentinel, .sentinel, .sentinel, .sentinel], laidTests := true, laidLooks := .later }
def PlanSharesUptoCardSaid : Prop := Claim7.holds Tryd.pinned (.plain (OpenSpec.upto planSharesSpec)) planSharesUptoCard

/-- THE SECOND FORM's CARD OF 'almonerlaw08.PlanCounts'. -/
def planCountsUptoCard : Claim7 := { stood := { row := planCountsUptoRow, standIns := [], harness := (true, "ab1b08220a426edc218244fd4e823d75ca770a299d23722c2ed92ebe7f87d874"), looks := true }, kinds := [], alts := [], laidByText := true, laidKinds := [.sentinel, .sentinel], laidTests := true, laidLooks := .later }
def PlanCountsUptoCardSaid : Prop := Claim7.holds Tryd.pinned (.plain (OpenSpec.upto planCountsSpec)) planCountsUptoCard

/-- THE SECOND FORM's CARD OF 'almonerlaw08.PlanOrders'. -/
def planOrdersUptoCard : Claim7 := { stood := { row := planOrdersUptoRow, standIns := [], harness := (true, "ab1b08220a426edc218244fd4e823d75ca770a299d23722c2ed92ebe7f87d874"), looks := true }, kinds := [], alts := [], laidByText := true, laidKinds := [.sentinel, .sentinel], laidTests := true, laidLooks := .later }
def PlanOrdersUptoCardSaid : Prop := Claim7.holds Tryd.pinned (.plain (OpenSpec.upto planOrdersSpec)) planOrdersUptoCard

/-- THE SECOND FORM's CARD OF 'almonerlaw08.PlanParts'. -/
def planPartsUptoCard : Claim7 := { stood := { row := planPartsUptoRow, standIns := [], harness := (true, "ab1b08220a426edc218244fd4e823d75ca770a299d23722c2ed92ebe7f87d874"), looks := true }, kinds := [], alts := [], laidByText := true, laidKinds := [.sentinel, .sentinel], laidTests := true, laidLooks := .later }
def PlanPartsUptoCardSaid : Prop := Claim7.holds Tryd.pinned (.plain (OpenSpec.upto planPartsSpec)) planPartsUptoCard
end Rows
end Go.Proofs.YtgmkhhaieolndaaDoor

/-
  DERIVED. GIVEN WITH THE SEED: THE CARDS: each row of YtcbimclgodkflaaDoorRows.lean that lists a variable, with what it lists TIED to the program's text (the seventh form; the later family's looks); each row that meets fmt, with fmt's text TOLD by the authors' own Lean function (tested against real Go, not proved from fmt's source: count such statements apart). THE CARD IS WHAT COUNTS. Prove the row's statement (the work); the ties are given (YtcbimclgodkflaaDoorTie.lean); close each card by the builder's one call (the guide's Derived/Test/ToyasCard.lean, 'card_holds'). Laid BY PROGRAM, IN A SANDBOX (cutbox-door.mjs). By AI agents, Wed Nov 11 2026. No macro, syntax, notation, axiom, sorry.
-/
import Derived.Test.YtcbimclgodkflaaDoorRows
import GoSem.ClaimSeven
namespace Go.Proofs.YtcbimclgodkflaaDoor
namespace Rows

/-- THE TIED CARD OF 'almonerlaw06.WalKeeps'. -/
def walKeepsCard : Claim7 := { stood := { row := walKeepsRow, standIns := [], harness := (true, "7a66b46c5757f71dc6e8d9248e53bad17ec64602caa192e5d427e2ad3a3eae05"), looks := false }, kinds := [], alts := [], laidByText := true, laidKinds := [.sentinel, .sentinel, .sentinel, .sentinel, .sentinel, .sentinel, .sentinel], laidTests := true, laidLooks := .later }
def WalKeepsCardSaid : Prop := Claim7.holds Tryd.pinned (.plain (OpenSpec.ofChange walKeepsSpec)) walKeepsCard

/-- THE TIED CARD OF 'almonerlaw06.WalRows'. -/
def walRowsCard : Claim7 := { stood := { row := walRowsRow, standIns := [], harness := (true, "7a66b46c5757f71dc6e8d9248e53bad17ec64602caa192e5d427e2ad3a3eae05"), looks := false }, kinds := [], alts := [], laidByText := true, laidKinds := [.sentinel, .sentinel, .sentinel, .sentinel, .sentinel, .sentinel, .sentinel], laidTests := true, laidLooks := .later }
def WalRowsCardSaid : Prop := Claim7.holds Tryd.pinned (.plain (OpenSpec.ofChange walRowsSpec)) walRowsCard

/-- THE TIED CARD OF 'almonerlaw06.WalEpochs'. -/
def walEpochsCard : Claim7 := { stood := { row := walEpochsRow, standIns := [], harness := (true, "7a66b46c5757f71dc6e8d9248e53bad17ec64602caa192e5d427e2ad3a3eae05"), looks := false }, kinds := [], alts := [], laidByText := true, laidKinds := [.sentinel, .sentinel, .sentinel, .sentinel, .sentinel, .sentinel, .sentinel], laidTests := true, laidLooks := .later }
def WalEpochsCardSaid : Prop := Claim7.holds Tryd.pinned (.plain (OpenSpec.ofChange walEpochsSpec)) walEpochsCard

/-- THE SECOND FORM's CARD OF 'almonerlaw06.WalKeeps'. -/
def walKeepsUptoCard : Claim7 := { stood := { row := walKeepsUptoRow, standIns := [], harness := (true, "7a66b46c5757f71dc6e8d9248e53bad17ec64602caa192e5d427e2ad3a3eae05"), looks := false }, kinds := [], alts := [], laidByText := true, laidKinds := [.sentinel, .sentinel, .sentinel, .sentinel, .sentinel, .sentinel, .sentinel], laidTests := true, laidLooks := .later }
def WalKeepsUptoCardSaid : Prop := Claim7.holds Tryd.pinned (.plain (OpenSpec.upto walKeepsSpec)) walKeepsUptoCard

/-- THE SECOND FORM's CARD OF 'almonerlaw06.WalRows'. -/
def walRowsUptoCard : Claim7 := { stood := { row := walRowsUptoRow, standIns := [], harness := (true, "7a66b46c5757f71dc6e8d9248e53bad17ec64602caa192e5d427e2ad3a3eae05"), looks := false }, kinds := [], alts := [], laidByText := true, laidKinds := [.sentinel, .sentinel, .sentinel, .sentinel, .sentinel, .sentinel, .sentinel], laidTests := true, laidLooks := .later }
def WalRowsUptoCardSaid : Prop := Claim7.holds Tryd.pinned (.plain (OpenSpec.upto walRowsSpec)) walRowsUptoCard

/-- THE SECOND FORM's CARD OF 'almonerlaw06.WalEpochs'. -/
def walEpochsUptoCard : Claim7 := { stood := { row := walEpochsUptoRow, standIns := [], harness := (true, "7a66b46c5757f71dc6e8d9248e53bad17ec64602caa192e5d427e2ad3a3eae05"), looks := false }, kinds := [], alts := [], laidByText := true, laidKinds := [.sentinel, .sentinel, .sentinel, .sentinel, .sentinel, .sentinel, .sentinel], laidTests := true, laidLooks := .later }
def WalEpochsUptoCardSaid : Prop := Claim7.holds Tryd.pinned (.plain (OpenSpec.upto walEpochsSpec)) walEpochsUptoCard
end Rows
end Go.Proofs.YtcbimclgodkflaaDoor

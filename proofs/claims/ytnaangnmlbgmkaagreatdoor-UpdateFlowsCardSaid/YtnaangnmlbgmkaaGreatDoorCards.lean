/-
  DERIVED. GIVEN WITH THE SEED: THE CARDS: each row of YtnaangnmlbgmkaaGreatDoorRows.lean that lists a variable, with what it lists TIED to the program's text (the seventh form; the later family's looks); each row that meets fmt, with fmt's text TOLD by the authors' own Lean function (tested against real Go, not proved from fmt's source: count such statements apart). THE CARD IS WHAT COUNTS. Prove the row's statement (the work); the ties are given (YtnaangnmlbgmkaaGreatDoorTie.lean); close each card by the builder's one call (the guide's Derived/Test/ToyasCard.lean, 'card_holds'). Laid BY PROGRAM, IN A SANDBOX (cutbox-door.mjs). By AI agents, Wed Nov 11 2026. No macro, syntax, notation, axiom, sorry.
-/
import Derived.Test.YtnaangnmlbgmkaaGreatDoorRows
import GoSem.ClaimSeven
namespace Go.Proofs.YtnaangnmlbgmkaaGreatDoor
namespace Rows

/-- THE TIED CARD OF 'speculumlaw05.UpdatePuts'. -/
def updatePutsCard : Claim7 := { stood := { row := updatePutsRow, standIns := [], harness := (true, "d8c7af8a2cdd48446be7527928572d62f2837416d433b726185c5c2ac52894d4"), looks := false }, kinds := [], alts := [], laidByText := true, laidKinds := [.data], laidTests := true, laidLooks := .later }
def UpdatePutsCardSaid : Prop := Claim7.holds Tryz.pinned (.plain (OpenSpec.ofChange updatePutsSpec)) updatePutsCard

/-- THE TIED CARD OF 'speculumlaw05.UpdateBack'. -/
def updateBackCard : Claim7 := { stood := { row := updateBackRow, standIns := [], harness := (true, "d8c7af8a2cdd48446be7527928572d62f2837416d433b726185c5c2ac52894d4"), looks := false }, kinds := [], alts := [], laidByText := true, laidKinds := [.data], laidTests := true, laidLooks := .later }
def UpdateBackCardSaid : Prop := Claim7.holds Tryz.pinned (.plain (OpenSpec.ofChange updateBackSpec)) updateBackCard

/-- THE TIED CARD OF 'speculumlaw05.UpdateFlows'. -/
def updateFlowsCard : Claim7 := { stood := { row := updateFlowsRow, standIns := [], harness := (true, "d8c7af8a2cdd48446be7527928572d62f2837416d433b726185c5c2ac52894d4"), looks := false }, kinds := [], alts := [], laidByText := true, laidKinds := [.data], laidTests := true, laidLooks := .later }
def UpdateFlowsCardSaid : Prop := Claim7.holds Tryz.pinned (.plain (OpenSpec.ofChange updateFlowsSpec)) updateFlowsCard

/-- THE SECOND FORM's CARD OF 'speculumlaw05.UpdatePuts'. -/
def updatePutsUptoCard : Claim7 := { stood := { row := updatePutsUptoRow, standIns := [], harness := (true, "d8c7af8a2cdd48446be7527928572d62f2837416d433b726185c5c2ac52894d4"), looks := false }, kinds := [], alts := [], laidByText := true, laidKinds := [.data], laidTests := true, laidLooks := .later }
def UpdatePutsUptoCardSaid : Prop := Claim7.holds Tryz.pinned (.plain (OpenSpec.upto updatePutsSpec)) updatePutsUptoCard

/-- THE SECOND FORM's CARD OF 'speculumlaw05.UpdateBack'. -/
def updateBackUptoCard : Claim7 := { stood := { row := updateBackUptoRow, standIns := [], harness := (true, "d8c7af8a2cdd48446be7527928572d62f2837416d433b726185c5c2ac52894d4"), looks := false }, kinds := [], alts := [], laidByText := true, laidKinds := [.data], laidTests := true, laidLooks := .later }
def UpdateBackUptoCardSaid : Prop := Claim7.holds Tryz.pinned (.plain (OpenSpec.upto updateBackSpec)) updateBackUptoCard

/-- THE SECOND FORM's CARD OF 'speculumlaw05.UpdateFlows'. -/
def updateFlowsUptoCard : Claim7 := { stood := { row := updateFlowsUptoRow, standIns := [], harness := (true, "d8c7af8a2cdd48446be7527928572d62f2837416d433b726185c5c2ac52894d4"), looks := false }, kinds := [], alts := [], laidByText := true, laidKinds := [.data], laidTests := true, laidLooks := .later }
def UpdateFlowsUptoCardSaid : Prop := Claim7.holds Tryz.pinned (.plain (OpenSpec.upto updateFlowsSpec)) updateFlowsUptoCard
end Rows
end Go.Proofs.YtnaangnmlbgmkaaGreatDoor

/-
  DERIVED. GIVEN WITH THE SEED: THE CARDS: each row of YthjnbjhdepfclaaDoorRows.lean that lists a variable, with what it lists TIED to the program's text (the seventh form; the later family's looks); each row that meets fmt, with fmt's text TOLD by the authors' own Lean function (tested against real Go, not proved from fmt's source: count such statements apart). THE CARD IS WHAT COUNTS. Prove the row's statement (the work); the ties are given (YthjnbjhdepfclaaDoorTie.lean); close each card by the builder's one call (the guide's Derived/Test/ToyasCard.lean, 'card_holds'). Laid BY PROGRAM, IN A SANDBOX (cutbox-door.mjs). By AI agents, Wed Nov 11 2026. No macro, syntax, notation, axiom, sorry.
-/
import Derived.Test.YthjnbjhdepfclaaDoorRows
import GoSem.ClaimSeven
namespace Go.Proofs.YthjnbjhdepfclaaDoor
namespace Rows

/-- THE TIED CARD OF 'speculumlaw21.FsmSteps'. -/
def fsmStepsCard : Claim7 := { stood := { row := fsmStepsRow, standIns := [], harness := (true, "176603d5b8d743b2adbb7580603cd631b999f6a6c38e532a9a22fb7b250b35cf"), looks := false }, kinds := [], alts := [], laidByText := true, laidKinds := [.data, .data], laidTests := true, laidLooks := .later }
def FsmStepsCardSaid : Prop := Claim7.holds Tryd.pinned (.plain (OpenSpec.ofChange fsmStepsSpec)) fsmStepsCard

/-- THE TIED CARD OF 'speculumlaw21.FsmFaults'. -/
def fsmFaultsCard : Claim7 := { stood := { row := fsmFaultsRow, standIns := [], harness := (true, "176603d5b8d743b2adbb7580603cd631b999f6a6c38e532a9a22fb7b250b35cf"), looks := false }, kinds := [], alts := [], laidByText := true, laidKinds := [.data, .data], laidTests := true, laidLooks := .later }
def FsmFaultsCardSaid : Prop := Claim7.holds Tryd.pinned (.plain (OpenSpec.ofChange fsmFaultsSpec)) fsmFaultsCard

/-- THE TIED CARD OF 'speculumlaw21.FsmLegal'. -/
def fsmLegalCard : Claim7 := { stood := { row := fsmLegalRow, standIns := [], harness := (true, "176603d5b8d743b2adbb7580603cd631b999f6a6c38e532a9a22fb7b250b35cf"), looks := false }, kinds := [], alts := [], laidByText := true, laidKinds := [.data, .data], laidTests := true, laidLooks := .later }
def FsmLegalCardSaid : Prop := Claim7.holds Tryd.pinned (.plain (OpenSpec.ofChange fsmLegalSpec)) fsmLegalCard

/-- THE TIED CARD OF 'speculumlaw21.FsmFalls'. -/
def fsmFallsCard : Claim7 := { stood := { row := fsmFallsRow, standIns := [], harness := (true, "176603d5b8d743b2adbb7580603cd631b999f6a6c38e532a9a22fb7b250b35cf"), looks := false }, kinds := [], alts := [], laidByText := true, laidKinds := [.data, .data], laidTests := true, laidLooks := .later }
def FsmFallsCardSaid : Prop := Claim7.holds Tryd.pinned (.plain (OpenSpec.ofChange fsmFallsSpec)) fsmFallsCard

/-- THE SECOND FORM's CARD OF 'speculumlaw21.FsmSteps'. -/
def fsmStepsUptoCard : Claim7 := { stood := { row := fsmStepsUptoRow, standIns := [], harness := (true, "176603d5b8d743b2adbb7580603cd631b999f6a6c38e532a9a22fb7b250b35cf"), looks := false }, kinds := [], alts := [], laidByText := true, laidKinds := [.data, .data], laidTests := true, laidLooks := .later }
def FsmStepsUptoCardSaid : Prop := Claim7.holds Tryd.pinned (.plain (OpenSpec.upto fsmStepsSpec)) fsmStepsUptoCard

/-- THE SECOND FORM's CARD OF 'speculumlaw21.FsmFaults'. -/
def fsmFaultsUptoCard : Claim7 := { stood := { row := fsmFaultsUptoRow, standIns := [], harness := (true, "176603d5b8d743b2adbb7580603cd631b999f6a6c38e532a9a22fb7b250b35cf"), looks := false }, kinds := [], alts := [], laidByText := true, laidKinds := [.data, .data], laidTests := true, laidLooks := .later }
def FsmFaultsUptoCardSaid : Prop := Claim7.holds Tryd.pinned (.plain (OpenSpec.upto fsmFaultsSpec)) fsmFaultsUptoCard

/-- THE SECOND FORM's CARD OF 'speculumlaw21.FsmLegal'. -/
def fsmLegalUptoCard : Claim7 := { stood := { row := fsmLegalUptoRow, standIns := [], harness := (true, "176603d5b8d743b2adbb7580603cd631b999f6a6c38e532a9a22fb7b250b35cf"), looks := false }, kinds := [], alts := [], laidByText := true, laidKinds := [.data, .data], laidTests := true, laidLooks := .later }
def FsmLegalUptoCardSaid : Prop := Claim7.holds Tryd.pinned (.plain (OpenSpec.upto fsmLegalSpec)) fsmLegalUptoCard

/-- THE SECOND FORM's CARD OF 'speculumlaw21.FsmFalls'. -/
def fsmFallsUptoCard : Claim7 := { stood := { row := fsmFallsUptoRow, standIns := [], harness := (true, "176603d5b8d743b2adbb7580603cd631b999f6a6c38e532a9a22fb7b250b35cf"), looks := false }, kinds := [], alts := [], laidByText := true, laidKinds := [.data, .data], laidTests := true, laidLooks := .later }
def FsmFallsUptoCardSaid : Prop := Claim7.holds Tryd.pinned (.plain (OpenSpec.upto fsmFallsSpec)) fsmFallsUptoCard
end Rows
end Go.Proofs.YthjnbjhdepfclaaDoor

/-
  DERIVED. GIVEN WITH THE SEED: THE CARDS: each row of YtlgfollajodpaaaDoorRows.lean that lists a variable, with what it lists TIED to the program's text (the seventh form; the later family's looks); each row that meets fmt, with fmt's text TOLD by the authors' own Lean function (tested against real Go, not proved from fmt's source: count such statements apart). THE CARD IS WHAT COUNTS. Prove the row's statement (the work); the ties are given (YtlgfollajodpaaaDoorTie.lean); close each card by the builder's one call (the guide's Derived/Test/ToyasCard.lean, 'card_holds'). Laid BY PROGRAM, IN A SANDBOX (cutbox-door.mjs). By AI agents, Wed Nov 11 2026. No macro, syntax, notation, axiom, sorry.
-/
import Derived.Test.YtlgfollajodpaaaDoorRows
import GoSem.ClaimSeven
namespace Go.Proofs.YtlgfollajodpaaaDoor
namespace Rows

/-- THE TIED CARD OF 'speculumlaw03.AspathPrepends'. -/
def aspathPrependsCard : Claim7 := { stood := { row := aspathPrependsRow, standIns := [], harness := (true, "0a4efb9476f1447f0e14f1d2bef4f6eb042ed10d9fc2e94b9d389a4ac83dfa23"), looks := false }, kinds := [], alts := [], laidByText := true, laidKinds := [.data], laidTests := true, laidLooks := .later }
def AspathPrependsCardSaid : Prop := Claim7.holds Tryd.pinned (.plain (OpenSpec.ofChange aspathPrependsSpec)) aspathPrependsCard

/-- THE SECOND FORM's CARD OF 'speculumlaw03.AspathPrepends'. -/
def aspathPrependsUptoCard : Claim7 := { stood := { row := aspathPrependsUptoRow, standIns := [], harness := (true, "0a4efb9476f1447f0e14f1d2bef4f6eb042ed10d9fc2e94b9d389a4ac83dfa23"), looks := false }, kinds := [], alts := [], laidByText := true, laidKinds := [.data], laidTests := true, laidLooks := .later }
def AspathPrependsUptoCardSaid : Prop := Claim7.holds Tryd.pinned (.plain (OpenSpec.upto aspathPrependsSpec)) aspathPrependsUptoCard
end Rows
end Go.Proofs.YtlgfollajodpaaaDoor

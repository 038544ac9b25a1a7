/-
  DERIVED. GIVEN WITH THE SEED: THE CARDS: each row of YtjhmkapafhgofaaDoorRows.lean that lists a variable, with what it lists TIED to the program's text (the seventh form; the later family's looks); each row that meets fmt, with fmt's text TOLD by the authors' own Lean function (tested against real Go, not proved from fmt's source: count such statements apart). THE CARD IS WHAT COUNTS. Prove the row's statement (the work); the ties are given (YtjhmkapafhgofaaDoorTie.lean); close each card by the builder's one call (the guide's Derived/Test/ToyasCard.lean, 'card_holds'). Laid BY PROGRAM, IN A SANDBOX (cutbox-door.mjs). By AI agents, Wed Nov 11 2026. No macro, syntax, notation, axiom, sorry.
-/
import Derived.Test.YtjhmkapafhgofaaDoorRows
import GoSem.ClaimSeven
namespace Go.Proofs.YtjhmkapafhgofaaDoor
namespace Rows

/-- THE TIED CARD OF 'speculumlaw07.FramePuts'. -/
def framePutsCard : Claim7 := { stood := { row := framePutsRow, standIns := [], harness := (true, "744dab74cc8d4eb5dfdcecad04b38e360b378bebbc34956c9d0d5b1ea55bc804"), looks := false }, kinds := [], alts := [], laidByText := true, laidKinds := [.data], laidTests := true, laidLooks := .later }
def FramePutsCardSaid : Prop := Claim7.holds Tryd.pinned (.plain (OpenSpec.ofChange framePutsSpec)) framePutsCard

/-- THE TIED CARD OF 'speculumlaw07.FrameNext'. -/
def frameNextCard : Claim7 := { stood := { row := frameNextRow, standIns := [], harness := (true, "744dab74cc8d4eb5dfdcecad04b38e360b378bebbc34956c9d0d5b1ea55bc804"), looks := false }, kinds := [], alts := [], laidByText := true, laidKinds := [.data], laidTests := true, laidLooks := .later }
def FrameNextCardSaid : Prop := Claim7.holds Tryd.pinned (.plain (OpenSpec.ofChange frameNextSpec)) frameNextCard

/-- THE TIED CARD OF 'speculumlaw07.FrameStreams'. -/
def frameStreamsCard : Claim7 := { stood := { row := frameStreamsRow, standIns := [], harness := (true, "744dab74cc8d4eb5dfdcecad04b38e360b378bebbc34956c9d0d5b1ea55bc804"), looks := false }, kinds := [], alts := [], laidByText := true, laidKinds := [.data], laidTests := true, laidLooks := .later }
def FrameStreamsCardSaid : Prop := Claim7.holds Tryd.pinned (.plain (OpenSpec.ofChange frameStreamsSpec)) frameStreamsCard

/-- THE TIED CARD OF 'speculumlaw07.FrameBack'. -/
def frameBackCard : Claim7 := { stood := { row := frameBackRow, standIns := [], harness := (true, "744dab74cc8d4eb5dfdcecad04b38e360b378bebbc34956c9d0d5b1ea55bc804"), looks := false }, kinds := [], alts := [], laidByText := true, laidKinds := [.data], laidTests := true, laidLooks := .later }
def FrameBackCardSaid : Prop := Claim7.holds Tryd.pinned (.plain (OpenSpec.ofChange frameBackSpec)) frameBackCard

/-- THE TIED CARD OF 'speculumlaw07.FrameNobody'. -/
def frameNobodyCard : Claim7 := { stood := { row := frameNobodyRow, standIns := [], harness := (true, "744dab74cc8d4eb5dfdcecad04b38e360b378bebbc34956c9d0d5b1ea55bc804"), looks := false }, kinds := [], alts := [], laidByText := true, laidKinds := [.data], laidTests := true, laidLooks := .later }
def FrameNobodyCardSaid : Prop := Claim7.holds Tryd.pinned (.plain (OpenSpec.ofChange frameNobodySpec)) frameNobodyCard

/-- THE SECOND FORM's CARD OF 'speculumlaw07.FramePuts'. -/
def framePutsUptoCard : Claim7 := { stood := { row := framePutsUptoRow, standIns := [], harness := (true, "744dab74cc8d4eb5dfdcecad04b38e360b378bebbc34956c9d0d5b1ea55bc804"), looks := false }, kinds := [], alts := [], laidByText := true, laidKinds := [.data], laidTests := true, laidLooks := .later }
def FramePutsUptoCardSaid : Prop := Claim7.holds Tryd.pinned (.plain (OpenSpec.upto framePutsSpec)) framePutsUptoCard

/-- THE SECOND FORM's CARD OF 'speculumlaw07.FrameNext'. -/
def frameNextUptoCard : Claim7 := { stood := { row := frameNextUptoRow, standIns := [], harness := (true, "744dab74cc8d4eb5dfdcecad04b38e360b378bebbc34956c9d0d5b1ea55bc804"), looks := false }, kinds := [], alts := [], laidByText := true, laidKinds := [.data], laidTests := true, laidLooks := .later }
def FrameNextUptoCardSaid : Prop := Claim7.holds Tryd.pinned (.plain (OpenSpec.upto frameNextSpec)) frameNextUptoCard

/-- THE SECOND FORM's CARD OF 'speculumlaw07.FrameStreams'. -/
def frameStreamsUptoCard : Claim7 := { stood := { row := frameStreamsUptoRow, standIns := [], harness := (true, "744dab74cc8d4eb5dfdcecad04b38e360b378bebbc34956c9d0d5b1ea55bc804"), looks := false }, kinds := [], alts := [], laidByText := true, laidKinds := [.data], laidTests := true, laidLooks := .later }
def FrameStreamsUptoCardSaid : Prop := Claim7.holds Tryd.pinned (.plain (OpenSpec.upto frameStreamsSpec)) frameStreamsUptoCard

/-- THE SECOND FORM's CARD OF 'speculumlaw07.FrameBack'. -/
def frameBackUptoCard : Claim7 := { stood := { row := frameBackUptoRow, standIns := [], harness := (true, "744dab74cc8d4eb5dfdcecad04b38e360b378bebbc34956c9d0d5b1ea55bc804"), looks := false }, kinds := [], alts := [], laidByText := true, laidKinds := [.data], laidTests := true, laidLooks := .later }
def FrameBackUptoCardSaid : Prop := Claim7.holds Tryd.pinned (.plain (OpenSpec.upto frameBackSpec)) frameBackUptoCard

/-- THE SECOND FORM's CARD OF 'speculumlaw07.FrameNobody'. -/
def frameNobodyUptoCard : Claim7 := { stood := { row := frameNobodyUptoRow, standIns := [], harness := (true, "744dab74cc8d4eb5dfdcecad04b38e360b378bebbc34956c9d0d5b1ea55bc804"), looks := false }, kinds := [], alts := [], laidByText := true, laidKinds := [.data], laidTests := true, laidLooks := .later }
def FrameNobodyUptoCardSaid : Prop := Claim7.holds Tryd.pinned (.plain (OpenSpec.upto frameNobodySpec)) frameNobodyUptoCard
end Rows
end Go.Proofs.YtjhmkapafhgofaaDoor

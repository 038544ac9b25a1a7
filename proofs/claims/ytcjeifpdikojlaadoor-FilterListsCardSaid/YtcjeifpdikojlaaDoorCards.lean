/-
  DERIVED. GIVEN WITH THE SEED: THE CARDS: each row of YtcjeifpdikojlaaDoorRows.lean that lists a variable, with what it lists TIED to the program's text (the seventh form; the later family's looks); each row that meets fmt, with fmt's text TOLD by the authors' own Lean function (tested against real Go, not proved from fmt's source: count such statements apart). THE CARD IS WHAT COUNTS. Prove the row's statement (the work); the ties are given (YtcjeifpdikojlaaDoorTie.lean); close each card by the builder's one call (the guide's Derived/Test/ToyasCard.lean, 'card_holds'). Laid BY PROGRAM, IN A SANDBOX (cutbox-door.mjs). By AI agents, Wed Nov 11 2026. No macro, syntax, notation, axiom, sorry.
-/
import Derived.Test.YtcjeifpdikojlaaDoorRows
import GoSem.ClaimSeven
namespace Go.Proofs.YtcjeifpdikojlaaDoor
namespace Rows

/-- THE TIED CARD OF 'speculumlaw12.FilterComms'. -/
def filterCommsCard : Claim7 := { stood := { row := filterCommsRow, standIns := [], harness := (true, "17e54cb96cd43cf25e491b24dde657ded1e629f213d2442d4984d184c0a33663"), looks := false }, kinds := [], alts := [], laidByText := true, laidKinds := [.data], laidTests := true, laidLooks := .later }
def FilterCommsCardSaid : Prop := Claim7.holds Tryd.pinned (.plain (OpenSpec.ofChange filterCommsSpec)) filterCommsCard

/-- THE TIED CARD OF 'speculumlaw12.FilterLists'. -/
def filterListsCard : Claim7 := { stood := { row := filterListsRow, standIns := [], harness := (true, "17e54cb96cd43cf25e491b24dde657ded1e629f213d2442d4984d184c0a33663"), looks := false }, kinds := [], alts := [], laidByText := true, laidKinds := [.data], laidTests := true, laidLooks := .later }
def FilterListsCardSaid : Prop := Claim7.holds Tryd.pinned (.plain (OpenSpec.ofChange filterListsSpec)) filterListsCard

/-- THE TIED CARD OF 'speculumlaw12.FilterRanges'. -/
def filterRangesCard : Claim7 := { stood := { row := filterRangesRow, standIns := [], harness := (true, "17e54cb96cd43cf25e491b24dde657ded1e629f213d2442d4984d184c0a33663"), looks := false }, kinds := [], alts := [], laidByText := true, laidKinds := [.data], laidTests := true, laidLooks := .later }
def FilterRangesCardSaid : Prop := Claim7.holds Tryd.pinned (.plain (OpenSpec.ofChange filterRangesSpec)) filterRangesCard

/-- THE TIED CARD OF 'speculumlaw12.FilterTexts'. -/
def filterTextsCard : Claim7 := { stood := { row := filterTextsRow, standIns := [], harness := (true, "17e54cb96cd43cf25e491b24dde657ded1e629f213d2442d4984d184c0a33663"), looks := false }, kinds := [], alts := [], laidByText := true, laidKinds := [.data], laidTests := true, laidLooks := .later }
def FilterTextsCardSaid : Prop := Claim7.holds Tryd.pinned (.plain (OpenSpec.ofChange filterTextsSpec)) filterTextsCard

/-- THE TIED CARD OF 'speculumlaw12.FilterWider'. -/
def filterWiderCard : Claim7 := { stood := { row := filterWiderRow, standIns := [], harness := (true, "17e54cb96cd43cf25e491b24dde657ded1e629f213d2442d4984d184c0a33663"), looks := false }, kinds := [], alts := [], laidByText := true, laidKinds := [.data], laidTests := true, laidLooks := .later }
def FilterWiderCardSaid : Prop := Claim7.holds Tryd.pinned (.plain (OpenSpec.ofChange filterWiderSpec)) filterWiderCard

/-- THE SECOND FORM's CARD OF 'speculumlaw12.FilterComms'. -/
def filterCommsUptoCard : Claim7 := { stood := { row := filterCommsUptoRow, standIns := [], harness := (true, "17e54cb96cd43cf25e491b24dde657ded1e629f213d2442d4984d184c0a33663"), looks := false }, kinds := [], alts := [], laidByText := true, laidKinds := [.data], laidTests := true, laidLooks := .later }
def FilterCommsUptoCardSaid : Prop := Claim7.holds Tryd.pinned (.plain (OpenSpec.upto filterCommsSpec)) filterCommsUptoCard

/-- THE SECOND FORM's CARD OF 'speculumlaw12.FilterLists'. -/
def filterListsUptoCard : Claim7 := { stood := { row := filterListsUptoRow, standIns := [], harness := (true, "17e54cb96cd43cf25e491b24dde657ded1e629f213d2442d4984d184c0a33663"), looks := false }, kinds := [], alts := [], laidByText := true, laidKinds := [.data], laidTests := true, laidLooks := .later }
def FilterListsUptoCardSaid : Prop := Claim7.holds Tryd.pinned (.plain (OpenSpec.upto filterListsSpec)) filterListsUptoCard

/-- THE SECOND FORM's CARD OF 'speculumlaw12.FilterRanges'. -/
def filterRangesUptoCard : Claim7 := { stood := { row := filterRangesUptoRow, standIns := [], harness := (true, "17e54cb96cd43cf25e491b24dde657ded1e629f213d2442d4984d184c0a33663"), looks := false }, kinds := [], alts := [], laidByText := true, laidKinds := [.data], laidTests := true, laidLooks := .later }
def FilterRangesUptoCardSaid : Prop := Claim7.holds Tryd.pinned (.plain (OpenSpec.upto filterRangesSpec)) filterRangesUptoCard

/-- THE SECOND FORM's CARD OF 'speculumlaw12.FilterTexts'. -/
def filterTextsUptoCard : Claim7 := { stood := { row := filterTextsUptoRow, standIns := [], harness := (true, "17e54cb96cd43cf25e491b24dde657ded1e629f213d2442d4984d184c0a33663"), looks := false }, kinds := [], alts := [], laidByText := true, laidKinds := [.data], laidTests := true, laidLooks := .later }
def FilterTextsUptoCardSaid : Prop := Claim7.holds Tryd.pinned (.plain (OpenSpec.upto filterTextsSpec)) filterTextsUptoCard

/-- THE SECOND FORM's CARD OF 'speculumlaw12.FilterWider'. -/
def filterWiderUptoCard : Claim7 := { stood := { row := filterWiderUptoRow, standIns := [], harness := (true, "17e54cb96cd43cf25e491b24dde657ded1e629f213d2442d4984d184c0a33663"), looks := false }, kinds := [], alts := [], laidByText := true, laidKinds := [.data], laidTests := true, laidLooks := .later }
def FilterWiderUptoCardSaid : Prop := Claim7.holds Tryd.pinned (.plain (OpenSpec.upto filterWiderSpec)) filterWiderUptoCard
end Rows
end Go.Proofs.YtcjeifpdikojlaaDoor

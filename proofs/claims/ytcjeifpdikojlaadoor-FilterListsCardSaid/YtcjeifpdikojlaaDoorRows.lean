/-
  NARROWER THAN 'FOR EVERY INPUT', by the rows' own cells (each row's printed sentence says how): FilterComms: laid · FilterLists: laid · FilterRanges: laid · FilterTexts: laid · FilterWider: laid.
  DERIVED. THE GIVEN ROWS OF THIS SEAT. 5 by the template 'for every input the law returns true; each argument reads behind the call as it read before'; 0 by the template 'total and deterministic' (their statements: YtcjeifpdikojlaaDoorTotals.lean).
  GIVEN WITH THE SEED: the statements are not yours to turn. If you find one false, say at which input.
  Laid BY PROGRAM, IN A SANDBOX (cutbox-rows.mjs): the forced cells as the released guide's own fill.sh prints them over the translation a3771dedb42c1a9f… (all of the seat's roots in one cut). By AI agents, Wed Nov 11 2026. No macro, syntax, notation, axiom, sorry.
-/
import Derived.Test.YtcjeifpdikojlaaDoorChecked
import GoSem.Claim
import GoSem.ClaimJoined
import GoSem.ClaimMapViews
import Derived.JoinedTies
import Derived.KernelRfl
namespace Go.Proofs.YtcjeifpdikojlaaDoor
/- THE CELL 'sum', in the pinned program and in every row, IS THE sha256 OF THE DUMP (.gsa) THAT YtcjeifpdikojlaaDoorProg.lean LOADS. Nothing in Lean hashes anything: it is a label: what it is worth is what the hold of that sum in a sandbox is worth. -/
noncomputable def Tryd.pinned : Pinned := { name := "ytcjeifpdikojlaadoor", sum := "a3771dedb42c1a9fbd993ed2ced69dc3c17e6dd01ccbe5968b5e171b32c8490a", checked := Tryd.checked }
namespace Rows
def none {H : Type} : Left H := { results := [], args := [] }

/- WHAT THE LISTED PACKAGE-LEVEL VARIABLES READ AS WHEN THE CALL BEGINS. Each datum BY PROGRAM (the guide's laid-datum.mjs) off the statement by which the dump's own 'gosem.cut.vars' lays the variable. In a bare row this is a premise. The card (YtcjeifpdikojlaaDoorCards.lean) ties it to the program's text. -/
def laid_speculum_octet_digits {H : Type} : DataW H := .agg [.lit (.int .u8 48), .lit (.int .u8 49), .lit (.int .u8 50), .lit (.int .u8 51), .lit (.int .u8 52), .lit (.int .u8 53), .lit (.int .u8 54), .lit (.int .u8 55), .lit (.int .u8 56), .lit (.int .u8 57), .lit (.int .u8 97), .lit (.int .u8 98), .lit (.int .u8 99), .lit (.int .u8 100), .lit (.int .u8 101), .lit (.int .u8 102)]

/-- 'speculumlaw12.FilterComms': WHATEVER THE INPUT: true; the input reads as it did. -/
def filterCommsSpec : ChangeSpec := { name := "filterComms", fn := fun _ => fun
  | [d1, d2] => { results := [.lit (.bool true)], args := [d1, d2] }
  | _ => none }
def filterCommsRow : OpenClaim := { program := "ytcjeifpdikojlaadoor", sum := "a3771dedb42c1a9fbd993ed2ced69dc3c17e6dd01ccbe5968b5e171b32c8490a", func := "speculum/speculumlaw12.FilterComms", spec := "filterComms", named := ["speculum/octet.digits"], apart := false, laid := [("speculum/octet.digits", laid_speculum_octet_digits)] }
def FilterCommsSaid : Prop := filterCommsRow.holds Tryd.pinned (OpenSpec.ofChange filterCommsSpec)

/-- ITS FALSE NEIGHBOUR: 'it returns false'. Refute it at one input. -/
def filterCommsWrong : ChangeSpec := { name := "filterComms", fn := fun _ => fun
  | [d1, d2] => { results := [.lit (.bool false)], args := [d1, d2] }
  | _ => none }
def FilterCommsWrongFalsely : Prop := filterCommsRow.holds Tryd.pinned (OpenSpec.ofChange filterCommsWrong)

/-- 'speculumlaw12.FilterLists': WHATEVER THE INPUT: true; the input reads as it did. -/
def filterListsSpec : ChangeSpec := { name := "filterLists", fn := fun _ => fun
  | [d1, d2, d3] => { results := [.lit (.bool true)], args := [d1, d2, d3] }
  | _ => none }
def filterListsRow : OpenClaim := { program := "ytcjeifpdikojlaadoor", sum := "a3771dedb42c1a9fbd993ed2ced69dc3c17e6dd01ccbe5968b5e171b32c8490a", func := "speculum/speculumlaw12.FilterLists", spec := "filterLists", unfollowed := true, recurses := true, named := ["speculum/octet.digits"], apart := false, laid := [("speculum/octet.digits", laid_speculum_octet_digits)] }
def FilterListsSaid : Prop := filterListsRow.holds Tryd.pinned (OpenSpec.ofChange filterListsSpec)

/-- ITS FALSE NEIGHBOUR: 'it returns false'. Refute it at one input. -/
def filterListsWrong : ChangeSpec := { name := "filterLists", fn := fun _ => fun
  | [d1, d2, d3] => { results := [.lit (.bool false)], args := [d1, d2, d3] }
  | _ => none }
def FilterListsWrongFalsely : Prop := filterListsRow.holds Tryd.pinned (OpenSpec.ofChange filterListsWrong)

/-- 'speculumlaw12.FilterRanges': WHATEVER THE INPUT: true; the input reads as it did. -/
def filterRangesSpec : ChangeSpec := { name := "filterRanges", fn := fun _ => fun
  | [d1, d2, d3] => { results := [.lit (.bool true)], args := [d1, d2, d3] }
  | _ => none }
def filterRangesRow : OpenClaim := { program := "ytcjeifpdikojlaadoor", sum := "a3771dedb42c1a9fbd993ed2ced69dc3c17e6dd01ccbe5968b5e171b32c8490a", func := "speculum/speculumlaw12.FilterRanges", spec := "filterRanges", unfollowed := true, recurses := true, named := ["speculum/octet.digits"], apart := false, laid := [("speculum/octet.digits", laid_speculum_octet_digits)] }
def FilterRangesSaid : Prop := filterRangesRow.holds Tryd.pinned (OpenSpec.ofChange filterRangesSpec)

/-- ITS FALSE NEIGHBOUR: 'it returns false'. Refute it at one input. -/
def filterRangesWrong : ChangeSpec := { name := "filterRanges", fn := fun _ => fun
  | [d1, d2, d3] => { results := [.lit (.bool false)], args := [d1, d2, d3] }
  | _ => none }
def FilterRangesWrongFalsely : Prop := filterRangesRow.holds Tryd.pinned (OpenSpec.ofChange filterRangesWrong)

/-- 'speculumlaw12.FilterTexts': WHATEVER THE INPUT: true; the input reads as it did. -/
def filterTextsSpec : ChangeSpec := { name := "filterTexts", fn := fun _ => fun
  | [d1, d2] => { results := [.lit (.bool true)], args := [d1, d2] }
  | _ => none }
def filterTextsRow : OpenClaim := { program := "ytcjeifpdikojlaadoor", sum := "a3771dedb42c1a9fbd993ed2ced69dc3c17e6dd01ccbe5968b5e171b32c8490a", func := "speculum/speculumlaw12.FilterTexts", spec := "filterTexts", named := ["speculum/octet.digits"], apart := false, laid := [("speculum/octet.digits", laid_speculum_octet_digits)] }
def FilterTextsSaid : Prop := filterTextsRow.holds Tryd.pinned (OpenSpec.ofChange filterTextsSpec)

/-- ITS FALSE NEIGHBOUR: 'it returns false'. Refute it at one input. -/
def filterTextsWrong : ChangeSpec := { name := "filterTexts", fn := fun _ => fun
  | [d1, d2] => { results := [.lit (.bool false)], args := [d1, d2] }
  | _ => none }
def FilterTextsWrongFalsely : Prop := filterTextsRow.holds Tryd.pinned (OpenSpec.ofChange filterTextsWrong)

/-- 'speculumlaw12.FilterWider': WHATEVER THE INPUT: true; the input reads as it did. -/
def filterWiderSpec : ChangeSpec := { name := "filterWider", fn := fun _ => fun
  | [d1, d2, d3] => { results := [.lit (.bool true)], args := [d1, d2, d3] }
  | _ => none }
def filterWiderRow : OpenClaim := { program := "ytcjeifpdikojlaadoor", sum := "a3771dedb42c1a9fbd993ed2ced69dc3c17e6dd01ccbe5968b5e171b32c8490a", func := "speculum/speculumlaw12.FilterWider", spec := "filterWider", named := ["speculum/octet.digits"], apart := false, laid := [("speculum/octet.digits", laid_speculum_octet_digits)] }
def FilterWiderSaid : Prop := filterWiderRow.holds Tryd.pinned (OpenSpec.ofChange filterWiderSpec)

/-- ITS FALSE NEIGHBOUR: 'it returns false'. Refute it at one input. -/
def filterWiderWrong : ChangeSpec := { name := "filterWider", fn := fun _ => fun
  | [d1, d2, d3] => { results := [.lit (.bool false)], args := [d1, d2, d3] }
  | _ => none }
def FilterWiderWrongFalsely : Prop := filterWiderRow.holds Tryd.pinned (OpenSpec.ofChange filterWiderWrong)

/- THE SECOND FORM. 'bulk': how many values and letters a reading holds, each counted each time it is reached (what is shared counts as often as it is met; a slice's spare places count too). A statement '..UptoSaid' is the law's where the arguments, and the package variables that the reading takes, are together of bulk at most 1048576: NARROWER than '..Said'. Prove '..Said' where nothing that the law and all that it calls make is longer than what came in: it says more and counts as full. Else prove '..UptoSaid'. A law counts once. -/
mutual
def uptoBulk {H : Type} : DataW H → Nat
  | .lit (.string bytes) => bytes.length + 1
  | .lit _ => 1
  | .nil => 1
  | .ptr d => uptoBulk d + 1
  | .slice elems spare => uptoBulkAll elems + uptoBulkAll spare + 1
  | .agg parts => uptoBulkAll parts + 1
  | .iface _ d => uptoBulk d + 1
  | .map entries => uptoBulkEntries entries + 1
  | .held _ => 1
def uptoBulkAll {H : Type} : List (DataW H) → Nat
  | [] => 0
  | d :: r => uptoBulk d + uptoBulkAll r
def uptoBulkEntries {H : Type} : List (Lit × DataW H) → Nat
  | [] => 0
  | x :: r => uptoBulkEntry x + uptoBulkEntries r
def uptoBulkEntry {H : Type} : Lit × DataW H → Nat
  | (.string bytes, d) => bytes.length + uptoBulk d + 1
  | (_, d) => uptoBulk d + 1
 end
def uptoSmall : (H : Type) → List (DataW H) → Bool := fun _ ds => decide (uptoBulkAll ds ≤ 1048576)
def OpenSpec.upto (s : _root_.Go.ChangeSpec) : _root_.Go.OpenSpec := { _root_.Go.OpenSpec.ofChange s with cond := some uptoSmall }

/-- 'speculumlaw12.FilterComms', WHERE WHAT IT READS IS OF BULK AT MOST 1048576: true; the input reads as it did. -/
def filterCommsUptoRow : OpenClaim := { program := "ytcjeifpdikojlaadoor", sum := "a3771dedb42c1a9fbd993ed2ced69dc3c17e6dd01ccbe5968b5e171b32c8490a", func := "speculum/speculumlaw12.FilterComms", spec := "filterComms", named := ["speculum/octet.digits"], apart := false, laid := [("speculum/octet.digits", laid_speculum_octet_digits)], narrowed := true }
def FilterCommsUptoSaid : Prop := filterCommsUptoRow.holds Tryd.pinned (OpenSpec.upto filterCommsSpec)

/-- 'speculumlaw12.FilterLists', WHERE WHAT IT READS IS OF BULK AT MOST 1048576: true; the input reads as it did. -/
def filterListsUptoRow : OpenClaim := { program := "ytcjeifpdikojlaadoor", sum := "a3771dedb42c1a9fbd993ed2ced69dc3c17e6dd01ccbe5968b5e171b32c8490a", func := "speculum/speculumlaw12.FilterLists", spec := "filterLists", unfollowed := true, recurses := true, named := ["speculum/octet.digits"], apart := false, laid := [("speculum/octet.digits", laid_speculum_octet_digits)], narrowed := true }
def FilterListsUptoSaid : Prop := filterListsUptoRow.holds Tryd.pinned (OpenSpec.upto filterListsSpec)

/-- 'speculumlaw12.FilterRanges', WHERE WHAT IT READS IS OF BULK AT MOST 1048576: true; the input reads as it did. -/
def filterRangesUptoRow : OpenClaim := { program := "ytcjeifpdikojlaadoor", sum := "a3771dedb42c1a9fbd993ed2ced69dc3c17e6dd01ccbe5968b5e171b32c8490a", func := "speculum/speculumlaw12.FilterRanges", spec := "filterRanges", unfollowed := true, recurses := true, named := ["speculum/octet.digits"], apart := false, laid := [("speculum/octet.digits", laid_speculum_octet_digits)], narrowed := true }
def FilterRangesUptoSaid : Prop := filterRangesUptoRow.holds Tryd.pinned (OpenSpec.upto filterRangesSpec)

/-- 'speculumlaw12.FilterTexts', WHERE WHAT IT READS IS OF BULK AT MOST 1048576: true; the input reads as it did. -/
def filterTextsUptoRow : OpenClaim := { program := "ytcjeifpdikojlaadoor", sum := "a3771dedb42c1a9fbd993ed2ced69dc3c17e6dd01ccbe5968b5e171b32c8490a", func := "speculum/speculumlaw12.FilterTexts", spec := "filterTexts", named := ["speculum/octet.digits"], apart := false, laid := [("speculum/octet.digits", laid_speculum_octet_digits)], narrowed := true }
def FilterTextsUptoSaid : Prop := filterTextsUptoRow.holds Tryd.pinned (OpenSpec.upto filterTextsSpec)

/-- 'speculumlaw12.FilterWider', WHERE WHAT IT READS IS OF BULK AT MOST 1048576: true; the input reads as it did. -/
def filterWiderUptoRow : OpenClaim := { program := "ytcjeifpdikojlaadoor", sum := "a3771dedb42c1a9fbd993ed2ced69dc3c17e6dd01ccbe5968b5e171b32c8490a", func := "speculum/speculumlaw12.FilterWider", spec := "filterWider", named := ["speculum/octet.digits"], apart := false, laid := [("speculum/octet.digits", laid_speculum_octet_digits)], narrowed := true }
def FilterWiderUptoSaid : Prop := filterWiderUptoRow.holds Tryd.pinned (OpenSpec.upto filterWiderSpec)

end Rows
end Go.Proofs.YtcjeifpdikojlaaDoor

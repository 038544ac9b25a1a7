/-
  NARROWER THAN 'FOR EVERY INPUT', by the rows' own cells (each row's printed sentence says how): UpdatePuts: laid · UpdateBack: laid · UpdateFlows: laid.
  DERIVED. THE GIVEN ROWS OF THIS SEAT. 3 by the template 'for every input the law returns true; each argument reads behind the call as it read before'; 0 by the template 'total and deterministic' (their statements: YtnaangnmlbgmkaaGreatDoorTotals.lean).
  GIVEN WITH THE SEED: the statements are not yours to turn. If you find one false, say at which input.
  Laid BY PROGRAM, IN A SANDBOX (cutbox-rows.mjs): the forced cells as the released guide's own fill.sh prints them over the translation b938fa6764c34da2… (all of the seat's roots in one cut). By AI agents, Wed Nov 11 2026. No macro, syntax, notation, axiom, sorry.
-/
import Derived.Test.YtnaangnmlbgmkaaGreatDoorChecked
import GoSem.Claim
import GoSem.ClaimJoined
import GoSem.ClaimMapViews
import Derived.JoinedTies
import Derived.KernelRfl
namespace Go.Proofs.YtnaangnmlbgmkaaGreatDoor
/- THE CELL 'sum', in the pinned program and in every row, IS THE sha256 OF THE DUMP (.gsa) THAT YtnaangnmlbgmkaaGreatDoorProg.lean LOADS. Nothing in Lean hashes anything: it is a label: what it is worth is what the hold of that sum in a sandbox is worth. -/
noncomputable def Tryz.pinned : Pinned := { name := "ytnaangnmlbgmkaagreatdoor", sum := "b938fa6764c34da295fb4517ce2a4f564579e4a8b7fa7e4f02f4fc809a26ab4f", checked := Tryz.checked }
namespace Rows
def none {H : Type} : Left H := { results := [], args := [] }

/- WHAT THE LISTED PACKAGE-LEVEL VARIABLES READ AS WHEN THE CALL BEGINS. Each datum BY PROGRAM (the guide's laid-datum.mjs) off the statement by which the dump's own 'gosem.cut.vars' lays the variable. In a bare row this is a premise. The card (YtnaangnmlbgmkaaGreatDoorCards.lean) ties it to the program's text. -/
def laid_speculum_attrs_looks {H : Type} : DataW H := .agg [.agg [.lit (.int .i64 1), .lit (.int .i64 64), .lit (.int .i64 1), .lit (.int .i64 1), .lit (.int .i64 0)], .agg [.lit (.int .i64 2), .lit (.int .i64 64), .lit (.int .i64 0), .lit (.int .i64 0), .lit (.int .i64 1)], .agg [.lit (.int .i64 3), .lit (.int .i64 64), .lit (.int .i64 4), .lit (.int .i64 4), .lit (.int .i64 0)], .agg [.lit (.int .i64 4), .lit (.int .i64 128), .lit (.int .i64 4), .lit (.int .i64 4), .lit (.int .i64 0)], .agg [.lit (.int .i64 5), .lit (.int .i64 64), .lit (.int .i64 4), .lit (.int .i64 4), .lit (.int .i64 0)], .agg [.lit (.int .i64 6), .lit (.int .i64 64), .lit (.int .i64 0), .lit (.int .i64 0), .lit (.int .i64 0)], .agg [.lit (.int .i64 7), .lit (.int .i64 192), .lit (.int .i64 6), .lit (.int .i64 8), .lit (.int .i64 0)], .agg [.lit (.int .i64 8), .lit (.int .i64 192), .lit (.int .i64 0), .lit (.int .i64 0), .lit (.int .i64 4)], .agg [.lit (.int .i64 17), .lit (.int .i64 192), .lit (.int .i64 0), .lit (.int .i64 0), .lit (.int .i64 1)], .agg [.lit (.int .i64 18), .lit (.int .i64 192), .lit (.int .i64 0), .lit (.int .i64 0), .lit (.int .i64 1)]]

/-- 'speculumlaw05.UpdatePuts': WHATEVER THE INPUT: true; the input reads as it did. -/
def updatePutsSpec : ChangeSpec := { name := "updatePuts", fn := fun _ => fun
  | [d1, d2] => { results := [.lit (.bool true)], args := [d1, d2] }
  | _ => none }
def updatePutsRow : OpenClaim := { program := "ytnaangnmlbgmkaagreatdoor", sum := "b938fa6764c34da295fb4517ce2a4f564579e4a8b7fa7e4f02f4fc809a26ab4f", func := "speculum/speculumlaw05.UpdatePuts", spec := "updatePuts", inPlace := ["slices.overlaps[speculum/api.Raw]"], unfollowed := true, recurses := true, named := ["speculum/attrs.looks"], apart := false, laid := [("speculum/attrs.looks", laid_speculum_attrs_looks)] }
def UpdatePutsSaid : Prop := updatePutsRow.holds Tryz.pinned (OpenSpec.ofChange updatePutsSpec)

/-- ITS FALSE NEIGHBOUR: 'it returns false'. Refute it at one input. -/
def updatePutsWrong : ChangeSpec := { name := "updatePuts", fn := fun _ => fun
  | [d1, d2] => { results := [.lit (.bool false)], args := [d1, d2] }
  | _ => none }
def UpdatePutsWrongFalsely : Prop := updatePutsRow.holds Tryz.pinned (OpenSpec.ofChange updatePutsWrong)

/-- 'speculumlaw05.UpdateBack': WHATEVER THE INPUT: true; the input reads as it did. -/
def updateBackSpec : ChangeSpec := { name := "updateBack", fn := fun _ => fun
  | [d] => { results := [.lit (.bool true)], args := [d] }
  | _ => none }
def updateBackRow : OpenClaim := { program := "ytnaangnmlbgmkaagreatdoor", sum := "b938fa6764c34da295fb4517ce2a4f564579e4a8b7fa7e4f02f4fc809a26ab4f", func := "speculum/speculumlaw05.UpdateBack", spec := "updateBack", inPlace := ["slices.overlaps[speculum/api.Raw]"], unfollowed := true, recurses := true, named := ["speculum/attrs.looks"], apart := false, laid := [("speculum/attrs.looks", laid_speculum_attrs_looks)] }
def UpdateBackSaid : Prop := updateBackRow.holds Tryz.pinned (OpenSpec.ofChange updateBackSpec)

/-- ITS FALSE NEIGHBOUR: 'it returns false'. Refute it at one input. -/
def updateBackWrong : ChangeSpec := { name := "updateBack", fn := fun _ => fun
  | [d] => { results := [.lit (.bool false)], args := [d] }
  | _ => none }
def UpdateBackWrongFalsely : Prop := updateBackRow.holds Tryz.pinned (OpenSpec.ofChange updateBackWrong)

/-- 'speculumlaw05.UpdateFlows': WHATEVER THE INPUT: true; the input reads as it did. -/
def updateFlowsSpec : ChangeSpec := { name := "updateFlows", fn := fun _ => fun
  | [d1, d2] => { results := [.lit (.bool true)], args := [d1, d2] }
  | _ => none }
def updateFlowsRow : OpenClaim := { program := "ytnaangnmlbgmkaagreatdoor", sum := "b938fa6764c34da295fb4517ce2a4f564579e4a8b7fa7e4f02f4fc809a26ab4f", func := "speculum/speculumlaw05.UpdateFlows", spec := "updateFlows", inPlace := ["slices.overlaps[speculum/api.Raw]"], unfollowed := true, recurses := true, named := ["speculum/attrs.looks"], apart := false, laid := [("speculum/attrs.looks", laid_speculum_attrs_looks)] }
def UpdateFlowsSaid : Prop := updateFlowsRow.holds Tryz.pinned (OpenSpec.ofChange updateFlowsSpec)

/-- ITS FALSE NEIGHBOUR: 'it returns false'. Refute it at one input. -/
def updateFlowsWrong : ChangeSpec := { name := "updateFlows", fn := fun _ => fun
  | [d1, d2] => { results := [.lit (.bool false)], args := [d1, d2] }
  | _ => none }
def UpdateFlowsWrongFalsely : Prop := updateFlowsRow.holds Tryz.pinned (OpenSpec.ofChange updateFlowsWrong)

/- THE SECOND FORM. 'bulk': how many values and letters a reading holds, each counted each time it is reached (what is shared counts as often as it is met; a slice's spare places count too). A statement '..UptoSaid' is the law's where the arguments, and the package variables that the reading takes, are together of bulk at most 1048576: NARROWER than '..Said'. Prove '..Said' where nothing that the law and all that it calls make is longer than what came in: it says more and counts as full. Else prove '..UptoSaid'. A law counts once. -/
mutual
def uptoBulk {H : Type} : DataW H → Nat
  | .lit (.string bytes) => bytes.length + 1
  | .lit _ => 1
  | .nil => 1
  | .ptr d => uptoBulk d + 1
  | .slice elems spare => uptoBulkAll elems + uptoBulkAll spare + 1
  | .agg parts => uptoBulkAll parts + 1
  | .iface _ d => uptoBulk d + 1
  | .map entries => uptoBulkEntries entries + 1
  | .held _ => 1
def uptoBulkAll {H : Type} : List (DataW H) → Nat
  | [] => 0
  | d :: r => uptoBulk d + uptoBulkAll r
def uptoBulkEntries {H : Type} : List (Lit × DataW H) → Nat
  | [] => 0
  | x :: r => uptoBulkEntry x + uptoBulkEntries r
def uptoBulkEntry {H : Type} : Lit × DataW H → Nat
  | (.string bytes, d) => bytes.length + uptoBulk d + 1
  | (_, d) => uptoBulk d + 1
 end
def uptoSmall : (H : Type) → List (DataW H) → Bool := fun _ ds => decide (uptoBulkAll ds ≤ 1048576)
def OpenSpec.upto (s : _root_.Go.ChangeSpec) : _root_.Go.OpenSpec := { _root_.Go.OpenSpec.ofChange s with cond := some uptoSmall }

/-- 'speculumlaw05.UpdatePuts', WHERE WHAT IT READS IS OF BULK AT MOST 1048576: true; the input reads as it did. -/
def updatePutsUptoRow : OpenClaim := { program := "ytnaangnmlbgmkaagreatdoor", sum := "b938fa6764c34da295fb4517ce2a4f564579e4a8b7fa7e4f02f4fc809a26ab4f", func := "speculum/speculumlaw05.UpdatePuts", spec := "updatePuts", inPlace := ["slices.overlaps[speculum/api.Raw]"], unfollowed := true, recurses := true, named := ["speculum/attrs.looks"], apart := false, laid := [("speculum/attrs.looks", laid_speculum_attrs_looks)], narrowed := true }
def UpdatePutsUptoSaid : Prop := updatePutsUptoRow.holds Tryz.pinned (OpenSpec.upto updatePutsSpec)

/-- 'speculumlaw05.UpdateBack', WHERE WHAT IT READS IS OF BULK AT MOST 1048576: true; the input reads as it did. -/
def updateBackUptoRow : OpenClaim := { program := "ytnaangnmlbgmkaagreatdoor", sum := "b938fa6764c34da295fb4517ce2a4f564579e4a8b7fa7e4f02f4fc809a26ab4f", func := "speculum/speculumlaw05.UpdateBack", spec := "updateBack", inPlace := ["slices.overlaps[speculum/api.Raw]"], unfollowed := true, recurses := true, named := ["speculum/attrs.looks"], apart := false, laid := [("speculum/attrs.looks", laid_speculum_attrs_looks)], narrowed := true }
def UpdateBackUptoSaid : Prop := updateBackUptoRow.holds Tryz.pinned (OpenSpec.upto updateBackSpec)

/-- 'speculumlaw05.UpdateFlows', WHERE WHAT IT READS IS OF BULK AT MOST 1048576: true; the input reads as it did. -/
def updateFlowsUptoRow : OpenClaim := { program := "ytnaangnmlbgmkaagreatdoor", sum := "b938fa6764c34da295fb4517ce2a4f564579e4a8b7fa7e4f02f4fc809a26ab4f", func := "speculum/speculumlaw05.UpdateFlows", spec := "updateFlows", inPlace := ["slices.overlaps[speculum/api.Raw]"], unfollowed := true, recurses := true, named := ["speculum/attrs.looks"], apart := false, laid := [("speculum/attrs.looks", laid_speculum_attrs_looks)], narrowed := true }
def UpdateFlowsUptoSaid : Prop := updateFlowsUptoRow.holds Tryz.pinned (OpenSpec.upto updateFlowsSpec)

end Rows
end Go.Proofs.YtnaangnmlbgmkaaGreatDoor

/-
  NARROWER THAN 'FOR EVERY INPUT', by the rows' own cells (each row's printed sentence says how): FsmSteps: laid · FsmFaults: laid · FsmLegal: laid · FsmFalls: laid.
  DERIVED. THE GIVEN ROWS OF THIS SEAT. 4 by the template 'for every input the law returns true; each argument reads behind the call as it read before'; 0 by the template 'total and deterministic' (their statements: YthjnbjhdepfclaaDoorTotals.lean).
  GIVEN WITH THE SEED: the statements are not yours to turn. If you find one false, say at which input.
  Laid BY PROGRAM, IN A SANDBOX (cutbox-rows.mjs): the forced cells as the released guide's own fill.sh prints them over the translation a548386a2a5ec686… (all of the seat's roots in one cut). By AI agents, Wed Nov 11 2026. No macro, syntax, notation, axiom, sorry.
-/
import Derived.Test.YthjnbjhdepfclaaDoorChecked
import GoSem.Claim
import GoSem.ClaimJoined
import GoSem.ClaimMapViews
import Derived.JoinedTies
import Derived.KernelRfl
namespace Go.Proofs.YthjnbjhdepfclaaDoor
/- THE CELL 'sum', in the pinned program and in every row, IS THE sha256 OF THE DUMP (.gsa) THAT YthjnbjhdepfclaaDoorProg.lean LOADS. Nothing in Lean hashes anything: it is a label: what it is worth is what the hold of that sum in a sandbox is worth. -/
noncomputable def Tryd.pinned : Pinned := { name := "ythjnbjhdepfclaadoor", sum := "a548386a2a5ec686045c3a5e14f4800977c4aa2e0821d69cb4bfe8ce141aa07c", checked := Tryd.checked }
namespace Rows
def none {H : Type} : Left H := { results := [], args := [] }

/- WHAT THE LISTED PACKAGE-LEVEL VARIABLES READ AS WHEN THE CALL BEGINS. Each datum BY PROGRAM (the guide's laid-datum.mjs) off the statement by which the dump's own 'gosem.cut.vars' lays the variable. In a bare row this is a premise. The card (YthjnbjhdepfclaaDoorCards.lean) ties it to the program's text. -/
def laid_speculum_fsm_table {H : Type} : DataW H := .agg [.agg [.lit (.int .u16 4225), .lit (.int .u16 4096), .lit (.int .u16 8192), .lit (.int .u16 12288), .lit (.int .u16 16384), .lit (.int .u16 20480)], .agg [.lit (.int .u16 0), .lit (.int .u16 2050), .lit (.int .u16 2050), .lit (.int .u16 2066), .lit (.int .u16 2066), .lit (.int .u16 2130)], .agg [.lit (.int .u16 2), .lit (.int .u16 14596), .lit (.int .u16 14596), .lit (.int .u16 12288), .lit (.int .u16 16384), .lit (.int .u16 20480)], .agg [.lit (.int .u16 0), .lit (.int .u16 8320), .lit (.int .u16 2050), .lit (.int .u16 10368), .lit (.int .u16 2048), .lit (.int .u16 2112)], .agg [.lit (.int .u16 0), .lit (.int .u16 4225), .lit (.int .u16 4225), .lit (.int .u16 2066), .lit (.int .u16 2066), .lit (.int .u16 2130)], .agg [.lit (.int .u16 0), .lit (.int .u16 2050), .lit (.int .u16 2050), .lit (.int .u16 2066), .lit (.int .u16 2066), .lit (.int .u16 2130)], .agg [.lit (.int .u16 0), .lit (.int .u16 2050), .lit (.int .u16 2050), .lit (.int .u16 2066), .lit (.int .u16 17416), .lit (.int .u16 21512)], .agg [.lit (.int .u16 0), .lit (.int .u16 2050), .lit (.int .u16 2050), .lit (.int .u16 17928), .lit (.int .u16 2066), .lit (.int .u16 2130)], .agg [.lit (.int .u16 0), .lit (.int .u16 2050), .lit (.int .u16 2050), .lit (.int .u16 2066), .lit (.int .u16 2066), .lit (.int .u16 2130)], .agg [.lit (.int .u16 0), .lit (.int .u16 2050), .lit (.int .u16 2050), .lit (.int .u16 2066), .lit (.int .u16 2066), .lit (.int .u16 2130)], .agg [.lit (.int .u16 0), .lit (.int .u16 2050), .lit (.int .u16 2050), .lit (.int .u16 2066), .lit (.int .u16 2066), .lit (.int .u16 2130)], .agg [.lit (.int .u16 0), .lit (.int .u16 2050), .lit (.int .u16 2050), .lit (.int .u16 2050), .lit (.int .u16 2050), .lit (.int .u16 2114)], .agg [.lit (.int .u16 0), .lit (.int .u16 2050), .lit (.int .u16 2050), .lit (.int .u16 2066), .lit (.int .u16 21024), .lit (.int .u16 20992)], .agg [.lit (.int .u16 0), .lit (.int .u16 2050), .lit (.int .u16 2050), .lit (.int .u16 2066), .lit (.int .u16 2066), .lit (.int .u16 20992)], .agg [.lit (.int .u16 0), .lit (.int .u16 2050), .lit (.int .u16 2050), .lit (.int .u16 2066), .lit (.int .u16 2066), .lit (.int .u16 2130)], .agg [.lit (.int .u16 0), .lit (.int .u16 2050), .lit (.int .u16 2050), .lit (.int .u16 2066), .lit (.int .u16 2066), .lit (.int .u16 2130)]]
def laid_speculum_fsm_names {H : Type} : DataW H := .agg [.lit (.string [105, 100, 108, 101]), .lit (.string [99, 111, 110, 110, 101, 99, 116]), .lit (.string [97, 99, 116, 105, 118, 101]), .lit (.string [111, 112, 101, 110, 115, 101, 110, 116]), .lit (.string [111, 112, 101, 110, 99, 111, 110, 102, 105, 114, 109]), .lit (.string [101, 115, 116, 97, 98, 108, 105, 115, 104, 101, 100])]

/-- 'speculumlaw21.FsmSteps': WHATEVER THE INPUT: true; the input reads as it did. -/
def fsmStepsSpec : ChangeSpec := { name := "fsmSteps", fn := fun _ => fun
  | [d1, d2] => { results := [.lit (.bool true)], args := [d1, d2] }
  | _ => none }
def fsmStepsRow : OpenClaim := { program := "ythjnbjhdepfclaadoor", sum := "a548386a2a5ec686045c3a5e14f4800977c4aa2e0821d69cb4bfe8ce141aa07c", func := "speculum/speculumlaw21.FsmSteps", spec := "fsmSteps", named := ["speculum/fsm.table", "speculum/fsm.names"], apart := false, laid := [("speculum/fsm.table", laid_speculum_fsm_table), ("speculum/fsm.names", laid_speculum_fsm_names)] }
def FsmStepsSaid : Prop := fsmStepsRow.holds Tryd.pinned (OpenSpec.ofChange fsmStepsSpec)

/-- ITS FALSE NEIGHBOUR: 'it returns false'. Refute it at one input. -/
def fsmStepsWrong : ChangeSpec := { name := "fsmSteps", fn := fun _ => fun
  | [d1, d2] => { results := [.lit (.bool false)], args := [d1, d2] }
  | _ => none }
def FsmStepsWrongFalsely : Prop := fsmStepsRow.holds Tryd.pinned (OpenSpec.ofChange fsmStepsWrong)

/-- 'speculumlaw21.FsmFaults': WHATEVER THE INPUT: true; the input reads as it did. -/
def fsmFaultsSpec : ChangeSpec := { name := "fsmFaults", fn := fun _ => fun
  | [d1, d2] => { results := [.lit (.bool true)], args := [d1, d2] }
  | _ => none }
def fsmFaultsRow : OpenClaim := { program := "ythjnbjhdepfclaadoor", sum := "a548386a2a5ec686045c3a5e14f4800977c4aa2e0821d69cb4bfe8ce141aa07c", func := "speculum/speculumlaw21.FsmFaults", spec := "fsmFaults", named := ["speculum/fsm.table", "speculum/fsm.names"], apart := false, laid := [("speculum/fsm.table", laid_speculum_fsm_table), ("speculum/fsm.names", laid_speculum_fsm_names)] }
def FsmFaultsSaid : Prop := fsmFaultsRow.holds Tryd.pinned (OpenSpec.ofChange fsmFaultsSpec)

/-- ITS FALSE NEIGHBOUR: 'it returns false'. Refute it at one input. -/
def fsmFaultsWrong : ChangeSpec := { name := "fsmFaults", fn := fun _ => fun
  | [d1, d2] => { results := [.lit (.bool false)], args := [d1, d2] }
  | _ => none }
def FsmFaultsWrongFalsely : Prop := fsmFaultsRow.holds Tryd.pinned (OpenSpec.ofChange fsmFaultsWrong)

/-- 'speculumlaw21.FsmLegal': WHATEVER THE INPUT: true; the input reads as it did. -/
def fsmLegalSpec : ChangeSpec := { name := "fsmLegal", fn := fun _ => fun
  | [d] => { results := [.lit (.bool true)], args := [d] }
  | _ => none }
def fsmLegalRow : OpenClaim := { program := "ythjnbjhdepfclaadoor", sum := "a548386a2a5ec686045c3a5e14f4800977c4aa2e0821d69cb4bfe8ce141aa07c", func := "speculum/speculumlaw21.FsmLegal", spec := "fsmLegal", named := ["speculum/fsm.table", "speculum/fsm.names"], apart := false, laid := [("speculum/fsm.table", laid_speculum_fsm_table), ("speculum/fsm.names", laid_speculum_fsm_names)] }
def FsmLegalSaid : Prop := fsmLegalRow.holds Tryd.pinned (OpenSpec.ofChange fsmLegalSpec)

/-- ITS FALSE NEIGHBOUR: 'it returns false'. Refute it at one input. -/
def fsmLegalWrong : ChangeSpec := { name := "fsmLegal", fn := fun _ => fun
  | [d] => { results := [.lit (.bool false)], args := [d] }
  | _ => none }
def FsmLegalWrongFalsely : Prop := fsmLegalRow.holds Tryd.pinned (OpenSpec.ofChange fsmLegalWrong)

/-- 'speculumlaw21.FsmFalls': WHATEVER THE INPUT: true; the input reads as it did. -/
def fsmFallsSpec : ChangeSpec := { name := "fsmFalls", fn := fun _ => fun
  | [] => { results := [.lit (.bool true)], args := [] }
  | _ => none }
def fsmFallsRow : OpenClaim := { program := "ythjnbjhdepfclaadoor", sum := "a548386a2a5ec686045c3a5e14f4800977c4aa2e0821d69cb4bfe8ce141aa07c", func := "speculum/speculumlaw21.FsmFalls", spec := "fsmFalls", named := ["speculum/fsm.table", "speculum/fsm.names"], apart := false, laid := [("speculum/fsm.table", laid_speculum_fsm_table), ("speculum/fsm.names", laid_speculum_fsm_names)] }
def FsmFallsSaid : Prop := fsmFallsRow.holds Tryd.pinned (OpenSpec.ofChange fsmFallsSpec)

/-- ITS FALSE NEIGHBOUR: 'it returns false'. Refute it at one input. -/
def fsmFallsWrong : ChangeSpec := { name := "fsmFalls", fn := fun _ => fun
  | [] => { results := [.lit (.bool false)], args := [] }
  | _ => none }
def FsmFallsWrongFalsely : Prop := fsmFallsRow.holds Tryd.pinned (OpenSpec.ofChange fsmFallsWrong)

/- THE SECOND FORM. 'bulk': how many values and letters a reading holds, each counted each time it is reached (what is shared counts as often as it is met; a slice's spare places count too). A statement '..UptoSaid' is the law's where the arguments, and the package variables that the reading takes, are together of bulk at most 1048576: NARROWER than '..Said'. Prove '..Said' where nothing that the law and all that it calls make is longer than what came in: it says more and counts as full. Else prove '..UptoSaid'. A law counts once. -/
mutual
def uptoBulk {H : Type} : DataW H → Nat
  | .lit (.string bytes) => bytes.length + 1
  | .lit _ => 1
  | .nil => 1
  | .ptr d => uptoBulk d + 1
  | .slice elems spare => uptoBulkAll elems + uptoBulkAll spare + 1
  | .agg parts => uptoBulkAll parts + 1
  | .iface _ d => uptoBulk d + 1
  | .map entries => uptoBulkEntries entries + 1
  | .held _ => 1
def uptoBulkAll {H : Type} : List (DataW H) → Nat
  | [] => 0
  | d :: r => uptoBulk d + uptoBulkAll r
def uptoBulkEntries {H : Type} : List (Lit × DataW H) → Nat
  | [] => 0
  | x :: r => uptoBulkEntry x + uptoBulkEntries r
def uptoBulkEntry {H : Type} : Lit × DataW H → Nat
  | (.string bytes, d) => bytes.length + uptoBulk d + 1
  | (_, d) => uptoBulk d + 1
 end
def uptoSmall : (H : Type) → List (DataW H) → Bool := fun _ ds => decide (uptoBulkAll ds ≤ 1048576)
def OpenSpec.upto (s : _root_.Go.ChangeSpec) : _root_.Go.OpenSpec := { _root_.Go.OpenSpec.ofChange s with cond := some uptoSmall }

/-- 'speculumlaw21.FsmSteps', WHERE WHAT IT READS IS OF BULK AT MOST 1048576: true; the input reads as it did. -/
def fsmStepsUptoRow : OpenClaim := { program := "ythjnbjhdepfclaadoor", sum := "a548386a2a5ec686045c3a5e14f4800977c4aa2e0821d69cb4bfe8ce141aa07c", func := "speculum/speculumlaw21.FsmSteps", spec := "fsmSteps", named := ["speculum/fsm.table", "speculum/fsm.names"], apart := false, laid := [("speculum/fsm.table", laid_speculum_fsm_table), ("speculum/fsm.names", laid_speculum_fsm_names)], narrowed := true }
def FsmStepsUptoSaid : Prop := fsmStepsUptoRow.holds Tryd.pinned (OpenSpec.upto fsmStepsSpec)

/-- 'speculumlaw21.FsmFaults', WHERE WHAT IT READS IS OF BULK AT MOST 1048576: true; the input reads as it did. -/
def fsmFaultsUptoRow : OpenClaim := { program := "ythjnbjhdepfclaadoor", sum := "a548386a2a5ec686045c3a5e14f4800977c4aa2e0821d69cb4bfe8ce141aa07c", func := "speculum/speculumlaw21.FsmFaults", spec := "fsmFaults", named := ["speculum/fsm.table", "speculum/fsm.names"], apart := false, laid := [("speculum/fsm.table", laid_speculum_fsm_table), ("speculum/fsm.names", laid_speculum_fsm_names)], narrowed := true }
def FsmFaultsUptoSaid : Prop := fsmFaultsUptoRow.holds Tryd.pinned (OpenSpec.upto fsmFaultsSpec)

/-- 'speculumlaw21.FsmLegal', WHERE WHAT IT READS IS OF BULK AT MOST 1048576: true; the input reads as it did. -/
def fsmLegalUptoRow : OpenClaim := { program := "ythjnbjhdepfclaadoor", sum := "a548386a2a5ec686045c3a5e14f4800977c4aa2e0821d69cb4bfe8ce141aa07c", func := "speculum/speculumlaw21.FsmLegal", spec := "fsmLegal", named := ["speculum/fsm.table", "speculum/fsm.names"], apart := false, laid := [("speculum/fsm.table", laid_speculum_fsm_table), ("speculum/fsm.names", laid_speculum_fsm_names)], narrowed := true }
def FsmLegalUptoSaid : Prop := fsmLegalUptoRow.holds Tryd.pinned (OpenSpec.upto fsmLegalSpec)

/-- 'speculumlaw21.FsmFalls', WHERE WHAT IT READS IS OF BULK AT MOST 1048576: true; the input reads as it did. -/
def fsmFallsUptoRow : OpenClaim := { program := "ythjnbjhdepfclaadoor", sum := "a548386a2a5ec686045c3a5e14f4800977c4aa2e0821d69cb4bfe8ce141aa07c", func := "speculum/speculumlaw21.FsmFalls", spec := "fsmFalls", named := ["speculum/fsm.table", "speculum/fsm.names"], apart := false, laid := [("speculum/fsm.table", laid_speculum_fsm_table), ("speculum/fsm.names", laid_speculum_fsm_names)], narrowed := true }
def FsmFallsUptoSaid : Prop := fsmFallsUptoRow.holds Tryd.pinned (OpenSpec.upto fsmFallsSpec)

end Rows
end Go.Proofs.YthjnbjhdepfclaaDoor

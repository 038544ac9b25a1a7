/-
  What the laws' frames lean on, of a seat without tables.
-/
import Derived.Test.YtgaoonnokhlgjaaRows
import Derived.Test.YtgaoonnokhlgjaaSeat
import Derived.ProofKit
import Derived.OpenShut
import Derived.Deep.DeepHandedRow
import Derived.Lib.SmallJoins
import Derived.Lib.LaidTab
namespace Go.Proofs.Ytgaoonnokhlgjaa
open Go.ChangeShapes Go.WideShapes Go.ChangeAt Go.RowKit
set_option linter.unusedVariables false

theorem own : ownKnob Try.prog.godebug = none := by kernel_rfl
theorem laidOut : laidOutB Try.prog = true := by kernel_rfl
end Go.Proofs.Ytgaoonnokhlgjaa

/-
  NARROWER THAN 'FOR EVERY INPUT', by the rows' own cells (each row's printed sentence says how): FramePuts: laid · FrameNext: laid · FrameStreams: laid · FrameBack: laid · FrameNobody: laid.
  DERIVED. THE GIVEN ROWS OF THIS SEAT. 5 by the template 'for every input the law returns true; each argument reads behind the call as it read before'; 0 by the template 'total and deterministic' (their statements: YtjhmkapafhgofaaDoorTotals.lean).
  GIVEN WITH THE SEED: the statements are not yours to turn. If you find one false, say at which input.
  Laid BY PROGRAM, IN A SANDBOX (cutbox-rows.mjs): the forced cells as the released guide's own fill.sh prints them over the translation 7f70f0b609136fbc… (all of the seat's roots in one cut). By AI agents, Wed Nov 11 2026. No macro, syntax, notation, axiom, sorry.
-/
import Derived.Test.YtjhmkapafhgofaaDoorChecked
import GoSem.Claim
import GoSem.ClaimJoined
import GoSem.ClaimMapViews
import Derived.JoinedTies
import Derived.KernelRfl
namespace Go.Proofs.YtjhmkapafhgofaaDoor
/- THE CELL 'sum', in the pinned program and in every row, IS THE sha256 OF THE DUMP (.gsa) THAT YtjhmkapafhgofaaDoorProg.lean LOADS. Nothing in Lean hashes anything: it is a label: what it is worth is what the hold of that sum in a sandbox is worth. -/
noncomputable def Tryd.pinned : Pinned := { name := "ytjhmkapafhgofaadoor", sum := "7f70f0b609136fbc7e4cc6de89cc15347956fc1b19fa8e8eaafbbee8373e1f33", checked := Tryd.checked }
namespace Rows
def none {H : Type} : Left H := { results := [], args := [] }

/- WHAT THE LISTED PACKAGE-LEVEL VARIABLES READ AS WHEN THE CALL BEGINS. Each datum BY PROGRAM (the guide's laid-datum.mjs) off the statement by which the dump's own 'gosem.cut.vars' lays the variable. In a bare row this is a premise. The card (YtjhmkapafhgofaaDoorCards.lean) ties it to the program's text. -/
def laid_speculum_frame_least {H : Type} : DataW H := .agg [.lit (.int .i64 0), .lit (.int .i64 29), .lit (.int .i64 23), .lit (.int .i64 21), .lit (.int .i64 19)]

/-- 'speculumlaw07.FramePuts': WHATEVER THE INPUT: true; the input reads as it did. -/
def framePutsSpec : ChangeSpec := { name := "framePuts", fn := fun _ => fun
  | [d1, d2] => { results := [.lit (.bool true)], args := [d1, d2] }
  | _ => none }
def framePutsRow : OpenClaim := { program := "ytjhmkapafhgofaadoor", sum := "7f70f0b609136fbc7e4cc6de89cc15347956fc1b19fa8e8eaafbbee8373e1f33", func := "speculum/speculumlaw07.FramePuts", spec := "framePuts", inPlace := ["internal/bytealg.MakeNoZero"], unfollowed := true, recurses := true, named := ["speculum/frame.least"], apart := false, laid := [("speculum/frame.least", laid_speculum_frame_least)] }
def FramePutsSaid : Prop := framePutsRow.holds Tryd.pinned (OpenSpec.ofChange framePutsSpec)

/-- ITS FALSE NEIGHBOUR: 'it returns false'. Refute it at one input. -/
def framePutsWrong : ChangeSpec := { name := "framePuts", fn := fun _ => fun
  | [d1, d2] => { results := [.lit (.bool false)], args := [d1, d2] }
  | _ => none }
def FramePutsWrongFalsely : Prop := framePutsRow.holds Tryd.pinned (OpenSpec.ofChange framePutsWrong)

/-- 'speculumlaw07.FrameNext': WHATEVER THE INPUT: true; the input reads as it did. -/
def frameNextSpec : ChangeSpec := { name := "frameNext", fn := fun _ => fun
  | [d] => { results := [.lit (.bool true)], args := [d] }
  | _ => none }
def frameNextRow : OpenClaim := { program := "ytjhmkapafhgofaadoor", sum := "7f70f0b609136fbc7e4cc6de89cc15347956fc1b19fa8e8eaafbbee8373e1f33", func := "speculum/speculumlaw07.FrameNext", spec := "frameNext", inPlace := ["internal/bytealg.MakeNoZero"], unfollowed := true, recurses := true, named := ["speculum/frame.least"], apart := false, laid := [("speculum/frame.least", laid_speculum_frame_least)] }
def FrameNextSaid : Prop := frameNextRow.holds Tryd.pinned (OpenSpec.ofChange frameNextSpec)

/-- ITS FALSE NEIGHBOUR: 'it returns false'. Refute it at one input. -/
def frameNextWrong : ChangeSpec := { name := "frameNext", fn := fun _ => fun
  | [d] => { results := [.lit (.bool false)], args := [d] }
  | _ => none }
def FrameNextWrongFalsely : Prop := frameNextRow.holds Tryd.pinned (OpenSpec.ofChange frameNextWrong)

/-- 'speculumlaw07.FrameStreams': WHATEVER THE INPUT: true; the input reads as it did. -/
def frameStreamsSpec : ChangeSpec := { name := "frameStreams", fn := fun _ => fun
  | [d1, d2] => { results := [.lit (.bool true)], args := [d1, d2] }
  | _ => none }
def frameStreamsRow : OpenClaim := { program := "ytjhmkapafhgofaadoor", sum := "7f70f0b609136fbc7e4cc6de89cc15347956fc1b19fa8e8eaafbbee8373e1f33", func := "speculum/speculumlaw07.FrameStreams", spec := "frameStreams", inPlace := ["internal/bytealg.MakeNoZero"], unfollowed := true, recurses := true, named := ["speculum/frame.least"], apart := false, laid := [("speculum/frame.least", laid_speculum_frame_least)] }
def FrameStreamsSaid : Prop := frameStreamsRow.holds Tryd.pinned (OpenSpec.ofChange frameStreamsSpec)

/-- ITS FALSE NEIGHBOUR: 'it returns false'. Refute it at one input. -/
def frameStreamsWrong : ChangeSpec := { name := "frameStreams", fn := fun _ => fun
  | [d1, d2] => { results := [.lit (.bool false)], args := [d1, d2] }
  | _ => none }
def FrameStreamsWrongFalsely : Prop := frameStreamsRow.holds Tryd.pinned (OpenSpec.ofChange frameStreamsWrong)

/-- 'speculumlaw07.FrameBack': WHATEVER THE INPUT: true; the input reads as it did. -/
def frameBackSpec : ChangeSpec := { name := "frameBack", fn := fun _ => fun
  | [d] => { results := [.lit (.bool true)], args := [d] }
  | _ => none }
def frameBackRow : OpenClaim := { program := "ytjhmkapafhgofaadoor", sum := "7f70f0b609136fbc7e4cc6de89cc15347956fc1b19fa8e8eaafbbee8373e1f33", func := "speculum/speculumlaw07.FrameBack", spec := "frameBack", inPlace := ["internal/bytealg.MakeNoZero"], unfollowed := true, recurses := true, named := ["speculum/frame.least"], apart := false, laid := [("speculum/frame.least", laid_speculum_frame_least)] }
def FrameBackSaid : Prop := frameBackRow.holds Tryd.pinned (OpenSpec.ofChange frameBackSpec)

/-- ITS FALSE NEIGHBOUR: 'it returns false'. Refute it at one input. -/
def frameBackWrong : ChangeSpec := { name := "frameBack", fn := fun _ => fun
  | [d] => { results := [.lit (.bool false)], args := [d] }
  | _ => none }
def FrameBackWrongFalsely : Prop := frameBackRow.holds Tryd.pinned (OpenSpec.ofChange frameBackWrong)

/-- 'speculumlaw07.FrameNobody': WHATEVER THE INPUT: true; the input reads as it did. -/
def frameNobodySpec : ChangeSpec := { name := "frameNobody", fn := fun _ => fun
  | [d] => { results := [.lit (.bool true)], args := [d] }
  | _ => none }
def frameNobodyRow : OpenClaim := { program := "ytjhmkapafhgofaadoor", sum := "7f70f0b609136fbc7e4cc6de89cc15347956fc1b19fa8e8eaafbbee8373e1f33", func := "speculum/speculumlaw07.FrameNobody", spec := "frameNobody", inPlace := ["internal/bytealg.MakeNoZero"], unfollowed := true, recurses := true, named := ["speculum/frame.least"], apart := false, laid := [("speculum/frame.least", laid_speculum_frame_least)] }
def FrameNobodySaid : Prop := frameNobodyRow.holds Tryd.pinned (OpenSpec.ofChange frameNobodySpec)

/-- ITS FALSE NEIGHBOUR: 'it returns false'. Refute it at one input. -/
def frameNobodyWrong : ChangeSpec := { name := "frameNobody", fn := fun _ => fun
  | [d] => { results := [.lit (.bool false)], args := [d] }
  | _ => none }
def FrameNobodyWrongFalsely : Prop := frameNobodyRow.holds Tryd.pinned (OpenSpec.ofChange frameNobodyWrong)

/- THE SECOND FORM. 'bulk': how many values and letters a reading holds, each counted each time it is reached (what is shared counts as often as it is met; a slice's spare places count too). A statement '..UptoSaid' is the law's where the arguments, and the package variables that the reading takes, are together of bulk at most 1048576: NARROWER than '..Said'. Prove '..Said' where nothing that the law and all that it calls make is longer than what came in: it says more and counts as full. Else prove '..UptoSaid'. A law counts once. -/
mutual
def uptoBulk {H : Type} : DataW H → Nat
  | .lit (.string bytes) => bytes.length + 1
  | .lit _ => 1
  | .nil => 1
  | .ptr d => uptoBulk d + 1
  | .slice elems spare => uptoBulkAll elems + uptoBulkAll spare + 1
  | .agg parts => uptoBulkAll parts + 1
  | .iface _ d => uptoBulk d + 1
  | .map entries => uptoBulkEntries entries + 1
  | .held _ => 1
def uptoBulkAll {H : Type} : List (DataW H) → Nat
  | [] => 0
  | d :: r => uptoBulk d + uptoBulkAll r
def uptoBulkEntries {H : Type} : List (Lit × DataW H) → Nat
  | [] => 0
  | x :: r => uptoBulkEntry x + uptoBulkEntries r
def uptoBulkEntry {H : Type} : Lit × DataW H → Nat
  | (.string bytes, d) => bytes.length + uptoBulk d + 1
  | (_, d) => uptoBulk d + 1
 end
def uptoSmall : (H : Type) → List (DataW H) → Bool := fun _ ds => decide (uptoBulkAll ds ≤ 1048576)
def OpenSpec.upto (s : _root_.Go.ChangeSpec) : _root_.Go.OpenSpec := { _root_.Go.OpenSpec.ofChange s with cond := some uptoSmall }

/-- 'speculumlaw07.FramePuts', WHERE WHAT IT READS IS OF BULK AT MOST 1048576: true; the input reads as it did. -/
def framePutsUptoRow : OpenClaim := { program := "ytjhmkapafhgofaadoor", sum := "7f70f0b609136fbc7e4cc6de89cc15347956fc1b19fa8e8eaafbbee8373e1f33", func := "speculum/speculumlaw07.FramePuts", spec := "framePuts", inPlace := ["internal/bytealg.MakeNoZero"], unfollowed := true, recurses := true, named := ["speculum/frame.least"], apart := false, laid := [("speculum/frame.least", laid_speculum_frame_least)], narrowed := true }
def FramePutsUptoSaid : Prop := framePutsUptoRow.holds Tryd.pinned (OpenSpec.upto framePutsSpec)

/-- 'speculumlaw07.FrameNext', WHERE WHAT IT READS IS OF BULK AT MOST 1048576: true; the input reads as it did. -/
def frameNextUptoRow : OpenClaim := { program := "ytjhmkapafhgofaadoor", sum := "7f70f0b609136fbc7e4cc6de89cc15347956fc1b19fa8e8eaafbbee8373e1f33", func := "speculum/speculumlaw07.FrameNext", spec := "frameNext", inPlace := ["internal/bytealg.MakeNoZero"], unfollowed := true, recurses := true, named := ["speculum/frame.least"], apart := false, laid := [("speculum/frame.least", laid_speculum_frame_least)], narrowed := true }
def FrameNextUptoSaid : Prop := frameNextUptoRow.holds Tryd.pinned (OpenSpec.upto frameNextSpec)

/-- 'speculumlaw07.FrameStreams', WHERE WHAT IT READS IS OF BULK AT MOST 1048576: true; the input reads as it did. -/
def frameStreamsUptoRow : OpenClaim := { program := "ytjhmkapafhgofaadoor", sum := "7f70f0b609136fbc7e4cc6de89cc15347956fc1b19fa8e8eaafbbee8373e1f33", func := "speculum/speculumlaw07.FrameStreams", spec := "frameStreams", inPlace := ["internal/bytealg.MakeNoZero"], unfollowed := true, recurses := true, named := ["speculum/frame.least"], apart := false, laid := [("speculum/frame.least", laid_speculum_frame_least)], narrowed := true }
def FrameStreamsUptoSaid : Prop := frameStreamsUptoRow.holds Tryd.pinned (OpenSpec.upto frameStreamsSpec)

/-- 'speculumlaw07.FrameBack', WHERE WHAT IT READS IS OF BULK AT MOST 1048576: true; the input reads as it did. -/
def frameBackUptoRow : OpenClaim := { program := "ytjhmkapafhgofaadoor", sum := "7f70f0b609136fbc7e4cc6de89cc15347956fc1b19fa8e8eaafbbee8373e1f33", func := "speculum/speculumlaw07.FrameBack", spec := "frameBack", inPlace := ["internal/bytealg.MakeNoZero"], unfollowed := true, recurses := true, named := ["speculum/frame.least"], apart := false, laid := [("speculum/frame.least", laid_speculum_frame_least)], narrowed := true }
def FrameBackUptoSaid : Prop := frameBackUptoRow.holds Tryd.pinned (OpenSpec.upto frameBackSpec)

/-- 'speculumlaw07.FrameNobody', WHERE WHAT IT READS IS OF BULK AT MOST 1048576: true; the input reads as it did. -/
def frameNobodyUptoRow : OpenClaim := { program := "ytjhmkapafhgofaadoor", sum := "7f70f0b609136fbc7e4cc6de89cc15347956fc1b19fa8e8eaafbbee8373e1f33", func := "speculum/speculumlaw07.FrameNobody", spec := "frameNobody", inPlace := ["internal/bytealg.MakeNoZero"], unfollowed := true, recurses := true, named := ["speculum/frame.least"], apart := false, laid := [("speculum/frame.least", laid_speculum_frame_least)], narrowed := true }
def FrameNobodyUptoSaid : Prop := frameNobodyUptoRow.holds Tryd.pinned (OpenSpec.upto frameNobodySpec)

end Rows
end Go.Proofs.YtjhmkapafhgofaaDoor

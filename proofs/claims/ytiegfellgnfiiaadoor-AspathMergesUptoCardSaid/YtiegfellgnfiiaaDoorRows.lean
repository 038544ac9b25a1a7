/-
  NARROWER THAN 'FOR EVERY INPUT', by the rows' own cells (each row's printed sentence says how): AspathParts: laid · AspathSame: laid · AspathPrepends: laid · AspathTexts: laid · AspathParses: laid · AspathPuts: laid · AspathReads: laid · AspathMerges: laid.
  DERIVED. THE GIVEN ROWS OF THIS SEAT. 8 by the template 'for every input the law returns true; each argument reads behind the call as it read before'; 0 by the template 'total and deterministic' (their statements: YtiegfellgnfiiaaDoorTotals.lean).
  GIVEN WITH THE SEED: the statements are not yours to turn. If you find one false, say at which input.
  Laid BY PROGRAM, IN A SANDBOX (cutbox-rows.mjs): the forced cells as the released guide's own fill.sh prints them over the translation 59564cba610577b6… (all of the seat's roots in one cut). By AI agents, Wed Nov 11 2026. No macro, syntax, notation, axiom, sorry.
-/
import Derived.Test.YtiegfellgnfiiaaDoorChecked
import GoSem.Claim
import GoSem.ClaimJoined
import GoSem.ClaimMapViews
import Derived.JoinedTies
import Derived.KernelRfl
namespace Go.Proofs.YtiegfellgnfiiaaDoor
/- THE CELL 'sum', in the pinned program and in every row, IS THE sha256 OF THE DUMP (.gsa) THAT YtiegfellgnfiiaaDoorProg.lean LOADS. Nothing in Lean hashes anything: it is a label: what it is worth is what the hold of that sum in a sandbox is worth. -/
noncomputable def Tryd.pinned : Pinned := { name := "ytiegfellgnfiiaadoor", sum := "59564cba610577b6eec492da9d5a921f750b531a2bbdfc98fbfa968d85e0d3dd", checked := Tryd.checked }
namespace Rows
def none {H : Type} : Left H := { results := [], args := [] }

/- WHAT THE LISTED PACKAGE-LEVEL VARIABLES READ AS WHEN THE CALL BEGINS. Each datum BY PROGRAM (the guide's laid-datum.mjs) off the statement by which the dump's own 'gosem.cut.vars' lays the variable. In a bare row this is a premise. The card (YtiegfellgnfiiaaDoorCards.lean) ties it to the program's text. -/
def laid_speculum_octet_digits {H : Type} : DataW H := .agg [.lit (.int .u8 48), .lit (.int .u8 49), .lit (.int .u8 50), .lit (.int .u8 51), .lit (.int .u8 52), .lit (.int .u8 53), .lit (.int .u8 54), .lit (.int .u8 55), .lit (.int .u8 56), .lit (.int .u8 57), .lit (.int .u8 97), .lit (.int .u8 98), .lit (.int .u8 99), .lit (.int .u8 100), .lit (.int .u8 101), .lit (.int .u8 102)]

/-- 'speculumlaw03.AspathParts': WHATEVER THE INPUT: true; the input reads as it did. -/
def aspathPartsSpec : ChangeSpec := { name := "aspathParts", fn := fun _ => fun
  | [d1, d2] => { results := [.lit (.bool true)], args := [d1, d2] }
  | _ => none }
def aspathPartsRow : OpenClaim := { program := "ytiegfellgnfiiaadoor", sum := "59564cba610577b6eec492da9d5a921f750b531a2bbdfc98fbfa968d85e0d3dd", func := "speculum/speculumlaw03.AspathParts", spec := "aspathParts", inPlace := ["internal/abi.NoEscape", "internal/bytealg.MakeNoZero"], unfollowed := true, recurses := true, named := ["speculum/octet.digits"], apart := false, laid := [("speculum/octet.digits", laid_speculum_octet_digits)] }
def AspathPartsSaid : Prop := aspathPartsRow.holds Tryd.pinned (OpenSpec.ofChange aspathPartsSpec)

/-- ITS FALSE NEIGHBOUR: 'it returns false'. Refute it at one input. -/
def aspathPartsWrong : ChangeSpec := { name := "aspathParts", fn := fun _ => fun
  | [d1, d2] => { results := [.lit (.bool false)], args := [d1, d2] }
  | _ => none }
def AspathPartsWrongFalsely : Prop := aspathPartsRow.holds Tryd.pinned (OpenSpec.ofChange aspathPartsWrong)

/-- 'speculumlaw03.AspathSame': WHATEVER THE INPUT: true; the input reads as it did. -/
def aspathSameSpec : ChangeSpec := { name := "aspathSame", fn := fun _ => fun
  | [d1, d2] => { results := [.lit (.bool true)], args := [d1, d2] }
  | _ => none }
def aspathSameRow : OpenClaim := { program := "ytiegfellgnfiiaadoor", sum := "59564cba610577b6eec492da9d5a921f750b531a2bbdfc98fbfa968d85e0d3dd", func := "speculum/speculumlaw03.AspathSame", spec := "aspathSame", inPlace := ["internal/abi.NoEscape", "internal/bytealg.MakeNoZero"], unfollowed := true, recurses := true, named := ["speculum/octet.digits"], apart := false, laid := [("speculum/octet.digits", laid_speculum_octet_digits)] }
def AspathSameSaid : Prop := aspathSameRow.holds Tryd.pinned (OpenSpec.ofChange aspathSameSpec)

/-- ITS FALSE NEIGHBOUR: 'it returns false'. Refute it at one input. -/
def aspathSameWrong : ChangeSpec := { name := "aspathSame", fn := fun _ => fun
  | [d1, d2] => { results := [.lit (.bool false)], args := [d1, d2] }
  | _ => none }
def AspathSameWrongFalsely : Prop := aspathSameRow.holds Tryd.pinned (OpenSpec.ofChange aspathSameWrong)

/-- 'speculumlaw03.AspathPrepends': WHATEVER THE INPUT: true; the input reads as it did. -/
def aspathPrependsSpec : ChangeSpec := { name := "aspathPrepends", fn := fun _ => fun
  | [d1, d2] => { results := [.lit (.bool true)], args := [d1, d2] }
  | _ => none }
def aspathPrependsRow : OpenClaim := { program := "ytiegfellgnfiiaadoor", sum := "59564cba610577b6eec492da9d5a921f750b531a2bbdfc98fbfa968d85e0d3dd", func := "speculum/speculumlaw03.AspathPrepends", spec := "aspathPrepends", inPlace := ["internal/abi.NoEscape", "internal/bytealg.MakeNoZero", "slices.overlaps[uint32]", "slices.overlaps[speculum/api.Segment]"], unfollowed := true, recurses := true, named := ["speculum/octet.digits"], apart := false, laid := [("speculum/octet.digits", laid_speculum_octet_digits)] }
def AspathPrependsSaid : Prop := aspathPrependsRow.holds Tryd.pinned (OpenSpec.ofChange aspathPrependsSpec)

/-- ITS FALSE NEIGHBOUR: 'it returns false'. Refute it at one input. -/
def aspathPrependsWrong : ChangeSpec := { name := "aspathPrepends", fn := fun _ => fun
  | [d1, d2] => { results := [.lit (.bool false)], args := [d1, d2] }
  | _ => none }
def AspathPrependsWrongFalsely : Prop := aspathPrependsRow.holds Tryd.pinned (OpenSpec.ofChange aspathPrependsWrong)

/-- 'speculumlaw03.AspathTexts': WHATEVER THE INPUT: true; the input reads as it did. -/
def aspathTextsSpec : ChangeSpec := { name := "aspathTexts", fn := fun _ => fun
  | [d] => { results := [.lit (.bool true)], args := [d] }
  | _ => none }
def aspathTextsRow : OpenClaim := { program := "ytiegfellgnfiiaadoor", sum := "59564cba610577b6eec492da9d5a921f750b531a2bbdfc98fbfa968d85e0d3dd", func := "speculum/speculumlaw03.AspathTexts", spec := "aspathTexts", inPlace := ["internal/abi.NoEscape", "internal/bytealg.MakeNoZero"], unfollowed := true, recurses := true, named := ["speculum/octet.digits"], apart := false, laid := [("speculum/octet.digits", laid_speculum_octet_digits)] }
def AspathTextsSaid : Prop := aspathTextsRow.holds Tryd.pinned (OpenSpec.ofChange aspathTextsSpec)

/-- ITS FALSE NEIGHBOUR: 'it returns false'. Refute it at one input. -/
def aspathTextsWrong : ChangeSpec := { name := "aspathTexts", fn := fun _ => fun
  | [d] => { results := [.lit (.bool false)], args := [d] }
  | _ => none }
def AspathTextsWrongFalsely : Prop := aspathTextsRow.holds Tryd.pinned (OpenSpec.ofChange aspathTextsWrong)

/-- 'speculumlaw03.AspathParses': WHATEVER THE INPUT: true; the input reads as it did. -/
def aspathParsesSpec : ChangeSpec := { name := "aspathParses", fn := fun _ => fun
  | [d] => { results := [.lit (.bool true)], args := [d] }
  | _ => none }
def aspathParsesRow : OpenClaim := { program := "ytiegfellgnfiiaadoor", sum := "59564cba610577b6eec492da9d5a921f750b531a2bbdfc98fbfa968d85e0d3dd", func := "speculum/speculumlaw03.AspathParses", spec := "aspathParses", inPlace := ["internal/abi.NoEscape", "internal/bytealg.MakeNoZero"], unfollowed := true, recurses := true, named := ["speculum/octet.digits"], apart := false, laid := [("speculum/octet.digits", laid_speculum_octet_digits)] }
def AspathParsesSaid : Prop := aspathParsesRow.holds Tryd.pinned (OpenSpec.ofChange aspathParsesSpec)

/-- ITS FALSE NEIGHBOUR: 'it returns false'. Refute it at one input. -/
def aspathParsesWrong : ChangeSpec := { name := "aspathParses", fn := fun _ => fun
  | [d] => { results := [.lit (.bool false)], args := [d] }
  | _ => none }
def AspathParsesWrongFalsely : Prop := aspathParsesRow.holds Tryd.pinned (OpenSpec.ofChange aspathParsesWrong)

/-- 'speculumlaw03.AspathPuts': WHATEVER THE INPUT: true; the input reads as it did. -/
def aspathPutsSpec : ChangeSpec := { name := "aspathPuts", fn := fun _ => fun
  | [d1, d2] => { results := [.lit (.bool true)], args := [d1, d2] }
  | _ => none }
def aspathPutsRow : OpenClaim := { program := "ytiegfellgnfiiaadoor", sum := "59564cba610577b6eec492da9d5a921f750b531a2bbdfc98fbfa968d85e0d3dd", func := "speculum/speculumlaw03.AspathPuts", spec := "aspathPuts", inPlace := ["internal/abi.NoEscape", "internal/bytealg.MakeNoZero"], unfollowed := true, recurses := true, named := ["speculum/octet.digits"], apart := false, laid := [("speculum/octet.digits", laid_speculum_octet_digits)] }
def AspathPutsSaid : Prop := aspathPutsRow.holds Tryd.pinned (OpenSpec.ofChange aspathPutsSpec)

/-- ITS FALSE NEIGHBOUR: 'it returns false'. Refute it at one input. -/
def aspathPutsWrong : ChangeSpec := { name := "aspathPuts", fn := fun _ => fun
  | [d1, d2] => { results := [.lit (.bool false)], args := [d1, d2] }
  | _ => none }
def AspathPutsWrongFalsely : Prop := aspathPutsRow.holds Tryd.pinned (OpenSpec.ofChange aspathPutsWrong)

/-- 'speculumlaw03.AspathReads': WHATEVER THE INPUT: true; the input reads as it did. -/
def aspathReadsSpec : ChangeSpec := { name := "aspathReads", fn := fun _ => fun
  | [d1, d2] => { results := [.lit (.bool true)], args := [d1, d2] }
  | _ => none }
def aspathReadsRow : OpenClaim := { program := "ytiegfellgnfiiaadoor", sum := "59564cba610577b6eec492da9d5a921f750b531a2bbdfc98fbfa968d85e0d3dd", func := "speculum/speculumlaw03.AspathReads", spec := "aspathReads", inPlace := ["internal/abi.NoEscape", "internal/bytealg.MakeNoZero"], unfollowed := true, recurses := true, named := ["speculum/octet.digits"], apart := false, laid := [("speculum/octet.digits", laid_speculum_octet_digits)] }
def AspathReadsSaid : Prop := aspathReadsRow.holds Tryd.pinned (OpenSpec.ofChange aspathReadsSpec)

/-- ITS FALSE NEIGHBOUR: 'it returns false'. Refute it at one input. -/
def aspathReadsWrong : ChangeSpec := { name := "aspathReads", fn := fun _ => fun
  | [d1, d2] => { results := [.lit (.bool false)], args := [d1, d2] }
  | _ => none }
def AspathReadsWrongFalsely : Prop := aspathReadsRow.holds Tryd.pinned (OpenSpec.ofChange aspathReadsWrong)

/-- 'speculumlaw03.AspathMerges': WHATEVER THE INPUT: true; the input reads as it did. -/
def aspathMergesSpec : ChangeSpec := { name := "aspathMerges", fn := fun _ => fun
  | [d1, d2] => { results := [.lit (.bool true)], args := [d1, d2] }
  | _ => none }
def aspathMergesRow : OpenClaim := { program := "ytiegfellgnfiiaadoor", sum := "59564cba610577b6eec492da9d5a921f750b531a2bbdfc98fbfa968d85e0d3dd", func := "speculum/speculumlaw03.AspathMerges", spec := "aspathMerges", inPlace := ["internal/abi.NoEscape", "internal/bytealg.MakeNoZero"], unfollowed := true, recurses := true, named := ["speculum/octet.digits"], apart := false, laid := [("speculum/octet.digits", laid_speculum_octet_digits)] }
def AspathMergesSaid : Prop := aspathMergesRow.holds Tryd.pinned (OpenSpec.ofChange aspathMergesSpec)

/-- ITS FALSE NEIGHBOUR: 'it returns false'. Refute it at one input. -/
def aspathMergesWrong : ChangeSpec := { name := "aspathMerges", fn := fun _ => fun
  | [d1, d2] => { results := [.lit (.bool false)], args := [d1, d2] }
  | _ => none }
def AspathMergesWrongFalsely : Prop := aspathMergesRow.holds Tryd.pinned (OpenSpec.ofChange aspathMergesWrong)

/- THE SECOND FORM. 'bulk': how many values and letters a reading holds, each counted each time it is reached (what is shared counts as often as it is met; a slice's spare places count too). A statement '..UptoSaid' is the law's where the arguments, and the package variables that the reading takes, are together of bulk at most 1048576: NARROWER than '..Said'. Prove '..Said' where nothing that the law and all that it calls make is longer than what came in: it says more and counts as full. Else prove '..UptoSaid'. A law counts once. -/
mutual
def uptoBulk {H : Type} : DataW H → Nat
  | .lit (.string bytes) => bytes.length + 1
  | .lit _ => 1
  | .nil => 1
  | .ptr d => uptoBulk d + 1
  | .slice elems spare => uptoBulkAll elems + uptoBulkAll spare + 1
  | .agg parts => uptoBulkAll parts + 1
  | .iface _ d => uptoBulk d + 1
  | .map entries => uptoBulkEntries entries + 1
  | .held _ => 1
def uptoBulkAll {H : Type} : List (DataW H) → Nat
  | [] => 0
  | d :: r => uptoBulk d + uptoBulkAll r
def uptoBulkEntries {H : Type} : List (Lit × DataW H) → Nat
  | [] => 0
  | x :: r => uptoBulkEntry x + uptoBulkEntries r
def uptoBulkEntry {H : Type} : Lit × DataW H → Nat
  | (.string bytes, d) => bytes.length + uptoBulk d + 1
  | (_, d) => uptoBulk d + 1
 end
def uptoSmall : (H : Type) → List (DataW H) → Bool := fun _ ds => decide (uptoBulkAll ds ≤ 1048576)
def OpenSpec.upto (s : _root_.Go.ChangeSpec) : _root_.Go.OpenSpec := { _root_.Go.OpenSpec.ofChange s with cond := some uptoSmall }

/-- 'speculumlaw03.AspathParts', WHERE WHAT IT READS IS OF BULK AT MOST 1048576: true; the input reads as it did. -/
def aspathPartsUptoRow : OpenClaim := { program := "ytiegfellgnfiiaadoor", sum := "59564cba610577b6eec492da9d5a921f750b531a2bbdfc98fbfa968d85e0d3dd", func := "speculum/speculumlaw03.AspathParts", spec := "aspathParts", inPlace := ["internal/abi.NoEscape", "internal/bytealg.MakeNoZero"], unfollowed := true, recurses := true, named := ["speculum/octet.digits"], apart := false, laid := [("speculum/octet.digits", laid_speculum_octet_digits)], narrowed := true }
def AspathPartsUptoSaid : Prop := aspathPartsUptoRow.holds Tryd.pinned (OpenSpec.upto aspathPartsSpec)

/-- 'speculumlaw03.AspathSame', WHERE WHAT IT READS IS OF BULK AT MOST 1048576: true; the input reads as it did. -/
def aspathSameUptoRow : OpenClaim := { program := "ytiegfellgnfiiaadoor", sum := "59564cba610577b6eec492da9d5a921f750b531a2bbdfc98fbfa968d85e0d3dd", func := "speculum/speculumlaw03.AspathSame", spec := "aspathSame", inPlace := ["internal/abi.NoEscape", "internal/bytealg.MakeNoZero"], unfollowed := true, recurses := true, named := ["speculum/octet.digits"], apart := false, laid := [("speculum/octet.digits", laid_speculum_octet_digits)], narrowed := true }
def AspathSameUptoSaid : Prop := aspathSameUptoRow.holds Tryd.pinned (OpenSpec.upto aspathSameSpec)

/-- 'speculumlaw03.AspathPrepends', WHERE WHAT IT READS IS OF BULK AT MOST 1048576: true; the input reads as it did. -/
def aspathPrependsUptoRow : OpenClaim := { program := "ytiegfellgnfiiaadoor", sum := "59564cba610577b6eec492da9d5a921f750b531a2bbdfc98fbfa968d85e0d3dd", func := "speculum/speculumlaw03.AspathPrepends", spec := "aspathPrepends", inPlace := ["internal/abi.NoEscape", "internal/bytealg.MakeNoZero", "slices.overlaps[uint32]", "slices.overlaps[speculum/api.Segment]"], unfollowed := true, recurses := true, named := ["speculum/octet.digits"], apart := false, laid := [("speculum/octet.digits", laid_speculum_octet_digits)], narrowed := true }
def AspathPrependsUptoSaid : Prop := aspathPrependsUptoRow.holds Tryd.pinned (OpenSpec.upto aspathPrependsSpec)

/-- 'speculumlaw03.AspathTexts', WHERE WHAT IT READS IS OF BULK AT MOST 1048576: true; the input reads as it did. -/
def aspathTextsUptoRow : OpenClaim := { program := "ytiegfellgnfiiaadoor", sum := "59564cba610577b6eec492da9d5a921f750b531a2bbdfc98fbfa968d85e0d3dd", func := "speculum/speculumlaw03.AspathTexts", spec := "aspathTexts", inPlace := ["internal/abi.NoEscape", "internal/bytealg.MakeNoZero"], unfollowed := true, recurses := true, named := ["speculum/octet.digits"], apart := false, laid := [("speculum/octet.digits", laid_speculum_octet_digits)], narrowed := true }
def AspathTextsUptoSaid : Prop := aspathTextsUptoRow.holds Tryd.pinned (OpenSpec.upto aspathTextsSpec)

/-- 'speculumlaw03.AspathParses', WHERE WHAT IT READS IS OF BULK AT MOST 1048576: true; the input reads as it did. -/
def aspathParsesUptoRow : OpenClaim := { program := "ytiegfellgnfiiaadoor", sum := "59564cba610577b6eec492da9d5a921f750b531a2bbdfc98fbfa968d85e0d3dd", func := "speculum/speculumlaw03.AspathParses", spec := "aspathParses", inPlace := ["internal/abi.NoEscape", "internal/bytealg.MakeNoZero"], unfollowed := true, recurses := true, named := ["speculum/octet.digits"], apart := false, laid := [("speculum/octet.digits", laid_speculum_octet_digits)], narrowed := true }
def AspathParsesUptoSaid : Prop := aspathParsesUptoRow.holds Tryd.pinned (OpenSpec.upto aspathParsesSpec)

/-- 'speculumlaw03.AspathPuts', WHERE WHAT IT READS IS OF BULK AT MOST 1048576: true; the input reads as it did. -/
def aspathPutsUptoRow : OpenClaim := { program := "ytiegfellgnfiiaadoor", sum := "59564cba610577b6eec492da9d5a921f750b531a2bbdfc98fbfa968d85e0d3dd", func := "speculum/speculumlaw03.AspathPuts", spec := "aspathPuts", inPlace := ["internal/abi.NoEscape", "internal/bytealg.MakeNoZero"], unfollowed := true, recurses := true, named := ["speculum/octet.digits"], apart := false, laid := [("speculum/octet.digits", laid_speculum_octet_digits)], narrowed := true }
def AspathPutsUptoSaid : Prop := aspathPutsUptoRow.holds Tryd.pinned (OpenSpec.upto aspathPutsSpec)

/-- 'speculumlaw03.AspathReads', WHERE WHAT IT READS IS OF BULK AT MOST 1048576: true; the input reads as it did. -/
def aspathReadsUptoRow : OpenClaim := { program := "ytiegfellgnfiiaadoor", sum := "59564cba610577b6eec492da9d5a921f750b531a2bbdfc98fbfa968d85e0d3dd", func := "speculum/speculumlaw03.AspathReads", spec := "aspathReads", inPlace := ["internal/abi.NoEscape", "internal/bytealg.MakeNoZero"], unfollowed := true, recurses := true, named := ["speculum/octet.digits"], apart := false, laid := [("speculum/octet.digits", laid_speculum_octet_digits)], narrowed := true }
def AspathReadsUptoSaid : Prop := aspathReadsUptoRow.holds Tryd.pinned (OpenSpec.upto aspathReadsSpec)

/-- 'speculumlaw03.AspathMerges', WHERE WHAT IT READS IS OF BULK AT MOST 1048576: true; the input reads as it did. -/
def aspathMergesUptoRow : OpenClaim := { program := "ytiegfellgnfiiaadoor", sum := "59564cba610577b6eec492da9d5a921f750b531a2bbdfc98fbfa968d85e0d3dd", func := "speculum/speculumlaw03.AspathMerges", spec := "aspathMerges", inPlace := ["internal/abi.NoEscape", "internal/bytealg.MakeNoZero"], unfollowed := true, recurses := true, named := ["speculum/octet.digits"], apart := false, laid := [("speculum/octet.digits", laid_speculum_octet_digits)], narrowed := true }
def AspathMergesUptoSaid : Prop := aspathMergesUptoRow.holds Tryd.pinned (OpenSpec.upto aspathMergesSpec)

end Rows
end Go.Proofs.YtiegfellgnfiiaaDoor

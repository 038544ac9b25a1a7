/-
  NARROWER THAN 'FOR EVERY INPUT', by the rows' own cells (each row's printed sentence says how): PrefixBits: laid · PrefixCovers: laid · PrefixOrder: laid · PrefixTexts: laid · PrefixParses: laid · PrefixPuts: laid.
  DERIVED. THE GIVEN ROWS OF THIS SEAT. 6 by the template 'for every input the law returns true; each argument reads behind the call as it read before'; 0 by the template 'total and deterministic' (their statements: YtfdeafjkiagjfaaDoorTotals.lean).
  GIVEN WITH THE SEED: the statements are not yours to turn. If you find one false, say at which input.
  Laid BY PROGRAM, IN A SANDBOX (cutbox-rows.mjs): the forced cells as the released guide's own fill.sh prints them over the translation 4b2e9ca80ca7c396… (all of the seat's roots in one cut). By AI agents, Wed Nov 11 2026. No macro, syntax, notation, axiom, sorry.
-/
import Derived.Test.YtfdeafjkiagjfaaDoorChecked
import GoSem.Claim
import GoSem.ClaimJoined
import GoSem.ClaimMapViews
import Derived.JoinedTies
import Derived.KernelRfl
namespace Go.Proofs.YtfdeafjkiagjfaaDoor
/- THE CELL 'sum', in the pinned program and in every row, IS THE sha256 OF THE DUMP (.gsa) THAT YtfdeafjkiagjfaaDoorProg.lean LOADS. Nothing in Lean hashes anything: it is a label: what it is worth is what the hold of that sum in a sandbox is worth. -/
noncomputable def Tryd.pinned : Pinned := { name := "ytfdeafjkiagjfaadoor", sum := "4b2e9ca80ca7c396c1fe38b4b3fb2e5a076bf849fdf5ef9e700392675a620c1f", checked := Tryd.checked }
namespace Rows
def none {H : Type} : Left H := { results := [], args := [] }

/- WHAT THE LISTED PACKAGE-LEVEL VARIABLES READ AS WHEN THE CALL BEGINS. Each datum BY PROGRAM (the guide's laid-datum.mjs) off the statement by which the dump's own 'gosem.cut.vars' lays the variable. In a bare row this is a premise. The card (YtfdeafjkiagjfaaDoorCards.lean) ties it to the program's text. -/
def laid_speculum_octet_digits {H : Type} : DataW H := .agg [.lit (.int .u8 48), .lit (.int .u8 49), .lit (.int .u8 50), .lit (.int .u8 51), .lit (.int .u8 52), .lit (.int .u8 53), .lit (.int .u8 54), .lit (.int .u8 55), .lit (.int .u8 56), .lit (.int .u8 57), .lit (.int .u8 97), .lit (.int .u8 98), .lit (.int .u8 99), .lit (.int .u8 100), .lit (.int .u8 101), .lit (.int .u8 102)]

/-- 'speculumlaw02.PrefixBits': WHATEVER THE INPUT: true; the input reads as it did. -/
def prefixBitsSpec : ChangeSpec := { name := "prefixBits", fn := fun _ => fun
  | [d1, d2, d3] => { results := [.lit (.bool true)], args := [d1, d2, d3] }
  | _ => none }
def prefixBitsRow : OpenClaim := { program := "ytfdeafjkiagjfaadoor", sum := "4b2e9ca80ca7c396c1fe38b4b3fb2e5a076bf849fdf5ef9e700392675a620c1f", func := "speculum/speculumlaw02.PrefixBits", spec := "prefixBits", named := ["speculum/octet.digits"], apart := false, laid := [("speculum/octet.digits", laid_speculum_octet_digits)] }
def PrefixBitsSaid : Prop := prefixBitsRow.holds Tryd.pinned (OpenSpec.ofChange prefixBitsSpec)

/-- ITS FALSE NEIGHBOUR: 'it returns false'. Refute it at one input. -/
def prefixBitsWrong : ChangeSpec := { name := "prefixBits", fn := fun _ => fun
  | [d1, d2, d3] => { results := [.lit (.bool false)], args := [d1, d2, d3] }
  | _ => none }
def PrefixBitsWrongFalsely : Prop := prefixBitsRow.holds Tryd.pinned (OpenSpec.ofChange prefixBitsWrong)

/-- 'speculumlaw02.PrefixCovers': WHATEVER THE INPUT: true; the input reads as it did. -/
def prefixCoversSpec : ChangeSpec := { name := "prefixCovers", fn := fun _ => fun
  | [d1, d2, d3] => { results := [.lit (.bool true)], args := [d1, d2, d3] }
  | _ => none }
def prefixCoversRow : OpenClaim := { program := "ytfdeafjkiagjfaadoor", sum := "4b2e9ca80ca7c396c1fe38b4b3fb2e5a076bf849fdf5ef9e700392675a620c1f", func := "speculum/speculumlaw02.PrefixCovers", spec := "prefixCovers", named := ["speculum/octet.digits"], apart := false, laid := [("speculum/octet.digits", laid_speculum_octet_digits)] }
def PrefixCoversSaid : Prop := prefixCoversRow.holds Tryd.pinned (OpenSpec.ofChange prefixCoversSpec)

/-- ITS FALSE NEIGHBOUR: 'it returns false'. Refute it at one input. -/
def prefixCoversWrong : ChangeSpec := { name := "prefixCovers", fn := fun _ => fun
  | [d1, d2, d3] => { results := [.lit (.bool false)], args := [d1, d2, d3] }
  | _ => none }
def PrefixCoversWrongFalsely : Prop := prefixCoversRow.holds Tryd.pinned (OpenSpec.ofChange prefixCoversWrong)

/-- 'speculumlaw02.PrefixOrder': WHATEVER THE INPUT: true; the input reads as it did. -/
def prefixOrderSpec : ChangeSpec := { name := "prefixOrder", fn := fun _ => fun
  | [d1, d2, d3] => { results := [.lit (.bool true)], args := [d1, d2, d3] }
  | _ => none }
def prefixOrderRow : OpenClaim := { program := "ytfdeafjkiagjfaadoor", sum := "4b2e9ca80ca7c396c1fe38b4b3fb2e5a076bf849fdf5ef9e700392675a620c1f", func := "speculum/speculumlaw02.PrefixOrder", spec := "prefixOrder", named := ["speculum/octet.digits"], apart := false, laid := [("speculum/octet.digits", laid_speculum_octet_digits)] }
def PrefixOrderSaid : Prop := prefixOrderRow.holds Tryd.pinned (OpenSpec.ofChange prefixOrderSpec)

/-- ITS FALSE NEIGHBOUR: 'it returns false'. Refute it at one input. -/
def prefixOrderWrong : ChangeSpec := { name := "prefixOrder", fn := fun _ => fun
  | [d1, d2, d3] => { results := [.lit (.bool false)], args := [d1, d2, d3] }
  | _ => none }
def PrefixOrderWrongFalsely : Prop := prefixOrderRow.holds Tryd.pinned (OpenSpec.ofChange prefixOrderWrong)

/-- 'speculumlaw02.PrefixTexts': WHATEVER THE INPUT: true; the input reads as it did. -/
def prefixTextsSpec : ChangeSpec := { name := "prefixTexts", fn := fun _ => fun
  | [d1, d2] => { results := [.lit (.bool true)], args := [d1, d2] }
  | _ => none }
def prefixTextsRow : OpenClaim := { program := "ytfdeafjkiagjfaadoor", sum := "4b2e9ca80ca7c396c1fe38b4b3fb2e5a076bf849fdf5ef9e700392675a620c1f", func := "speculum/speculumlaw02.PrefixTexts", spec := "prefixTexts", named := ["speculum/octet.digits"], apart := false, laid := [("speculum/octet.digits", laid_speculum_octet_digits)] }
def PrefixTextsSaid : Prop := prefixTextsRow.holds Tryd.pinned (OpenSpec.ofChange prefixTextsSpec)

/-- ITS FALSE NEIGHBOUR: 'it returns false'. Refute it at one input. -/
def prefixTextsWrong : ChangeSpec := { name := "prefixTexts", fn := fun _ => fun
  | [d1, d2] => { results := [.lit (.bool false)], args := [d1, d2] }
  | _ => none }
def PrefixTextsWrongFalsely : Prop := prefixTextsRow.holds Tryd.pinned (OpenSpec.ofChange prefixTextsWrong)

/-- 'speculumlaw02.PrefixParses': WHATEVER THE INPUT: true; the input reads as it did. -/
def prefixParsesSpec : ChangeSpec := { name := "prefixParses", fn := fun _ => fun
  | [d] => { results := [.lit (.bool true)], args := [d] }
  | _ => none }
def prefixParsesRow : OpenClaim := { program := "ytfdeafjkiagjfaadoor", sum := "4b2e9ca80ca7c396c1fe38b4b3fb2e5a076bf849fdf5ef9e700392675a620c1f", func := "speculum/speculumlaw02.PrefixParses", spec := "prefixParses", named := ["speculum/octet.digits"], apart := false, laid := [("speculum/octet.digits", laid_speculum_octet_digits)] }
def PrefixParsesSaid : Prop := prefixParsesRow.holds Tryd.pinned (OpenSpec.ofChange prefixParsesSpec)

/-- ITS FALSE NEIGHBOUR: 'it returns false'. Refute it at one input. -/
def prefixParsesWrong : ChangeSpec := { name := "prefixParses", fn := fun _ => fun
  | [d] => { results := [.lit (.bool false)], args := [d] }
  | _ => none }
def PrefixParsesWrongFalsely : Prop := prefixParsesRow.holds Tryd.pinned (OpenSpec.ofChange prefixParsesWrong)

/-- 'speculumlaw02.PrefixPuts': WHATEVER THE INPUT: true; the input reads as it did. -/
def prefixPutsSpec : ChangeSpec := { name := "prefixPuts", fn := fun _ => fun
  | [d1, d2, d3] => { results := [.lit (.bool true)], args := [d1, d2, d3] }
  | _ => none }
def prefixPutsRow : OpenClaim := { program := "ytfdeafjkiagjfaadoor", sum := "4b2e9ca80ca7c396c1fe38b4b3fb2e5a076bf849fdf5ef9e700392675a620c1f", func := "speculum/speculumlaw02.PrefixPuts", spec := "prefixPuts", named := ["speculum/octet.digits"], apart := false, laid := [("speculum/octet.digits", laid_speculum_octet_digits)] }
def PrefixPutsSaid : Prop := prefixPutsRow.holds Tryd.pinned (OpenSpec.ofChange prefixPutsSpec)

/-- ITS FALSE NEIGHBOUR: 'it returns false'. Refute it at one input. -/
def prefixPutsWrong : ChangeSpec := { name := "prefixPuts", fn := fun _ => fun
  | [d1, d2, d3] => { results := [.lit (.bool false)], args := [d1, d2, d3] }
  | _ => none }
def PrefixPutsWrongFalsely : Prop := prefixPutsRow.holds Tryd.pinned (OpenSpec.ofChange prefixPutsWrong)

/- THE SECOND FORM. 'bulk': how many values and letters a reading holds, each counted each time it is reached (what is shared counts as often as it is met; a slice's spare places count too). A statement '..UptoSaid' is the law's where the arguments, and the package variables that the reading takes, are together of bulk at most 1048576: NARROWER than '..Said'. Prove '..Said' where nothing that the law and all that it calls make is longer than what came in: it says more and counts as full. Else prove '..UptoSaid'. A law counts once. -/
mutual
def uptoBulk {H : Type} : DataW H → Nat
  | .lit (.string bytes) => bytes.length + 1
  | .lit _ => 1
  | .nil => 1
  | .ptr d => uptoBulk d + 1
  | .slice elems spare => uptoBulkAll elems + uptoBulkAll spare + 1
  | .agg parts => uptoBulkAll parts + 1
  | .iface _ d => uptoBulk d + 1
  | .map entries => uptoBulkEntries entries + 1
  | .held _ => 1
def uptoBulkAll {H : Type} : List (DataW H) → Nat
  | [] => 0
  | d :: r => uptoBulk d + uptoBulkAll r
def uptoBulkEntries {H : Type} : List (Lit × DataW H) → Nat
  | [] => 0
  | x :: r => uptoBulkEntry x + uptoBulkEntries r
def uptoBulkEntry {H : Type} : Lit × DataW H → Nat
  | (.string bytes, d) => bytes.length + uptoBulk d + 1
  | (_, d) => uptoBulk d + 1
 end
def uptoSmall : (H : Type) → List (DataW H) → Bool := fun _ ds => decide (uptoBulkAll ds ≤ 1048576)
def OpenSpec.upto (s : _root_.Go.ChangeSpec) : _root_.Go.OpenSpec := { _root_.Go.OpenSpec.ofChange s with cond := some uptoSmall }

/-- 'speculumlaw02.PrefixBits', WHERE WHAT IT READS IS OF BULK AT MOST 1048576: true; the input reads as it did. -/
def prefixBitsUptoRow : OpenClaim := { program := "ytfdeafjkiagjfaadoor", sum := "4b2e9ca80ca7c396c1fe38b4b3fb2e5a076bf849fdf5ef9e700392675a620c1f", func := "speculum/speculumlaw02.PrefixBits", spec := "prefixBits", named := ["speculum/octet.digits"], apart := false, laid := [("speculum/octet.digits", laid_speculum_octet_digits)], narrowed := true }
def PrefixBitsUptoSaid : Prop := prefixBitsUptoRow.holds Tryd.pinned (OpenSpec.upto prefixBitsSpec)

/-- 'speculumlaw02.PrefixCovers', WHERE WHAT IT READS IS OF BULK AT MOST 1048576: true; the input reads as it did. -/
def prefixCoversUptoRow : OpenClaim := { program := "ytfdeafjkiagjfaadoor", sum := "4b2e9ca80ca7c396c1fe38b4b3fb2e5a076bf849fdf5ef9e700392675a620c1f", func := "speculum/speculumlaw02.PrefixCovers", spec := "prefixCovers", named := ["speculum/octet.digits"], apart := false, laid := [("speculum/octet.digits", laid_speculum_octet_digits)], narrowed := true }
def PrefixCoversUptoSaid : Prop := prefixCoversUptoRow.holds Tryd.pinned (OpenSpec.upto prefixCoversSpec)

/-- 'speculumlaw02.PrefixOrder', WHERE WHAT IT READS IS OF BULK AT MOST 1048576: true; the input reads as it did. -/
def prefixOrderUptoRow : OpenClaim := { program := "ytfdeafjkiagjfaadoor", sum := "4b2e9ca80ca7c396c1fe38b4b3fb2e5a076bf849fdf5ef9e700392675a620c1f", func := "speculum/speculumlaw02.PrefixOrder", spec := "prefixOrder", named := ["speculum/octet.digits"], apart := false, laid := [("speculum/octet.digits", laid_speculum_octet_digits)], narrowed := true }
def PrefixOrderUptoSaid : Prop := prefixOrderUptoRow.holds Tryd.pinned (OpenSpec.upto prefixOrderSpec)

/-- 'speculumlaw02.PrefixTexts', WHERE WHAT IT READS IS OF BULK AT MOST 1048576: true; the input reads as it did. -/
def prefixTextsUptoRow : OpenClaim := { program := "ytfdeafjkiagjfaadoor", sum := "4b2e9ca80ca7c396c1fe38b4b3fb2e5a076bf849fdf5ef9e700392675a620c1f", func := "speculum/speculumlaw02.PrefixTexts", spec := "prefixTexts", named := ["speculum/octet.digits"], apart := false, laid := [("speculum/octet.digits", laid_speculum_octet_digits)], narrowed := true }
def PrefixTextsUptoSaid : Prop := prefixTextsUptoRow.holds Tryd.pinned (OpenSpec.upto prefixTextsSpec)

/-- 'speculumlaw02.PrefixParses', WHERE WHAT IT READS IS OF BULK AT MOST 1048576: true; the input reads as it did. -/
def prefixParsesUptoRow : OpenClaim := { program := "ytfdeafjkiagjfaadoor", sum := "4b2e9ca80ca7c396c1fe38b4b3fb2e5a076bf849fdf5ef9e700392675a620c1f", func := "speculum/speculumlaw02.PrefixParses", spec := "prefixParses", named := ["speculum/octet.digits"], apart := false, laid := [("speculum/octet.digits", laid_speculum_octet_digits)], narrowed := true }
def PrefixParsesUptoSaid : Prop := prefixParsesUptoRow.holds Tryd.pinned (OpenSpec.upto prefixParsesSpec)

/-- 'speculumlaw02.PrefixPuts', WHERE WHAT IT READS IS OF BULK AT MOST 1048576: true; the input reads as it did. -/
def prefixPutsUptoRow : OpenClaim := { program := "ytfdeafjkiagjfaadoor", sum := "4b2e9ca80ca7c396c1fe38b4b3fb2e5a076bf849fdf5ef9e700392675a620c1f", func := "speculum/speculumlaw02.PrefixPuts", spec := "prefixPuts", named := ["speculum/octet.digits"], apart := false, laid := [("speculum/octet.digits", laid_speculum_octet_digits)], narrowed := true }
def PrefixPutsUptoSaid : Prop := prefixPutsUptoRow.holds Tryd.pinned (OpenSpec.upto prefixPutsSpec)

end Rows
end Go.Proofs.YtfdeafjkiagjfaaDoor

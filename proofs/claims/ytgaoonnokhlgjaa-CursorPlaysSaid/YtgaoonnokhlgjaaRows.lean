/-
  No cell of these rows narrows 'for every input' (looked for: loops, veiled, ifaces, maps, wideKeys, modest, calm, conditions, laid).
  DERIVED. THE GIVEN ROWS OF THIS SEAT. 4 by the template 'for every input the law returns true; each argument reads behind the call as it read before'; 0 by the template 'total and deterministic' (their statements: YtgaoonnokhlgjaaTotals.lean).
  GIVEN WITH THE SEED: the statements are not yours to turn. If you find one false, say at which input.
  Laid BY PROGRAM, IN A SANDBOX (cutbox-rows.mjs): the forced cells as the released guide's own fill.sh prints them over the translation 2c1d1213c49c6a46… (all of the seat's roots in one cut). By AI agents, Wed Nov 11 2026. No macro, syntax, notation, axiom, sorry.
-/
import Derived.Test.YtgaoonnokhlgjaaChecked
import GoSem.Claim
import GoSem.ClaimJoined
import GoSem.ClaimMapViews
import Derived.JoinedTies
import Derived.KernelRfl
namespace Go.Proofs.Ytgaoonnokhlgjaa
/- THE CELL 'sum', in the pinned program and in every row, IS THE sha256 OF THE DUMP (.gsa) THAT YtgaoonnokhlgjaaProg.lean LOADS. Nothing in Lean hashes anything: it is a label: what it is worth is what the hold of that sum in a sandbox is worth. -/
noncomputable def Try.pinned : Pinned := { name := "ytgaoonnokhlgjaa", sum := "2c1d1213c49c6a46ec36ff4901a002cd573b54f8e7605424202318dfb2917c82", checked := Try.checked }
namespace Rows
def none {H : Type} : Left H := { results := [], args := [] }

/-- 'speculumlaw26.CursorPlays': WHATEVER THE INPUT: true; the input reads as it did. -/
def cursorPlaysSpec : ChangeSpec := { name := "cursorPlays", fn := fun _ => fun
  | [d1, d2, d3] => { results := [.lit (.bool true)], args := [d1, d2, d3] }
  | _ => none }
def cursorPlaysRow : OpenClaim := { program := "ytgaoonnokhlgjaa", sum := "2c1d1213c49c6a46ec36ff4901a002cd573b54f8e7605424202318dfb2917c82", func := "speculum/speculumlaw26.CursorPlays", spec := "cursorPlays", unfollowed := true, recurses := true, apart := false }
def CursorPlaysSaid : Prop := cursorPlaysRow.holds Try.pinned (OpenSpec.ofChange cursorPlaysSpec)

/-- ITS FALSE NEIGHBOUR: 'it returns false'. Refute it at one input. -/
def cursorPlaysWrong : ChangeSpec := { name := "cursorPlays", fn := fun _ => fun
  | [d1, d2, d3] => { results := [.lit (.bool false)], args := [d1, d2, d3] }
  | _ => none }
def CursorPlaysWrongFalsely : Prop := cursorPlaysRow.holds Try.pinned (OpenSpec.ofChange cursorPlaysWrong)

/-- 'speculumlaw26.CursorBounds': WHATEVER THE INPUT: true; the input reads as it did. -/
def cursorBoundsSpec : ChangeSpec := { name := "cursorBounds", fn := fun _ => fun
  | [d1, d2, d3] => { results := [.lit (.bool true)], args := [d1, d2, d3] }
  | _ => none }
def cursorBoundsRow : OpenClaim := { program := "ytgaoonnokhlgjaa", sum := "2c1d1213c49c6a46ec36ff4901a002cd573b54f8e7605424202318dfb2917c82", func := "speculum/speculumlaw26.CursorBounds", spec := "cursorBounds", unfollowed := true, recurses := true, apart := false }
def CursorBoundsSaid : Prop := cursorBoundsRow.holds Try.pinned (OpenSpec.ofChange cursorBoundsSpec)

/-- ITS FALSE NEIGHBOUR: 'it returns false'. Refute it at one input. -/
def cursorBoundsWrong : ChangeSpec := { name := "cursorBounds", fn := fun _ => fun
  | [d1, d2, d3] => { results := [.lit (.bool false)], args := [d1, d2, d3] }
  | _ => none }
def CursorBoundsWrongFalsely : Prop := cursorBoundsRow.holds Try.pinned (OpenSpec.ofChange cursorBoundsWrong)

/-- 'speculumlaw26.CursorLives': WHATEVER THE INPUT: true; the input reads as it did. -/
def cursorLivesSpec : ChangeSpec := { name := "cursorLives", fn := fun _ => fun
  | [d1, d2] => { results := [.lit (.bool true)], args := [d1, d2] }
  | _ => none }
def cursorLivesRow : OpenClaim := { program := "ytgaoonnokhlgjaa", sum := "2c1d1213c49c6a46ec36ff4901a002cd573b54f8e7605424202318dfb2917c82", func := "speculum/speculumlaw26.CursorLives", spec := "cursorLives", unfollowed := true, recurses := true, apart := false }
def CursorLivesSaid : Prop := cursorLivesRow.holds Try.pinned (OpenSpec.ofChange cursorLivesSpec)

/-- ITS FALSE NEIGHBOUR: 'it returns false'. Refute it at one input. -/
def cursorLivesWrong : ChangeSpec := { name := "cursorLives", fn := fun _ => fun
  | [d1, d2] => { results := [.lit (.bool false)], args := [d1, d2] }
  | _ => none }
def CursorLivesWrongFalsely : Prop := cursorLivesRow.holds Try.pinned (OpenSpec.ofChange cursorLivesWrong)

/-- 'speculumlaw26.CursorNobody': WHATEVER THE INPUT: true; the input reads as it did. -/
def cursorNobodySpec : ChangeSpec := { name := "cursorNobody", fn := fun _ => fun
  | [d1, d2] => { results := [.lit (.bool true)], args := [d1, d2] }
  | _ => none }
def cursorNobodyRow : OpenClaim := { program := "ytgaoonnokhlgjaa", sum := "2c1d1213c49c6a46ec36ff4901a002cd573b54f8e7605424202318dfb2917c82", func := "speculum/speculumlaw26.CursorNobody", spec := "cursorNobody", unfollowed := true, recurses := true, apart := false }
def CursorNobodySaid : Prop := cursorNobodyRow.holds Try.pinned (OpenSpec.ofChange cursorNobodySpec)

/-- ITS FALSE NEIGHBOUR: 'it returns false'. Refute it at one input. -/
def cursorNobodyWrong : ChangeSpec := { name := "cursorNobody", fn := fun _ => fun
  | [d1, d2] => { results := [.lit (.bool false)], args := [d1, d2] }
  | _ => none }
def CursorNobodyWrongFalsely : Prop := cursorNobodyRow.holds Try.pinned (OpenSpec.ofChange cursorNobodyWrong)

/- THE SECOND FORM. 'bulk': how many values and letters a reading holds, each counted each time it is reached (what is shared counts as often as it is met; a slice's spare places count too). A statement '..UptoSaid' is the law's where the arguments, and the package variables that the reading takes, are together of bulk at most 1048576: NARROWER than '..Said'. Prove '..Said' where nothing that the law and all that it calls make is longer than what came in: it says more and counts as full. Else prove '..UptoSaid'. A law counts once. -/
mutual
def uptoBulk {H : Type} : DataW H → Nat
  | .lit (.string bytes) => bytes.length + 1
  | .lit _ => 1
  | .nil => 1
  | .ptr d => uptoBulk d + 1
  | .slice elems spare => uptoBulkAll elems + uptoBulkAll spare + 1
  | .agg parts => uptoBulkAll parts + 1
  | .iface _ d => uptoBulk d + 1
  | .map entries => uptoBulkEntries entries + 1
  | .held _ => 1
def uptoBulkAll {H : Type} : List (DataW H) → Nat
  | [] => 0
  | d :: r => uptoBulk d + uptoBulkAll r
def uptoBulkEntries {H : Type} : List (Lit × DataW H) → Nat
  | [] => 0
  | x :: r => uptoBulkEntry x + uptoBulkEntries r
def uptoBulkEntry {H : Type} : Lit × DataW H → Nat
  | (.string bytes, d) => bytes.length + uptoBulk d + 1
  | (_, d) => uptoBulk d + 1
 end
def uptoSmall : (H : Type) → List (DataW H) → Bool := fun _ ds => decide (uptoBulkAll ds ≤ 1048576)
def OpenSpec.upto (s : _root_.Go.ChangeSpec) : _root_.Go.OpenSpec := { _root_.Go.OpenSpec.ofChange s with cond := some uptoSmall }

/-- 'speculumlaw26.CursorPlays', WHERE WHAT IT READS IS OF BULK AT MOST 1048576: true; the input reads as it did. -/
def cursorPlaysUptoRow : OpenClaim := { program := "ytgaoonnokhlgjaa", sum := "2c1d1213c49c6a46ec36ff4901a002cd573b54f8e7605424202318dfb2917c82", func := "speculum/speculumlaw26.CursorPlays", spec := "cursorPlays", unfollowed := true, recurses := true, apart := false, narrowed := true }
def CursorPlaysUptoSaid : Prop := cursorPlaysUptoRow.holds Try.pinned (OpenSpec.upto cursorPlaysSpec)

/-- 'speculumlaw26.CursorBounds', WHERE WHAT IT READS IS OF BULK AT MOST 1048576: true; the input reads as it did. -/
def cursorBoundsUptoRow : OpenClaim := { program := "ytgaoonnokhlgjaa", sum := "2c1d1213c49c6a46ec36ff4901a002cd573b54f8e7605424202318dfb2917c82", func := "speculum/speculumlaw26.CursorBounds", spec := "cursorBounds", unfollowed := true, recurses := true, apart := false, narrowed := true }
def CursorBoundsUptoSaid : Prop := cursorBoundsUptoRow.holds Try.pinned (OpenSpec.upto cursorBoundsSpec)

/-- 'speculumlaw26.CursorLives', WHERE WHAT IT READS IS OF BULK AT MOST 1048576: true; the input reads as it did. -/
def cursorLivesUptoRow : OpenClaim := { program := "ytgaoonnokhlgjaa", sum := "2c1d1213c49c6a46ec36ff4901a002cd573b54f8e7605424202318dfb2917c82", func := "speculum/speculumlaw26.CursorLives", spec := "cursorLives", unfollowed := true, recurses := true, apart := false, narrowed := true }
def CursorLivesUptoSaid : Prop := cursorLivesUptoRow.holds Try.pinned (OpenSpec.upto cursorLivesSpec)

/-- 'speculumlaw26.CursorNobody', WHERE WHAT IT READS IS OF BULK AT MOST 1048576: true; the input reads as it did. -/
def cursorNobodyUptoRow : OpenClaim := { program := "ytgaoonnokhlgjaa", sum := "2c1d1213c49c6a46ec36ff4901a002cd573b54f8e7605424202318dfb2917c82", func := "speculum/speculumlaw26.CursorNobody", spec := "cursorNobody", unfollowed := true, recurses := true, apart := false, narrowed := true }
def CursorNobodyUptoSaid : Prop := cursorNobodyUptoRow.holds Try.pinned (OpenSpec.upto cursorNobodySpec)

end Rows
end Go.Proofs.Ytgaoonnokhlgjaa

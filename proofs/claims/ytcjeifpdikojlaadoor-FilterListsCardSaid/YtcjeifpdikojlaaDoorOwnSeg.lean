/-
  A segment with numbers of its own.
-/
import Derived.Test.YtcjeifpdikojlaaDoorOwn3
import Derived.Deep.RegionHeld3
namespace Go.Proofs.YtcjeifpdikojlaaDoor
set_option linter.unusedVariables false
set_option linter.unusedSimpArgs false
open Go.RowKit

theorem below_box {w w' : World} {o : Obj} (hb : Below (w.alloc o).heap.size (w.alloc o) w') : Below w.heap.size w w' :=
  ((Below.refl _ _).alloc (Nat.le_refl _) o).trans (hb.mono (by simp))
theorem cells2 {w : World} {g T : Nat} {u v : Value} (h : Blk w g T [u, v]) : w.cell? ⟨g, 0, none⟩ = some u ∧ w.cell? ⟨g, 1, none⟩ = some v := ⟨h.cell 0, h.cell 1⟩
theorem free2 {w : World} {g T : Nat} {cs : List Value} (h : Blk w g T cs) : w.frozen? ⟨g, 0, none⟩ = false ∧ w.frozen? ⟨g, 1, none⟩ = false := ⟨h.free 0, h.free 1⟩
theorem res_cells {w1 : World} {g T : Nat} {u0 v0 : Value} (u v : Value) (hk : Blk w1 g T [u0, v0]) :
    (w1.setCell ⟨g, 0, none⟩ u).cell? ⟨g, 0, none⟩ = some u ∧ ((w1.setCell ⟨g, 0, none⟩ u).setCell ⟨g, 1, none⟩ v).cell? ⟨g, 1, none⟩ = some v :=
  ⟨(hk.set 0 u).cell 0, ((hk.set 0 u).set 1 v).cell 1⟩

/-- What is the call's own stays, if another block below its own is written. -/
theorem own32_apart {w w' : World} {B g : Nat} {v : Value} {z : List Nat} (h : Own32 w B v z) (hg : w.grownBy w' (some g)) (hB : g < B) : Own32 w' B v z := by
  refine World.ownsRow.kept h hg ?_
  cases he : v.ownBlock with
  | none => exact .inl rfl
  | some k =>
    right
    intro e
    have := (World.ownsRow.lt h k he).1
    have e2 : k = g := by simpa using e
    omega
/-- What a call leaves that returns a segment with numbers of its own. -/
def RetSeg (w : World) (k : Int) (z : List Nat) (e : Ending) (w' : World) : Prop :=
  ∃ A c, e = .returned (.agg #[.int .i64 k, .slice A z.length c]) ∧ z.length ≤ c ∧ c ≤ maxLen ∧ Own32 w' w.heap.size (.slice A z.length c) z ∧ Below w.heap.size w w'

end Go.Proofs.YtcjeifpdikojlaaDoor

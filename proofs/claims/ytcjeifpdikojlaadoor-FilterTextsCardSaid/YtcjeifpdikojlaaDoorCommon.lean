/-
  What two prefixes have in common, by the program.
-/
import Derived.Test.YtcjeifpdikojlaaDoorBits32
import Derived.Test.YtcjeifpdikojlaaDoorOrdBox
import Derived.WalkLawsBesides
namespace Go.Proofs.YtcjeifpdikojlaaDoor
set_option linter.unusedVariables false
set_option linter.unusedSimpArgs false
open Go.RowKit

theorem comP_no {a n b m : Int} (h : okP a n = false ∨ okP b m = false) : comP a n b m = (0, 0) := by
  unfold comP
  rcases h with h | h <;> simp [h]
theorem comP_yes {a n b m : Nat} (h1 : okP (a : Int) (n : Int) = true) (h2 : okP (b : Int) (m : Int) = true) : comP (a : Int) (n : Int) (b : Int) (m : Int) = (hi a (comK a n b m), comK a n b m) := by
  unfold comP
  simp [h1, h2]
theorem min3 {x y z : Int} : (if z ≤ (if y ≤ x then y else x) then z else (if y ≤ x then y else x)) = min (min x y) z := by omega

theorem res_cells {w1 : World} {g T : Nat} {u0 v0 : Value} (u v : Value) (hk : Blk w1 g T [u0, v0]) :
    (w1.setCell ⟨g, 0, none⟩ u).cell? ⟨g, 0, none⟩ = some u ∧ ((w1.setCell ⟨g, 0, none⟩ u).setCell ⟨g, 1, none⟩ v).cell? ⟨g, 1, none⟩ = some v :=
  ⟨(hk.set 0 u).cell 0, ((hk.set 0 u).set 1 v).cell 1⟩

theorem below_set2 {B : Nat} {w w1 : World} {g : Nat} {u v : Value} (hb : Below B w w1) (hg : B ≤ g + 1) : Below (B - 1) w ((w1.setCell ⟨g, 0, none⟩ u).setCell ⟨g, 1, none⟩ v) :=
  ((hb.mono (Nat.sub_le _ _)).setCell (p := ⟨g, 0, none⟩) (by simp; omega) _).setCell (p := ⟨g, 1, none⟩) (by simp; omega) _
theorem below_w {w w' : World} {o p q : Obj} (hb : Below ((((w.alloc o).alloc p).alloc q).heap.size - 1) (((w.alloc o).alloc p).alloc q) w') : Below w.heap.size w w' := by
  have h1 : ((((w.alloc o).alloc p).alloc q).heap.size - 1) = ((w.alloc o).alloc p).heap.size := by simp
  rw [h1] at hb
  exact below_box (below_box (((Below.refl _ _).alloc (Nat.le_refl _) q).trans hb))

end Go.Proofs.YtcjeifpdikojlaaDoor

/-
  A struct of three cells that a call fills; bytes of a call's own that lie beside what is written.
-/
import Derived.Test.YtgbialnnfadlgaaSeat
namespace Go.Proofs.Ytgbialnnfadlgaa
set_option linter.unusedVariables false
open Go.RowKit

theorem cells3 {w : World} {g T : Nat} {u v x : Value} (h : Blk w g T [u, v, x]) : w.cell? ⟨g, 0, none⟩ = some u ∧ w.cell? ⟨g, 1, none⟩ = some v ∧ w.cell? ⟨g, 2, none⟩ = some x := ⟨h.cell 0, h.cell 1, h.cell 2⟩
theorem free3 {w : World} {g T : Nat} {cs : List Value} (h : Blk w g T cs) : w.frozen? ⟨g, 0, none⟩ = false ∧ w.frozen? ⟨g, 1, none⟩ = false ∧ w.frozen? ⟨g, 2, none⟩ = false := ⟨h.free 0, h.free 1, h.free 2⟩
theorem res3 {w1 : World} {g T : Nat} {u0 v0 x0 : Value} (u v x : Value) (hk : Blk w1 g T [u0, v0, x0]) :
    (w1.setCell ⟨g, 0, none⟩ u).cell? ⟨g, 0, none⟩ = some u ∧ ((w1.setCell ⟨g, 0, none⟩ u).setCell ⟨g, 1, none⟩ v).cell? ⟨g, 1, none⟩ = some v ∧ (((w1.setCell ⟨g, 0, none⟩ u).setCell ⟨g, 1, none⟩ v).setCell ⟨g, 2, none⟩ x).cell? ⟨g, 2, none⟩ = some x :=
  ⟨(hk.set 0 u).cell 0, ((hk.set 0 u).set 1 v).cell 1, (((hk.set 0 u).set 1 v).set 2 x).cell 2⟩
/-- A block behind three writes to another one, or to itself. -/
theorem Blk.set3 {w : World} {g T : Nat} {u0 v0 x0 : Value} (u v x : Value) (hk : Blk w g T [u0, v0, x0]) : Blk (((w.setCell ⟨g, 0, none⟩ u).setCell ⟨g, 1, none⟩ v).setCell ⟨g, 2, none⟩ x) g T [u, v, x] :=
  ((hk.set 0 u).set 1 v).set 2 x
theorem below_set3' {B : Nat} {w w1 : World} {g : Nat} {u v x : Value} (hb : Below B w w1) (hg : B ≤ g) : Below B w (((w1.setCell ⟨g, 0, none⟩ u).setCell ⟨g, 1, none⟩ v).setCell ⟨g, 2, none⟩ x) :=
  ((hb.setCell (p := ⟨g, 0, none⟩) hg _).setCell (p := ⟨g, 1, none⟩) hg _).setCell (p := ⟨g, 2, none⟩) hg _
section
variable {w w' : World} {B e : Nat} {v : Value} {l : List UInt8}
theorem Own.beside {g : Nat} (h : Own w B e v l) (hg : w.grownBy w' (some g)) (hlt : g < B) : Own w' B e v l :=
  World.ownsRow.kept h hg (by
    cases hv : v.ownBlock with
    | none => exact .inl rfl
    | some k => exact .inr (by have := h.blk hv; simp; omega))
theorem grown_set3 (w : World) (g : Nat) (u v x : Value) : w.grownBy (((w.setCell ⟨g, 0, none⟩ u).setCell ⟨g, 1, none⟩ v).setCell ⟨g, 2, none⟩ x) (some g) :=
  grown_setCell (grown_setCell (grown_setCell (grown_refl _ _) _ _) _ _) _ _
end
/-- One byte in a block of its own. -/
theorem own_one (w : World) (e n : Nat) (hn : n < 256) : Own (w.alloc (.cells #[.int .u8 (n : Int)] e)) w.heap.size e (.slice (some ⟨w.heap.size, 0, none⟩) 1 1) [UInt8.ofNat n] := by
  refine ⟨by simp, .inr ⟨w.heap.size, 1, _, rfl, Nat.le_refl _, heap_alloc_new w _, Nat.le_refl _, by unfold maxLen; omega, rfl, ?_⟩⟩
  simp
  omega
end Go.Proofs.Ytgbialnnfadlgaa

/-
  Three prefixes in blocks of their own.
-/
import Derived.Test.YtcjeifpdikojlaaDoorOrder
import Derived.Deep.RegionHeld3
namespace Go.Proofs.YtcjeifpdikojlaaDoor
set_option linter.unusedVariables false
set_option linter.unusedSimpArgs false
open Go.RowKit

theorem ite_ne {α : Type} {a b : Nat} {n m : Int} (h : ¬ (a = b ∧ n = m)) (X Y : α) : (if (a : Int) = (b : Int) then if n = m then X else Y else Y) = Y := by
  split
  · split
    · exact absurd ⟨by omega, by assumption⟩ h
    · rfl
  · rfl
theorem box3_cells (w : World) (u v x y z t : Value) {w' : World} (hb : Below (((w.alloc (.cells #[u, v] 33)).alloc (.cells #[x, y] 33)).alloc (.cells #[z, t] 33)).heap.size (((w.alloc (.cells #[u, v] 33)).alloc (.cells #[x, y] 33)).alloc (.cells #[z, t] 33)) w') :
    (w'.cell? ⟨w.heap.size, 0, none⟩ = some u ∧ w'.cell? ⟨w.heap.size, 1, none⟩ = some v) ∧ (w'.cell? ⟨w.heap.size + 1, 0, none⟩ = some x ∧ w'.cell? ⟨w.heap.size + 1, 1, none⟩ = some y) ∧ (w'.cell? ⟨w.heap.size + 1 + 1, 0, none⟩ = some z ∧ w'.cell? ⟨w.heap.size + 1 + 1, 1, none⟩ = some t) := by
  have h3 := box_cells ((w.alloc (.cells #[u, v] 33)).alloc (.cells #[x, y] 33)) z t hb
  have h2 := box2_cells w u v x y (below_box hb)
  have e : ((w.alloc (.cells #[u, v] 33)).alloc (.cells #[x, y] 33)).heap.size = w.heap.size + 1 + 1 := by simp
  rw [e] at h3
  exact ⟨h2.1, h2.2, h3⟩

end Go.Proofs.YtcjeifpdikojlaaDoor

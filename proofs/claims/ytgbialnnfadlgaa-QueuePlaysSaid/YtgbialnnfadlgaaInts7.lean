/-
  Numbers that came in.
-/
import Derived.Test.YtgbialnnfadlgaaSeat
namespace Go.Proofs.Ytgbialnnfadlgaa
open Go.RowKit

/-- The slice's address A leads to the numbers z. -/
def Ints (w : World) (A : Option Addr) (z : List Int) : Prop :=
  z ≠ [] → ∃ b off, A = some ⟨b, off, none⟩ ∧ b < w.heap.size ∧ ∀ j, j < z.length → w.cell? ⟨b, off + j, none⟩ = some (.int .i64 (z.getD j 0))
theorem Ints.nil (w : World) (A : Option Addr) : Ints w A [] := fun h => absurd rfl h
theorem Ints.cell {w : World} {A : Option Addr} {z : List Int} (h : Ints w A z) {k : Nat} (hk : k < z.length) : ∃ b off, A = some ⟨b, off, none⟩ ∧ b < w.heap.size ∧ w.cell? ⟨b, off + k, none⟩ = some (.int .i64 (z.getD k 0)) := by
  obtain ⟨b, off, hA, hlt, hc⟩ := h (by intro e; subst e; simp at hk)
  exact ⟨b, off, hA, hlt, hc k hk⟩
theorem Ints.below {w w' : World} {A : Option Addr} {z : List Int} (h : Ints w A z) (hb : Below w.heap.size w w') : Ints w' A z := by
  intro hl
  obtain ⟨b, off, rfl, hlt, hc⟩ := h hl
  exact ⟨b, off, rfl, Nat.lt_of_lt_of_le hlt hb.size, fun j hj => (hb.cell (p := ⟨b, off + j, none⟩) hlt).trans (hc j hj)⟩
end Go.Proofs.Ytgbialnnfadlgaa

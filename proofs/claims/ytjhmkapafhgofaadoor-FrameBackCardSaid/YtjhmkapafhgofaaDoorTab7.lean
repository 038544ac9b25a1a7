/-
  The table of the least lengths; what Least tells; a fault.
-/
import Derived.Test.YtjhmkapafhgofaaDoorSeat
import Derived.Test.YtjhmkapafhgofaaDoorFr7
namespace Go.Proofs.YtjhmkapafhgofaaDoor
set_option linter.unusedVariables false
open Go.RowKit

def leastCells : Array Value := #[.int .i64 0, .int .i64 29, .int .i64 23, .int .i64 21, .int .i64 19]
/-- The table lies in its block. -/
def TabL (w : World) : Prop := ∃ t fr, w.heap[0]? = some (.cells leastCells t fr)
theorem TabL.lt {w : World} (h : TabL w) : 0 < w.heap.size := by obtain ⟨_, _, h⟩ := h; exact (Array.getElem?_eq_some_iff.1 h).1
theorem TabL.below {w w' : World} {B : Nat} (h : TabL w) (hb : Below B w w') (hB : 0 < B) : TabL w' := by
  obtain ⟨t, fr, h⟩ := h
  exact ⟨t, fr, (hb.block _ hB).trans h⟩
theorem least_at : ∀ i : Nat, i < 5 → leastCells[i]? = some (.int .i64 ((leastN (i : Int) : Nat) : Int)) := by
  intro i hi
  rcases (show i = 0 ∨ i = 1 ∨ i = 2 ∨ i = 3 ∨ i = 4 by omega) with rfl | rfl | rfl | rfl | rfl <;> rfl
theorem TabL.cell {w : World} (h : TabL w) {i : Nat} (hi : i < 5) : w.cell? ⟨0, i, none⟩ = some (.int .i64 ((leastN (i : Int) : Nat) : Int)) := by
  obtain ⟨t, fr, h⟩ := h
  rw [cell_of_row w _ i _ t fr h]
  exact least_at i hi
set_option maxHeartbeats 400000 in
theorem Least_any (k : Int) (w : World) (ht : TabL w) :
    Calls Tryd.prog 12 #[.int .i64 k] w fun e w' => e = .returned (.int .i64 ((leastN k : Nat) : Int)) ∧ w = w' := by
  by_cases h0 : k < 0
  · have e0 := Lib.hid (leastN_out (k := k) (.inl h0)); clear ht
    go_enter Tryd.func12, Tryd.ntmps12
    go_wp2_with fail
    go_ret
    exact ⟨by rw [e0.out]; rfl, rfl⟩
  · by_cases h5 : 5 ≤ k
    · have e0 := Lib.hid (leastN_out (k := k) (.inr h5)); clear ht
      go_enter Tryd.func12, Tryd.ntmps12
      go_wp2_with fail
      go_ret
      exact ⟨by rw [e0.out]; rfl, rfl⟩
    · obtain ⟨n, rfl⟩ := Int.eq_ofNat_of_zero_le (show 0 ≤ k by omega)
      have hn : n < 5 := by omega
      have d1 := ht.cell hn
      obtain ⟨x, hx⟩ : ∃ x, x = leastN (n : Int) := ⟨_, rfl⟩
      rw [← hx] at d1 ⊢
      clear ht hx
      go_enter Tryd.func12, Tryd.ntmps12
      go_wp2_with fail
      go_ret
      exact ⟨rfl, rfl⟩
theorem fault_any (s : Int) (A : Option Addr) (n c : Nat) (w : World) :
    Calls Tryd.prog 39 #[.int .i64 s, .slice A n c] w fun e w' => e = .returned (.agg #[.int .i64 1, .int .i64 s, .slice A n c]) ∧ Below w.heap.size w w' := by
  go_enter Tryd.func39, Tryd.ntmps39
  go_wp2_with fail
  exact bodyPost_ret (v := .agg #[.int .i64 1, .int .i64 s, .slice A n c]) (by simp [results, Tryd.results39, go_sem]) rfl ⟨rfl, (Below.refl _ _).alloc (Nat.le_refl _) _⟩
/-- The document's Least. -/
theorem RefLeast_any (k : Int) (w : World) :
    Calls Tryd.prog 13 #[.int .i64 k] w fun e w' => e = .returned (.int .i64 ((leastN k : Nat) : Int)) ∧ w = w' := by
  by_cases h1 : k = 1
  · subst h1
    go_enter Tryd.func13, Tryd.ntmps13
    go_wp2_with fail
    go_ret
    exact ⟨rfl, rfl⟩
  by_cases h2 : k = 2
  · subst h2
    go_enter Tryd.func13, Tryd.ntmps13
    go_wp2_with fail
    go_ret
    exact ⟨rfl, rfl⟩
  by_cases h3 : k = 3
  · subst h3
    go_enter Tryd.func13, Tryd.ntmps13
    go_wp2_with fail
    go_ret
    exact ⟨rfl, rfl⟩
  by_cases h4 : k = 4
  · subst h4
    go_enter Tryd.func13, Tryd.ntmps13
    go_wp2_with fail
    go_ret
    exact ⟨rfl, rfl⟩
  have e0 : leastN k = 0 := by unfold leastN; rw [if_neg h1, if_neg h2, if_neg h3, if_neg h4]
  have E0 := Lib.hid e0; clear e0
  have b1 : (k == 1) = false := by simpa using h1
  have b2 : (k == 2) = false := by simpa using h2
  have b3 : (k == 3) = false := by simpa using h3
  have b4 : (k == 4) = false := by simpa using h4
  clear h1 h2 h3 h4
  go_enter Tryd.func13, Tryd.ntmps13
  go_wp2_with fail
  go_ret
  exact ⟨by rw [E0.out]; rfl, rfl⟩
end Go.Proofs.YtjhmkapafhgofaaDoor

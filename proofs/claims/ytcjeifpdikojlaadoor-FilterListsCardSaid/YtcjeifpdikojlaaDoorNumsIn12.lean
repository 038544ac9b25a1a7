/-
  A row of numbers of four bytes, that comes in as a statement's argument.
-/
import Derived.Test.YtcjeifpdikojlaaDoorSeg
import Derived.Test.YtcjeifpdikojlaaDoorFrame12
namespace Go.Proofs.YtcjeifpdikojlaaDoor
open Go.ChangeShapes Go.WideShapes Go.ChangeAt Go.RowKit
set_option linter.unusedVariables false

theorem nums_of {w : World} {x : Addr} {len cap : Nat} {zs : List Int} (hl : len ≤ cap) (hz : zs.length = cap) (hc : ∀ i, i < zs.length → w.cell? (x.add i) = some (.int .u32 (zs.getD i 0))) (hwz : ∀ n ∈ zs, (Lit.int .u32 n).wf = true) :
    ∃ l : List Nat, l.length = len ∧ At32 w w.heap.size (some x) l ∧ ∀ v ∈ l, v < 4294967296 := by
  refine ⟨(zs.take len).map Int.toNat, by simp; omega, fun hne => ?_, fun v hv => ?_⟩
  · have hpos : 0 < len := by
      rcases Nat.eq_zero_or_pos len with h0 | h0
      · subst h0; simp at hne
      · exact h0
    obtain ⟨b, off, spot⟩ := x
    have h0 := hc 0 (by omega)
    have hspot : spot = none := by simpa [Addr.add] using World.cell?_spot h0
    subst hspot
    refine ⟨b, off, rfl, World.block_lt_of_cell? w _ h0, fun j hj => ?_⟩
    have hj' : j < len := by simpa [hz, Nat.min_eq_left hl] using hj
    have h1 := hc j (by omega)
    rw [Addr.add_lit] at h1
    rw [h1]
    have hjz : j < zs.length := by omega
    have hm := hwz zs[j] (List.getElem_mem _)
    have hr := bounds_u32 hm
    simp [List.getD, hjz, hj']
    omega
  · obtain ⟨z, hz1, rfl⟩ := List.mem_map.1 hv
    have hr := bounds_u32 (hwz z (List.mem_of_mem_take hz1))
    omega
section
variable {H : Type} {enc : TypeId × Value → H} {w : World}
/-- A row of numbers that came in. -/
theorem nums_in {a : Option Addr} {len cap : Nat} {d : DataW H} {p : List MemPlace} (h : DataW.Trod enc Tryd.prog w 0 (fun _ => true) true 28 (.slice a len cap) d p) :
    ∃ L : List Nat, L.length = len ∧ At32 w w.heap.size a L ∧ len ≤ cap ∧ cap ≤ maxLen ∧ ∀ v ∈ L, v < 4294967296 := by
  obtain ⟨fuel, hf⟩ := h
  rcases open_ints Tryd.underlying28 Tryd.underlying22 (by kernel_rfl) hf with ⟨hcs, _⟩ | ⟨x, l, c, zs, hcs, _, hl, hm, hz, _, hcell, hwz⟩
  · simp [Value.cells] at hcs
    obtain ⟨rfl, rfl, rfl⟩ := hcs
    exact ⟨[], rfl, At32.nil _ _ _, Nat.le_refl _, Nat.zero_le _, fun s hs => by cases hs⟩
  · simp [Value.cells] at hcs
    obtain ⟨rfl, rfl, rfl⟩ := hcs
    obtain ⟨l, h1, h2, h3⟩ := nums_of hl hz hcell hwz
    exact ⟨l, h1, h2, hl, hm, h3⟩
end
end Go.Proofs.YtcjeifpdikojlaaDoor

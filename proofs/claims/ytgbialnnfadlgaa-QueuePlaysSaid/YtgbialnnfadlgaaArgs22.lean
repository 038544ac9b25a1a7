/-
  Numbers, texts and deeds that come in as a statement's arguments.
-/
import Derived.Test.YtgbialnnfadlgaaFrameP
import Derived.Test.YtgbialnnfadlgaaBase
import Derived.Test.YtgbialnnfadlgaaInts7
import Derived.Deep.Slices
import Derived.Deep.Strs
import Derived.Deep.Fields
namespace Go.Proofs.Ytgbialnnfadlgaa
open Go.ChangeShapes Go.WideShapes Go.ChangeAt Go.RowKit
set_option linter.unusedVariables false

/-- A slice of numbers that came in. -/
theorem ints_in {w : World} {x : Addr} {len cap : Nat} {zs : List Int} (hl : len ≤ cap) (hz : zs.length = cap) (hc : ∀ i, i < zs.length → w.cell? (x.add i) = some (.int .i64 (zs.getD i 0))) (hwz : ∀ n ∈ zs, (Lit.int .i64 n).wf = true) :
    ∃ z : List Int, z.length = len ∧ Ints w (some x) z ∧ ∀ n ∈ z, -9223372036854775808 ≤ n ∧ n ≤ 9223372036854775807 := by
  refine ⟨zs.take len, by simp; omega, fun hne => ?_, fun n hn => bounds_i64 (hwz n (List.mem_of_mem_take hn))⟩
  have hpos : 0 < len := by
    rcases Nat.eq_zero_or_pos len with h0 | h0
    · subst h0; simp at hne
    · exact h0
  obtain ⟨b, off, spot⟩ := x
  have h0 := hc 0 (by omega)
  have hspot : spot = none := by simpa [Addr.add] using World.cell?_spot h0
  subst hspot
  refine ⟨b, off, rfl, World.block_lt_of_cell? w _ h0, fun j hj => ?_⟩
  have hj' : j < len := by simpa [hz, Nat.min_eq_left hl] using hj
  have h1 := hc j (by omega)
  rw [Addr.add_lit] at h1
  rw [h1]
  simp [List.getD, hj']
/-- A row of texts that came in. -/
def StrsIn (w : World) (A : Option Addr) (L : List (List UInt8)) : Prop :=
  L ≠ [] → ∃ b off, A = some ⟨b, off, none⟩ ∧ b < w.heap.size ∧ ∀ j, j < L.length → w.cell? ⟨b, off + j, none⟩ = some (.string ⟨(L.getD j []).toArray⟩)
theorem StrsIn.nil (w : World) (A : Option Addr) : StrsIn w A [] := fun h => absurd rfl h
theorem StrsIn.cell {w : World} {A : Option Addr} {L : List (List UInt8)} (h : StrsIn w A L) {k : Nat} (hk : k < L.length) : ∃ b off, A = some ⟨b, off, none⟩ ∧ b < w.heap.size ∧ w.cell? ⟨b, off + k, none⟩ = some (.string ⟨(L.getD k []).toArray⟩) := by
  obtain ⟨b, off, hA, hlt, hc⟩ := h (by intro e; subst e; simp at hk)
  exact ⟨b, off, hA, hlt, hc k hk⟩
theorem StrsIn.below {w w' : World} {A : Option Addr} {L : List (List UInt8)} (h : StrsIn w A L) (hb : Below w.heap.size w w') : StrsIn w' A L := by
  intro hl
  obtain ⟨b, off, rfl, hlt, hc⟩ := h hl
  exact ⟨b, off, rfl, Nat.lt_of_lt_of_le hlt hb.size, fun j hj => (hb.cell (p := ⟨b, off + j, none⟩) hlt).trans (hc j hj)⟩
theorem cellsStr : Try.prog.cellsOf 9 = 1 := by kernel_rfl
theorem strs_in {H : Type} {enc : TypeId × Value → H} {w : World} {a : Option Addr} {len cap : Nat} {d : DataW H} {p : List MemPlace} (h : DataW.Trod enc Try.prog w 0 (fun _ => true) true 44 (.slice a len cap) d p) :
    ∃ L : List (List UInt8), L.length = len ∧ StrsIn w a L ∧ len ≤ cap ∧ cap ≤ maxLen ∧ ∀ s ∈ L, s.length ≤ maxLen := by
  obtain ⟨fuel, hf⟩ := h
  rcases Go.Deep.open_strs Try.underlying44 Try.underlying9 cellsStr hf with ⟨hcs, _⟩ | ⟨x, l, c, m, Sx, hcs, _, hl, hm, hmm, _, hx⟩
  · simp [Value.cells] at hcs
    obtain ⟨rfl, rfl, rfl⟩ := hcs
    exact ⟨[], rfl, StrsIn.nil _ _, Nat.le_refl _, Nat.zero_le _, fun s hs => by cases hs⟩
  · simp [Value.cells] at hcs
    obtain ⟨rfl, rfl, rfl⟩ := hcs
    have hmc : m = cap := by simpa using hmm
    subst hmc
    refine ⟨(List.range len).map fun i => (Sx i).data.toList, by simp, fun hne => ?_, hl, hm, fun s hs => ?_⟩
    · have hpos : 0 < len := by
        rcases Nat.eq_zero_or_pos len with h0 | h0
        · subst h0; simp at hne
        · exact h0
      obtain ⟨b, off, spot⟩ := x
      have h0 := (hx 0 (by omega)).1
      have hspot : spot = none := by simpa [Addr.add] using World.cell?_spot h0
      subst hspot
      refine ⟨b, off, rfl, World.block_lt_of_cell? w _ h0, fun j hj => ?_⟩
      have hj' : j < len := by simpa using hj
      have h1 := (hx j (by omega)).1
      rw [Addr.add_lit] at h1
      rw [h1]
      have e : ((List.range len).map fun i => (Sx i).data.toList).getD j [] = (Sx j).data.toList := by
        rw [List.getD_eq_getElem?_getD, List.getElem?_map, List.getElem?_range hj']
        rfl
      rw [e, Array.toArray_toList]
    · obtain ⟨i, hi, rfl⟩ := List.mem_map.1 hs
      have h2 := (hx i (by have := List.mem_range.1 hi; omega)).2
      show (Sx i).data.toList.length ≤ maxLen
      rw [Array.length_toList]
      exact h2
end Go.Proofs.Ytgbialnnfadlgaa

/-
  Numbers, texts and deeds that come in as a statement's arguments.
-/
import Derived.Test.YtgbialnnfadlgaaFrameP
import Derived.Test.YtgbialnnfadlgaaBase
import Derived.Test.YtgbialnnfadlgaaInts7
import Derived.Deep.Slices
import Derived.Deep.Strs
import Derived.Deep.Fields
namespace Go.Proofs.Ytgbialnnfadlgaa
open Go.ChangeShapes Go.WideShapes Go.ChangeAt Go.RowKit
set_option linter.unusedVariables false

/-- A slice of numbers that came in. -/
theorem ints_in {w : World} {x : Addr} {len cap : Nat} {zs : List Int} (hl : len ≤ cap) (hz : zs.length = cap) (hc : ∀ i, i < zs.length → w.cell? (x.add i) = some (.int .i64 (zs.getD i 0))) (hwz : ∀ n ∈ zs, (Lit.int .i64 n).wf = true) :
    ∃ z : List Int, z.length = len ∧ Ints w (some x) z ∧ ∀ n ∈ z, -9223372036854775808 ≤ n ∧ n ≤ 9223372036854775807 := by
  refine ⟨zs.take len, by simp; omega, fun hne => ?_, fun n hn => bounds_i64 (hwz n (List.mem_of_mem_take hn))⟩
  have hpos : 0 < len := by
    rcases Nat.eq_zero_or_pos len with h0 | h0
    · subst h0; simp at hne
    · exact h0
  obtain ⟨b, off, spot⟩ := x
  have h0 := hc 0 (by omega)
  have hspot : spot = none := by simpa [Addr.add] using World.cell?_spot h0
  subst hspot
  refine ⟨b, off, rfl, World.block_lt_of_cell? w _ h0, fun j hj => ?_⟩
  have hj' : j < len := by simpa [hz, Nat.min_eq_left hl] using hj
  have h1 := hc j (by omega)
  rw [Addr.add_lit] at h1
  rw [h1]
  simp [List.getD, hj']
end Go.Proofs.Ytgbialnnfadlgaa

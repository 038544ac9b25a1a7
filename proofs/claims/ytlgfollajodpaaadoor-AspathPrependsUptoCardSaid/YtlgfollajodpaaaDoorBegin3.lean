/-
  As much of a path as counts so much.
-/
import Derived.Test.YtlgfollajodpaaaDoorCopied3
import Derived.Test.YtlgfollajodpaaaDoorText4
import Derived.Test.YtlgfollajodpaaaDoorNormCnt3
namespace Go.Proofs.YtlgfollajodpaaaDoor
set_option linter.unusedVariables false
set_option linter.unusedSimpArgs false
open Go.RowKit

/-- The first parts of a path, of sets and sequences, that count so much. -/
def begL : List (Int × List Nat) → Nat → List (Int × List Nat)
  | [], _ => []
  | s :: r, n => if n = 0 then [] else if s.1 = 2 then (2, s.2.take n) :: begL r (n - s.2.length) else s :: begL r (n - 1)
theorem begL_zero (r : List (Int × List Nat)) : begL r 0 = [] := by cases r <;> simp [begL]
theorem drop_seg {L : List Sg} {j : Nat} {s : Sg} (h : L[j]? = some s) : (L.drop j).map Sg.abs = s.abs :: (L.drop (j + 1)).map Sg.abs := by
  obtain ⟨hj, e⟩ := List.getElem?_eq_some_iff.1 h
  rw [List.drop_eq_getElem_cons hj, e]
  rfl
/-- What the loop holds. -/
def BegRel (w : World) (L : List Sg) (N : Nat) (c v i : Value) (wr : World) : Prop :=
  Below w.heap.size w wr ∧ ∃ (M : List Sg) (H j n : Nat), j ≤ L.length ∧ i = .int .i64 (j : Int) ∧ c = .int .i64 (n : Int) ∧ n ≤ N ∧ OwnSegs wr w.heap.size H v M ∧ w.heap.size ≤ H ∧ H ≤ wr.heap.size ∧ M.length ≤ j ∧ Hid (M.map Sg.abs ++ begL ((L.drop j).map Sg.abs) n = begL (L.map Sg.abs) N)

end Go.Proofs.YtlgfollajodpaaaDoor

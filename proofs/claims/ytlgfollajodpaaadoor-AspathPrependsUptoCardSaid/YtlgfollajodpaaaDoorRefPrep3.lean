/-
  A path with a number ahead, by the document.
-/
import Derived.Test.YtlgfollajodpaaaDoorCopied4
import Derived.Test.YtlgfollajodpaaaDoorBegin3
namespace Go.Proofs.YtlgfollajodpaaaDoor
set_option linter.unusedVariables false
set_option linter.unusedSimpArgs false
open Go.RowKit

/-- A path with a number ahead. -/
def prepA (r : List (Int × List Nat)) (a : Nat) : List (Int × List Nat) := match r with
  | [] => [(2, [a])]
  | s :: t => if s.1 = 2 then (2, a :: s.2) :: t else (2, [a]) :: s :: t
/-- What a call leaves that puts a number ahead of a path. -/
def PrepPost (w : World) (r : List (Int × List Nat)) (a : Nat) (e : Ending) (w' : World) : Prop :=
  if rightA r = true then (if rightA (prepA r a) = true then ∃ (M : List Sg) (A : Option Addr) (c : Nat), e = .returned (.tuple #[.slice A M.length c, .int .i64 0]) ∧ M.map Sg.abs = prepA r a ∧ M.length ≤ c ∧ c ≤ maxLen ∧ Segs w' w'.heap.size A M ∧ Below w.heap.size w w'
    else e = .returned (.tuple #[.slice none 0 0, .int .i64 6]) ∧ Below w.heap.size w w') else e = .returned (.tuple #[.slice none 0 0, .int .i64 1]) ∧ Below w.heap.size w w'
/-- A literal of one number is the call's own. -/
theorem own_lit (w : World) (a : Nat) : Own32 (w.alloc (.cells #[.int .u32 (a : Int)] 23)) w.heap.size (.slice (some ⟨w.heap.size, 0, none⟩) 1 1) [a] :=
  ⟨by simp [cells32], .inr ⟨w.heap.size, 1, #[.int .u32 (a : Int)], rfl, Nat.le_refl _, heap_alloc_new w _, Nat.le_refl _, by unfold maxLen; omega, rfl, rfl⟩⟩
/-- All but the first segment. -/
theorem Segs.tail {w : World} {B c : Nat} {A : Option Addr} {s : Sg} {L : List Sg} (h : Segs w B A (s :: L)) (hc : (s :: L).length ≤ c) : Segs w B (if c - 1 = 0 then A else A.map (·.add 2)) L := by
  intro hl
  obtain ⟨b, off, rfl, hb, hcell⟩ := h (by simp)
  have hpos := List.length_pos_iff.2 hl
  simp only [List.length_cons] at hc
  rw [if_neg (by omega)]
  refine ⟨b, off + 2, by simp [Addr.add_lit], hb, fun j t hj => ?_⟩
  have h2 := hcell (j + 1) t (by simpa using hj)
  have e1 : off + (j + 1) * 2 = off + 2 + j * 2 := by omega
  rw [e1] at h2
  exact h2
end Go.Proofs.YtlgfollajodpaaaDoor

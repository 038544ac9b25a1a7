/-
  Whether two paths are the same: what is asked.
-/
import Derived.Test.YtlgfollajodpaaaDoorNums3
import Derived.Test.YtlgfollajodpaaaDoorOwnSeg
import Derived.Test.YtlgfollajodpaaaDoorOwnL
namespace Go.Proofs.YtlgfollajodpaaaDoor
set_option linter.unusedVariables false
set_option linter.unusedSimpArgs false
open Go.RowKit

theorem alloc_sz (w : World) (o : Obj) : (w.alloc o).heap.size = w.heap.size + 1 := by simp
/-- Are two segments, are two paths the same? -/
def sameS (s t : Sg) : Bool := decide (s.abs = t.abs)
def sameP (a b : List Sg) : Bool := decide (a.map Sg.abs = b.map Sg.abs)
theorem sameP_comm (a b : List Sg) : sameP a b = sameP b a := by
  unfold sameP
  rw [Bool.eq_iff_iff]
  simp only [decide_eq_true_eq]
  exact ⟨Eq.symm, Eq.symm⟩
theorem sameS_kind {s t : Sg} (h : ¬ s.kind = t.kind) : sameS s t = false := by
  unfold sameS Sg.abs
  exact decide_eq_false (fun e => h (by injection e))
theorem sameS_nums {s t : Sg} (h : s.kind = t.kind) : sameS s t = sameZ s.nums t.nums := by
  unfold sameS sameZ Sg.abs
  rw [Bool.eq_iff_iff]
  simp [h]
theorem sameP_step {a b : List Sg} {j : Nat} {s t : Sg} (hs : a[j]? = some s) (ht : b[j]? = some t) (h : (a.take j).map Sg.abs = (b.take j).map Sg.abs) :
    (sameS s t = true → (a.take (j + 1)).map Sg.abs = (b.take (j + 1)).map Sg.abs) ∧ (sameS s t = false → sameP a b = false) := by
  have hj := (List.getElem?_eq_some_iff.1 hs).1
  have e1 : a[j] = s := (List.getElem?_eq_some_iff.1 hs).2
  have hj2 := (List.getElem?_eq_some_iff.1 ht).1
  have e2 : b[j] = t := (List.getElem?_eq_some_iff.1 ht).2
  refine ⟨fun e => ?_, fun e => ?_⟩
  · have e3 : s.abs = t.abs := of_decide_eq_true e
    rw [List.take_succ_eq_append_getElem hj, List.take_succ_eq_append_getElem hj2, e1, e2, List.map_append, List.map_append, h]
    simp [e3]
  · unfold sameP
    refine decide_eq_false (fun e3 => ?_)
    have e4 : (a.map Sg.abs)[j]? = (b.map Sg.abs)[j]? := by rw [e3]
    rw [List.getElem?_map, List.getElem?_map, hs, ht] at e4
    have e5 : s.abs = t.abs := by simpa using e4
    have e6 : ¬ s.abs = t.abs := of_decide_eq_false e
    exact e6 e5
theorem sameP_end {a b : List Sg} (hl : a.length = b.length) (h : (a.take a.length).map Sg.abs = (b.take a.length).map Sg.abs) : sameP a b = true := by
  rw [List.take_length, hl, List.take_length] at h
  exact decide_eq_true h
theorem sameP_len {a b : List Sg} (hl : ¬ a.length = b.length) : sameP a b = false :=
  decide_eq_false (fun e => hl (by have := congrArg List.length e; simpa using this))

end Go.Proofs.YtlgfollajodpaaaDoor

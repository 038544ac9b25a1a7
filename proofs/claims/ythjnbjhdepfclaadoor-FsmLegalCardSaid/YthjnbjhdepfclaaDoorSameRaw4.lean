/-
  Whether two raw attributes, two lists of them are the same.
-/
import Derived.Test.YthjnbjhdepfclaaDoorRaw4
namespace Go.Proofs.YthjnbjhdepfclaaDoor
set_option linter.unusedVariables false
set_option linter.unusedSimpArgs false
open Go.RowKit

set_option maxHeartbeats 400000 in
theorem BytesEqual_any (A A' : Option Addr) (c c' : Nat) (l m : List UInt8) (w : World) (h : Bytes w A l) (h' : Bytes w A' m) :
    Calls Tryd.prog 28 #[.slice A l.length c, .slice A' m.length c'] w fun e w' => e = .returned (.bool (l == m)) ∧ w = w' := by
  have k1 := conv_bytes (d := 9) isBytes Tryd.underlying9 h c
  have k2 := conv_bytes (d := 9) isBytes Tryd.underlying9 h' c'
  clear h h'
  go_enter Tryd.func28, Tryd.ntmps28
  go_wp2_with fail
  go_ret
  exact ⟨rfl, rfl⟩

theorem alloc_sz4 (w : World) (o : Obj) : (w.alloc o).heap.size = w.heap.size + 1 := by simp
theorem cells3q {w : World} {g T : Nat} {u v x : Value} (h : Blk w g T [u, v, x]) : w.cell? ⟨g, 0, none⟩ = some u ∧ w.cell? ⟨g, 1, none⟩ = some v ∧ w.cell? ⟨g, 2, none⟩ = some x := ⟨h.cell 0, h.cell 1, h.cell 2⟩
/-- Are two raw attributes, are two lists of them the same? -/
def sameR (s t : Rw) : Bool := decide (s.abs = t.abs)
def sameRs (a b : List Rw) : Bool := decide (a.map Rw.abs = b.map Rw.abs)
theorem sameR_flags {s t : Rw} (h : ¬ s.flags = t.flags) : sameR s t = false := decide_eq_false (fun e => h (by injection e))
theorem sameR_ty {s t : Rw} (h : ¬ s.ty = t.ty) : sameR s t = false := decide_eq_false (fun e => h (by injection e with _ e; injection e))
theorem sameR_data {s t : Rw} (h1 : s.flags = t.flags) (h2 : s.ty = t.ty) : sameR s t = (s.data == t.data) := by
  unfold sameR Rw.abs
  rw [Bool.eq_iff_iff]
  simp [h1, h2]
theorem sameRs_step {a b : List Rw} {j : Nat} {s t : Rw} (hs : a[j]? = some s) (ht : b[j]? = some t) (h : (a.take j).map Rw.abs = (b.take j).map Rw.abs) :
    (sameR s t = true → (a.take (j + 1)).map Rw.abs = (b.take (j + 1)).map Rw.abs) ∧ (sameR s t = false → sameRs a b = false) := by
  have hj := (List.getElem?_eq_some_iff.1 hs).1
  have e1 : a[j] = s := (List.getElem?_eq_some_iff.1 hs).2
  have hj2 := (List.getElem?_eq_some_iff.1 ht).1
  have e2 : b[j] = t := (List.getElem?_eq_some_iff.1 ht).2
  refine ⟨fun e => ?_, fun e => ?_⟩
  · have e3 : s.abs = t.abs := of_decide_eq_true e
    rw [List.take_succ_eq_append_getElem hj, List.take_succ_eq_append_getElem hj2, e1, e2, List.map_append, List.map_append, h]
    simp [e3]
  · unfold sameRs
    refine decide_eq_false (fun e3 => ?_)
    have e4 : (a.map Rw.abs)[j]? = (b.map Rw.abs)[j]? := by rw [e3]
    rw [List.getElem?_map, List.getElem?_map, hs, ht] at e4
    have e5 : s.abs = t.abs := by simpa using e4
    have e6 : ¬ s.abs = t.abs := of_decide_eq_false e
    exact e6 e5
theorem sameRs_end {a b : List Rw} (hl : a.length = b.length) (h : (a.take a.length).map Rw.abs = (b.take a.length).map Rw.abs) : sameRs a b = true := by
  rw [List.take_length, hl, List.take_length] at h
  exact decide_eq_true h
theorem sameRs_len {a b : List Rw} (hl : ¬ a.length = b.length) : sameRs a b = false :=
  decide_eq_false (fun e => hl (by have := congrArg List.length e; simpa using this))

end Go.Proofs.YthjnbjhdepfclaaDoor

/-
  How long a path counts; whether it may be: the program's answer and the document's.
-/
import Derived.Test.YtgaoonnokhlgjaaSeg
namespace Go.Proofs.Ytgaoonnokhlgjaa
set_option linter.unusedVariables false
set_option linter.unusedSimpArgs false
open Go.RowKit

/-- How many numbers a path has. -/
def totN (L : List Sg) : Nat := (L.map fun s => s.nums.length).sum
/-- How much a segment counts. -/
def wt (s : Sg) : Nat := if s.kind = 1 then 1 else s.nums.length
/-- How long a path counts. -/
def cntN (L : List Sg) : Nat := (L.map wt).sum
theorem sum_take {f : Sg → Nat} {L : List Sg} {j : Nat} {s : Sg} (h : L[j]? = some s) : ((L.take (j + 1)).map f).sum = ((L.take j).map f).sum + f s := by
  have hj := (List.getElem?_eq_some_iff.1 h).1
  rw [List.take_succ_eq_append_getElem hj]
  have e : L[j] = s := (List.getElem?_eq_some_iff.1 h).2
  simp [e]
theorem sum_take_le (f : Sg → Nat) (L : List Sg) (j : Nat) : ((L.take j).map f).sum ≤ (L.map f).sum := by
  have e : (L.map f).sum = ((L.take j).map f).sum + ((L.drop j).map f).sum := by
    rw [← List.sum_append, ← List.map_append, List.take_append_drop]
  omega
theorem cnt_le : ∀ (L : List Sg), cntN L ≤ totN L + L.length := by
  intro L
  induction L with
  | nil => simp [cntN, totN]
  | cons s L ih =>
    have h : wt s ≤ s.nums.length + 1 := by unfold wt; split <;> omega
    simp only [cntN, totN, List.map_cons, List.sum_cons, List.length_cons] at ih ⊢
    omega
theorem nums_le {L : List Sg} {j : Nat} {s : Sg} (h : L[j]? = some s) : s.nums.length ≤ totN L := by
  have h1 := sum_take (f := fun s => s.nums.length) h
  have h2 := sum_take_le (fun s => s.nums.length) L (j + 1)
  unfold totN
  omega

/-- May a part of a path be? -/
def okS (s : Sg) : Bool := (s.kind == 1 || s.kind == 2) && (s.nums.length != 0)
/-- May a path be? -/
def rightB (L : List Sg) : Bool := decide (L.length ≤ 8) && (L.all okS && decide (totN L ≤ 64))
theorem right_len {L : List Sg} (h : ¬ L.length ≤ 8) : rightB L = false := by unfold rightB; rw [decide_eq_false h]; rfl
theorem right_bad {L : List Sg} {j : Nat} {s : Sg} (h : L[j]? = some s) (hs : okS s = false) : rightB L = false := by
  have hm : s ∈ L := List.mem_of_getElem? h
  have : L.all okS = false := by
    rw [List.all_eq_false]
    exact ⟨s, hm, by simp [hs]⟩
  unfold rightB
  rw [this]
  simp
theorem right_end {L : List Sg} (h8 : L.length ≤ 8) (h : (L.take L.length).all okS = true) : rightB L = decide (totN L ≤ 64) := by
  rw [List.take_length] at h
  unfold rightB
  rw [h, decide_eq_true h8]
  simp
theorem right_big {L : List Sg} {j : Nat} {s : Sg} (h : L[j]? = some s) (hs : 64 < s.nums.length) : rightB L = false := by
  have := nums_le h
  unfold rightB
  rw [decide_eq_false (show ¬ totN L ≤ 64 by omega)]
  simp
theorem all_take {L : List Sg} {j : Nat} {s : Sg} (h : L[j]? = some s) (ha : (L.take j).all okS = true) (hs : okS s = true) : (L.take (j + 1)).all okS = true := by
  have hj := (List.getElem?_eq_some_iff.1 h).1
  rw [List.take_succ_eq_append_getElem hj, List.all_append, ha]
  have e : L[j] = s := (List.getElem?_eq_some_iff.1 h).2
  simp [e, hs]
/-- The three ways of a part: it may be, its kind may not be, it has no numbers. -/
theorem okS_ways (s : Sg) : (okS s = true ∧ s.kind = 1 ∧ 0 < s.nums.length) ∨ (okS s = true ∧ s.kind = 2 ∧ 0 < s.nums.length) ∨ (okS s = false ∧ s.kind ≠ 1 ∧ s.kind ≠ 2) ∨ (okS s = false ∧ s.kind = 1 ∧ s.nums.length = 0) ∨ (okS s = false ∧ s.kind = 2 ∧ s.nums.length = 0) := by
  unfold okS
  by_cases h1 : s.kind = 1
  · by_cases h0 : s.nums.length = 0
    · right; right; right; left; simp [h1, h0]
    · left; simp [h1, h0]; omega
  · by_cases h2 : s.kind = 2
    · by_cases h0 : s.nums.length = 0
      · right; right; right; right; simp [h2, h0]
      · right; left; simp [h2, h0]; omega
    · right; right; left; simp [h1, h2]

end Go.Proofs.Ytgaoonnokhlgjaa

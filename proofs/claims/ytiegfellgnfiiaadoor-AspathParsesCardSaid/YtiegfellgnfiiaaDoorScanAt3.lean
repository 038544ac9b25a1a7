/-
  The path of a text as the document reads it, told by places in the text.
-/
import Derived.Test.YtiegfellgnfiiaaDoorScan3
namespace Go.Proofs.YtiegfellgnfiiaaDoor
set_option linter.unusedVariables false
set_option linter.unusedSimpArgs false

theorem drop_at {l : List UInt8} {p : Nat} (h : p < l.length) : l.drop p = l.getD p 0 :: l.drop (p + 1) := by
  rw [List.drop_eq_getElem_cons h]
  simp [List.getD, h]
theorem drop_over {l : List UInt8} {p : Nat} (h : ¬ p < l.length) : l.drop p = [] := List.drop_eq_nil_of_le (by omega)
/-- How many digits stand ahead. -/
def twN (l : List UInt8) : Nat := (l.takeWhile digB).length
theorem tw_cons (x : UInt8) (l : List UInt8) : twN (x :: l) = if digB x = true then twN l + 1 else 0 := by
  unfold twN
  rw [List.takeWhile_cons]
  split <;> simp_all
theorem tw_le (l : List UInt8) : twN l ≤ l.length := by
  induction l with
  | nil => simp [twN]
  | cons x l ih =>
    rw [tw_cons]
    split
    · simp only [List.length_cons]; omega
    · omega
theorem tw_in : ∀ (l : List UInt8) (d : Nat), d < twN l → digB (l.getD d 0) = true := by
  intro l
  induction l with
  | nil => intro d h; simp [twN] at h
  | cons x l ih =>
    intro d h
    rw [tw_cons] at h
    split at h
    · rename_i hx
      cases d with
      | zero => simpa using hx
      | succ d => simpa using ih d (by omega)
    · omega
theorem tw_out : ∀ (l : List UInt8), ¬ (twN l < l.length ∧ digB (l.getD (twN l) 0) = true) := by
  intro l
  induction l with
  | nil => simp [twN]
  | cons x l ih =>
    rw [tw_cons]
    split
    · rename_i hx
      intro h
      simp only [List.length_cons] at h
      exact ih ⟨by omega, by simpa using h.2⟩
    · rename_i hx
      intro h
      exact hx (by simpa using h.2)
theorem tw_cut (l : List UInt8) : l.takeWhile digB = l.take (twN l) ∧ l.dropWhile digB = l.drop (twN l) := by
  induction l with
  | nil => simp
  | cons x l ih =>
    rw [tw_cons, List.takeWhile_cons, List.dropWhile_cons]
    split
    · simp [ih.1, ih.2]
    · simp
/-- The place behind the digits at p. -/
def digEnd (l : List UInt8) (p : Nat) : Nat := p + twN (l.drop p)
theorem digEnd_le {l : List UInt8} {p : Nat} (h : p ≤ l.length) : p ≤ digEnd l p ∧ digEnd l p ≤ l.length := by
  have := tw_le (l.drop p)
  rw [List.length_drop] at this
  unfold digEnd
  omega
theorem getD_drop (l : List UInt8) (p d : Nat) : (l.drop p).getD d 0 = l.getD (p + d) 0 := by simp [List.getD, List.getElem?_drop]
theorem digEnd_in {l : List UInt8} {p e : Nat} (h1 : p ≤ e) (h2 : e < digEnd l p) : isDig (l.getD e 0) := by
  have := tw_in (l.drop p) (e - p) (by unfold digEnd at h2; omega)
  rw [getD_drop] at this
  have e1 : p + (e - p) = e := by omega
  rw [e1] at this
  exact (digB_iff _).1 this
theorem digEnd_out {l : List UInt8} {p : Nat} (h : p ≤ l.length) : ¬ (digEnd l p < l.length ∧ isDig (l.getD (digEnd l p) 0)) := by
  intro ⟨h1, h2⟩
  refine tw_out (l.drop p) ⟨by rw [List.length_drop]; unfold digEnd at h1; omega, ?_⟩
  rw [getD_drop]
  exact (digB_iff _).2 h2
theorem word_cut (l : List UInt8) (p : Nat) : (l.take (digEnd l p)).drop p = (l.drop p).takeWhile digB := by
  rw [(tw_cut _).1, List.drop_take]
  unfold digEnd
  congr 1
  omega
theorem word_rest (l : List UInt8) (p : Nat) : (l.drop p).dropWhile digB = l.drop (digEnd l p) := by
  rw [(tw_cut _).2, List.drop_drop]
  rfl
theorem word_len {l : List UInt8} {p n : Nat} (h : intSpec ((l.drop p).takeWhile digB) = some n) : p < digEnd l p := by
  have := (intSpec_len h).1
  unfold digEnd twN
  omega
theorem nums_none {set : Bool} {l : List UInt8} {p : Nat} {z : List Nat} (h : intSpec ((l.drop p).takeWhile digB) = none) : scanN set (l.drop p) z = none := scanN_none h
theorem nums_more {l : List UInt8} {p n : Nat} {z : List Nat} (h : intSpec ((l.drop p).takeWhile digB) = some n) (h1 : digEnd l p < l.length) (h2 : l.getD (digEnd l p) 0 = 44) : scanN true (l.drop p) z = scanN true (l.drop (digEnd l p + 1)) (z ++ [n]) :=
  scanN_more h (by rw [word_rest, drop_at h1, h2])
theorem nums_end {set : Bool} {l : List UInt8} {p n : Nat} {z : List Nat} (h : intSpec ((l.drop p).takeWhile digB) = some n) (hc : set = true → ¬ (digEnd l p < l.length ∧ l.getD (digEnd l p) 0 = 44)) : scanN set (l.drop p) z = some (z ++ [n], l.drop (digEnd l p)) := by
  rw [scanN_end h, word_rest]
  intro e r hr
  rw [word_rest] at hr
  by_cases h1 : digEnd l p < l.length
  · rw [drop_at h1] at hr
    injection hr with h2
    exact hc e ⟨h1, h2⟩
  · rw [drop_over h1] at hr
    cases hr
theorem scanA_first {l : List UInt8} (hl : 0 < l.length) : (scanS (l.drop 0) = none → scanA l = none) ∧ ∀ s r, scanS (l.drop 0) = some (s, r) → scanA l = scanR r ([] ++ [s]) := by
  have hne : l ≠ [] := by intro e; subst e; simp at hl
  rw [List.drop_zero]
  unfold scanA
  rw [if_neg hne]
  exact ⟨fun h => by rw [h], fun s r h => by rw [h]; rfl⟩
theorem scanR_next {l : List UInt8} {p : Nat} (hp : p < l.length) (h : l.getD p 0 = 32) (acc : List (Int × List Nat)) : (scanS (l.drop (p + 1)) = none → scanR (l.drop p) acc = none) ∧ ∀ s r, scanS (l.drop (p + 1)) = some (s, r) → scanR (l.drop p) acc = scanR r (acc ++ [s]) := by
  rw [drop_at hp, h]
  exact ⟨fun h => scanR_none acc h, fun s r h => scanR_some acc h⟩
theorem scanR_stop {l : List UInt8} {p : Nat} (hp : p < l.length) (h : ¬ l.getD p 0 = 32) (acc : List (Int × List Nat)) : scanR (l.drop p) acc = none := by
  rw [drop_at hp]
  exact scanR_bad acc h
theorem scanS_set {l : List UInt8} {q : Nat} (hq : q < l.length) (h : l.getD q 0 = 123) : (scanN true (l.drop (q + 1)) [] = none → scanS (l.drop q) = none) ∧ ∀ z p, scanN true (l.drop (q + 1)) [] = some (z, l.drop p) →
    ((p < l.length ∧ l.getD p 0 = 125) → scanS (l.drop q) = some ((1, z), l.drop (p + 1))) ∧ (¬ (p < l.length ∧ l.getD p 0 = 125) → scanS (l.drop q) = none) := by
  rw [drop_at hq, h]
  unfold scanS
  rw [if_pos (by simp)]
  simp only [List.tail_cons]
  refine ⟨fun h => by rw [h], fun z p h => ?_⟩
  rw [h]
  simp only
  refine ⟨fun hp => ?_, fun hp => ?_⟩
  · rw [drop_at hp.1, hp.2]
    simp
  · rw [if_neg]
    intro e
    by_cases h1 : p < l.length
    · rw [drop_at h1] at e
      simp at e
      exact hp ⟨h1, by simpa [List.getD] using e⟩
    · rw [drop_over h1] at e
      cases e
theorem scanS_seq {l : List UInt8} {q : Nat} (h : ¬ (q < l.length ∧ l.getD q 0 = 123)) : (scanN false (l.drop q) [] = none → scanS (l.drop q) = none) ∧ ∀ z r, scanN false (l.drop q) [] = some (z, r) → scanS (l.drop q) = some ((2, z), r) := by
  have hn : ¬ (l.drop q).head? = some 123 := by
    intro e
    by_cases h1 : q < l.length
    · rw [drop_at h1] at e
      simp at e
      exact h ⟨h1, by simpa [List.getD] using e⟩
    · rw [drop_over h1] at e
      cases e
  unfold scanS
  rw [if_neg hn]
  exact ⟨fun h => by rw [h]; rfl, fun z r h => by rw [h]; rfl⟩
def scanFrom (l : List UInt8) (p : Nat) (acc : List (Int × List Nat)) : Option (List (Int × List Nat)) := if p = 0 then scanA l else scanR (l.drop p) acc
theorem scanFrom_end {l : List UInt8} {acc : List (Int × List Nat)} (h0 : l.length = 0 → acc = []) (h : scanFrom l l.length acc = scanA l) : scanA l = some acc := by
  by_cases hl : l.length = 0
  · have : l = [] := List.eq_nil_of_length_eq_zero hl
    subst this
    rw [h0 rfl]
    simp [scanA]
  · rw [← h]
    unfold scanFrom
    rw [if_neg hl, List.drop_length, scanR_nil]
end Go.Proofs.YtiegfellgnfiiaaDoor

/-
  The words of a line, as the document goes through it: lists alone.
-/
import Derived.Test.YtpimnbalffaliaaDoorScan13
import Derived.Test.YtpimnbalffaliaaDoorRefByte13
namespace Go.Proofs.YtpimnbalffaliaaDoor
set_option linter.unusedVariables false
set_option linter.unusedSimpArgs false
open Go.RowKit Go.Lib

/-- What a scanner tells in the end, with what stands from place j on still ahead. -/
def KN (l : List UInt8) (s : Sc) (j : Nat) : List Tok × Nat := finS ((l.drop j ++ [32]).foldl stepB s)
section
variable {l : List UInt8} {j : Nat} {out : List Tok} {t : List UInt8}
theorem KN_start (l : List UInt8) : KN l ⟨[], [], 0⟩ 0 = finS (scanF l) := rfl
theorem KN_step (s : Sc) (h : j < l.length) : KN l s j = KN l (stepR s (byN l j) [l.getD j 0]) (j + 1) := by
  have e : l.drop j = l.getD j 0 :: l.drop (j + 1) := by
    rw [List.drop_eq_getElem_cons h]
    congr 1
    simp [List.getD, List.getElem?_eq_getElem h]
  unfold KN
  rw [e, List.cons_append, List.foldl_cons]
  rfl
theorem KN_end (s : Sc) (h : j = l.length) : KN l s j = finS (stepR s 32 [32]) := by
  subst h
  unfold KN
  rw [List.drop_length]
  rfl
theorem KN_bad (s : Sc) (h : s.st = 5) : KN l s j = ([], 5) := by
  unfold KN
  rw [fold5 _ s h]
  unfold finS
  rw [if_neg (by omega)]
theorem P1 (h : j < l.length) (hb : byN l j = 32) : KN l ⟨out, [], 0⟩ j = KN l ⟨out, [], 0⟩ (j + 1) := by
  rw [KN_step _ h, hb]; rfl
def plainS (out : List Tok) (t : List UInt8) : Sc := if t = [] then ⟨out, [], 0⟩ else ⟨out, t, 1⟩
theorem plainS_nil : plainS out [] = ⟨out, [], 0⟩ := rfl
theorem plainS_cons (h : t ≠ []) : plainS out t = ⟨out, t, 1⟩ := by unfold plainS; rw [if_neg h]
theorem P2 (h : j < l.length) (h1 : byN l j ≠ 32) (h2 : byN l j ≠ 34) : KN l (plainS out t) j = KN l (plainS out (t ++ [l.getD j 0])) (j + 1) := by
  rw [KN_step _ h]
  congr 1
  unfold plainS stepR
  by_cases ht : t = []
  · subst ht; simp [h1, h2, Sc.put]
  · simp [ht, h1, h2, Sc.put]
theorem P3 (h : j < l.length) (h1 : byN l j = 34) (ht : t ≠ []) : KN l (plainS out t) j = ([], 5) := by
  rw [KN_step _ h, plainS_cons ht, h1]
  exact KN_bad _ rfl
theorem P4 (h : j = l.length ∨ (j < l.length ∧ byN l j = 32)) (ht : t ≠ []) : KN l (plainS out t) j = KN l ⟨out ++ [plainT t], [], 0⟩ j := by
  rw [plainS_cons ht]
  rcases h with h | ⟨h, hb⟩
  · rw [KN_end _ h, KN_end _ h]; rfl
  · rw [KN_step _ h, KN_step _ h, hb]; rfl
theorem Q0 (h : j < l.length) (hb : byN l j = 34) : KN l ⟨out, [], 0⟩ j = KN l ⟨out, [], 2⟩ (j + 1) := by
  rw [KN_step _ h, hb]; rfl
theorem Q1 (h : j < l.length) (hb : byN l j = 92) (he : j + 1 = l.length) : KN l ⟨out, t, 2⟩ j = ([], 5) := by
  rw [KN_step _ h, hb, KN_end _ he]; rfl
theorem Q2 (h : j + 1 < l.length) (hb : byN l j = 92) (h1 : byN l (j + 1) ≠ 34) (h2 : byN l (j + 1) ≠ 92) : KN l ⟨out, t, 2⟩ j = ([], 5) := by
  rw [KN_step _ (by omega), hb, KN_step _ h]
  apply KN_bad
  simp [stepR, Sc.to, h1, h2]
theorem Q3 (h : j + 1 < l.length) (hb : byN l j = 92) (h1 : byN l (j + 1) = 34 ∨ byN l (j + 1) = 92) : KN l ⟨out, t, 2⟩ j = KN l ⟨out, t ++ [l.getD (j + 1) 0], 2⟩ (j + 2) := by
  rw [KN_step _ (by omega), hb, KN_step _ h]
  congr 1
  simp [stepR, Sc.to, Sc.put, h1]
theorem Q4 (h : j < l.length) (h1 : byN l j ≠ 34) (h2 : byN l j ≠ 92) : KN l ⟨out, t, 2⟩ j = KN l ⟨out, t ++ [l.getD j 0], 2⟩ (j + 1) := by
  rw [KN_step _ h]
  congr 1
  simp [stepR, Sc.put, h1, h2]
theorem Q5 (h : j = l.length) : KN l ⟨out, t, 2⟩ j = ([], 5) := by rw [KN_end _ h]; rfl
theorem Q6 (h : j + 1 < l.length) (hb : byN l j = 34) (h1 : byN l (j + 1) ≠ 32) : KN l ⟨out, t, 2⟩ j = ([], 5) := by
  rw [KN_step _ (by omega), hb, KN_step _ h]
  apply KN_bad
  simp [stepR, Sc.to, h1]
theorem Q7 (h : j < l.length) (hb : byN l j = 34) (h1 : j + 1 = l.length ∨ (j + 1 < l.length ∧ byN l (j + 1) = 32)) : KN l ⟨out, t, 2⟩ j = KN l ⟨out ++ [⟨3, t, 0⟩], [], 0⟩ (j + 1) := by
  rw [KN_step _ h, hb]
  rcases h1 with h1 | ⟨h1, h2⟩
  · rw [KN_end _ h1, KN_end _ h1]; rfl
  · rw [KN_step _ h1, KN_step _ h1, h2]; rfl
theorem R0 (h : j = l.length) : KN l ⟨out, [], 0⟩ j = (out, 0) := by rw [KN_end _ h]; rfl
end
end Go.Proofs.YtpimnbalffaliaaDoor

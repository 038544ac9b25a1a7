/-
  Three times: what is done of them, as plain functions.
-/
namespace Go.Proofs.Yteihadheplcccaa

structure Tri where
  a : Int
  b : Int
  c : Int
def Tri.get (t : Tri) (j : Nat) : Int := if j = 0 then t.a else if j = 1 then t.b else t.c
def Tri.set (t : Tri) (j : Nat) (n : Int) : Tri := if j = 0 then ⟨n, t.b, t.c⟩ else if j = 1 then ⟨t.a, n, t.c⟩ else ⟨t.a, t.b, n⟩
/-- The smaller of two of which 0 is none. -/
def fst2 (f x : Int) : Int := if 0 < x ∧ (f = 0 ∨ x < f) then x else f
/-- The first one of the first j. -/
def fstN (t : Tri) : Nat → Int
  | 0 => 0
  | j + 1 => fst2 (fstN t j) (t.get j)
/-- A time so many ticks later. -/
def less (k x : Int) : Int := if 0 < x then x - k else x
def pass1 (k : Int) (t : Tri) (j : Nat) : Tri := t.set j (less k (t.get j))
/-- The first j times so many ticks later. -/
def passN (k : Int) (t : Tri) : Nat → Tri
  | 0 => t
  | j + 1 => (passN k t j).set j (less k (t.get j))
def end1 (k x : Int) (j : Nat) : List Int := if 0 < x ∧ x = k then [(j : Int)] else []
/-- Which of the first j came to 0. -/
def endN (k : Int) (t : Tri) : Nat → List Int
  | 0 => []
  | j + 1 => endN k t j ++ end1 k (t.get j) j
/-- So many ticks are no more than what is left of any that runs. -/
def Fits (k : Int) (t : Tri) : Prop := 0 ≤ k ∧ (0 < t.a → k ≤ t.a) ∧ (0 < t.b → k ≤ t.b) ∧ (0 < t.c → k ≤ t.c)
def Tri.I64 (t : Tri) : Prop := (-9223372036854775808 ≤ t.a ∧ t.a ≤ 9223372036854775807) ∧ (-9223372036854775808 ≤ t.b ∧ t.b ≤ 9223372036854775807) ∧ (-9223372036854775808 ≤ t.c ∧ t.c ≤ 9223372036854775807)
theorem endN_len (k : Int) (t : Tri) : ∀ j : Nat, (endN k t j).length ≤ j
  | 0 => Nat.le_refl _
  | j + 1 => by
    have h := endN_len k t j
    have : (end1 k (t.get j) j).length ≤ 1 := by unfold end1; split <;> simp
    simp only [endN, List.length_append]
    omega
theorem fst2_cases (f x : Int) : (fst2 f x = x ∧ 0 < x ∧ (f = 0 ∨ x < f)) ∨ (fst2 f x = f ∧ ¬ (0 < x ∧ (f = 0 ∨ x < f))) := by
  unfold fst2
  by_cases h : 0 < x ∧ (f = 0 ∨ x < f)
  · left; rw [if_pos h]; exact ⟨rfl, h⟩
  · right; rw [if_neg h]; exact ⟨rfl, h⟩
end Go.Proofs.Yteihadheplcccaa

/-
  Which texts may be, rune by rune, as lists of bytes; and that the library's two looks say the same.
-/
import Derived.Test.YtpimnbalffaliaaDoorUtf13
namespace Go.Proofs.YtpimnbalffaliaaDoor
set_option linter.unusedVariables false
set_option linter.unusedSimpArgs false
open Go.RowKit Go.Lib

/-- How many bytes the first rune of a list has, if it may be; 0: it may not. -/
def sizeL (l : List UInt8) : Nat := if l = [] then 0 else sizeN l.length (l.getD 0 0).toNat (l.getD 1 0).toNat (l.getD 2 0).toNat (l.getD 3 0).toNat
def rightG : Nat → List UInt8 → Bool
  | 0, _ => true
  | n + 1, l => if l = [] then true else if sizeL l = 0 then false else rightG n (l.drop (sizeL l))
/-- May all runes of a list be? -/
def rightB (l : List UInt8) : Bool := rightG l.length l
theorem sizeL_pos {l : List UInt8} (h : l ≠ []) : 0 < l.length := List.length_pos_iff.2 h
theorem rightG_fuel : ∀ (n m : Nat) (l : List UInt8), l.length ≤ n → l.length ≤ m → rightG n l = rightG m l
  | 0, m, l, hn, _ => by
    obtain rfl : l = [] := List.eq_nil_of_length_eq_zero (by omega)
    cases m <;> simp [rightG]
  | n + 1, 0, l, _, hm => by
    obtain rfl : l = [] := List.eq_nil_of_length_eq_zero (by omega)
    simp [rightG]
  | n + 1, m + 1, l, hn, hm => by
    unfold rightG
    by_cases hne : l = []
    · simp [hne]
    · have hl := sizeL_pos hne
      rw [if_neg hne, if_neg hne]
      by_cases hz : sizeL l = 0
      · simp [hz]
      · rw [if_neg hz, if_neg hz]
        exact rightG_fuel n m _ (by rw [List.length_drop]; omega) (by rw [List.length_drop]; omega)
theorem rightB_nil : rightB [] = true := rfl
theorem rightB_bad {l : List UInt8} (hne : l ≠ []) (hz : sizeL l = 0) : rightB l = false := by
  have hl := sizeL_pos hne
  obtain ⟨n, hn⟩ : ∃ n, l.length = n + 1 := ⟨l.length - 1, by omega⟩
  unfold rightB
  rw [hn]
  show (if l = [] then true else _) = _
  rw [if_neg hne, if_pos hz]
theorem rightB_step {l : List UInt8} (hz : sizeL l ≠ 0) : rightB l = rightB (l.drop (sizeL l)) := by
  have hne : l ≠ [] := fun e => hz (by unfold sizeL; rw [if_pos e])
  have hl := sizeL_pos hne
  obtain ⟨n, hn⟩ : ∃ n, l.length = n + 1 := ⟨l.length - 1, by omega⟩
  unfold rightB
  rw [hn]
  show (if l = [] then true else _) = _
  rw [if_neg hne, if_neg hz, rightG_fuel n (l.drop (sizeL l)).length _ (by rw [List.length_drop]; omega) (Nat.le_refl _)]

/-- The first rune of a list that is not empty. -/
theorem first_rune {l : List UInt8} (hne : l ≠ []) :
    ((l.getD 0 0).toNat < 128 ∧ sizeL l = (if (l.getD 0 0).toNat < 32 ∨ (l.getD 0 0).toNat = 127 then 0 else 1) ∧ decodeL l = ((l.getD 0 0).toNat, 1)) ∨
    (128 ≤ (l.getD 0 0).toNat ∧ sizeL l = 0 ∧ decodeL l = (65533, 1)) ∨
    (128 ≤ (l.getD 0 0).toNat ∧ sizeL l = (decodeL l).2 ∧ 2 ≤ sizeL l ∧ sizeL l ≤ l.length ∧ 128 ≤ (decodeL l).1 ∧ (decodeL l).1 ≤ 1114111 ∧ encodeRune ((decodeL l).1 : Int) = l.take (sizeL l) ∧ ∀ b ∈ l.take (sizeL l), 128 ≤ b.toNat) := by
  have hl := sizeL_pos hne
  have e : sizeL l = sizeN l.length (l.getD 0 0).toNat (l.getD 1 0).toNat (l.getD 2 0).toNat (l.getD 3 0).toNat := by unfold sizeL; rw [if_neg hne]
  by_cases hlo : (l.getD 0 0).toNat < 128
  · refine .inl ⟨hlo, ?_, ?_⟩
    · rw [e, sizeN_low hlo]
    · rw [decodeL_N, decodeN_low hlo]
  · have hi : 128 ≤ (l.getD 0 0).toNat := by omega
    have h := size_high (n := l.length) hl hi (UInt8.toNat_lt _) (UInt8.toNat_lt (l.getD 1 0)) (UInt8.toNat_lt (l.getD 2 0)) (UInt8.toNat_lt (l.getD 3 0))
    rw [← e, ← decodeL_N] at h
    rcases h with ⟨h1, h2⟩ | ⟨h1, h2, hk4, h3, h4, h5, h6, h7, h8, h9⟩
    · exact .inr (.inl ⟨hi, h1, h2⟩)
    · refine .inr (.inr ⟨hi, h1, h2, h3, h4, h5, ?_, ?_⟩)
      · unfold encodeRune
        rw [h6]
        generalize sizeL l = k at h2 h3 hk4
        match l, h3 with
        | [], h3 => simp at h3; omega
        | [a], h3 => simp at h3; omega
        | [a, b], h3 =>
          obtain rfl : k = 2 := by simp at h3; omega
          simp
        | [a, b, c], h3 =>
          rcases (show k = 2 ∨ k = 3 by simp at h3; omega) with rfl | rfl <;> simp
        | a :: b :: c :: d :: r, h3 =>
          rcases (show k = 2 ∨ k = 3 ∨ k = 4 by omega) with rfl | rfl | rfl <;> simp
      · generalize sizeL l = k at h2 h3 hk4 h8 h9
        match l, h3 with
        | [], h3 => simp at h3; omega
        | [a], h3 => simp at h3; omega
        | [a, b], h3 =>
          obtain rfl : k = 2 := by simp at h3; omega
          intro x hx
          simp at hx hi h7
          rcases hx with rfl | rfl <;> omega
        | [a, b, c], h3 =>
          rcases (show k = 2 ∨ k = 3 by simp at h3; omega) with rfl | rfl
          all_goals
            intro x hx
            simp at hx hi h7 h8
          · rcases hx with rfl | rfl <;> omega
          · rcases hx with rfl | rfl | rfl <;> omega
        | a :: b :: c :: d :: r, h3 =>
          rcases (show k = 2 ∨ k = 3 ∨ k = 4 by omega) with rfl | rfl | rfl
          all_goals
            intro x hx
            simp at hx hi h7 h8 h9
          · rcases hx with rfl | rfl <;> omega
          · rcases hx with rfl | rfl | rfl <;> omega
          · rcases hx with rfl | rfl | rfl | rfl <;> omega

/-- The sign that Quote and Scan look for: what may not be. -/
def badRune (r : Nat) : Bool := decide (r < 32) || decide (r = 127)
/-- The library's two looks, from place pos on. -/
theorem right_from (s : ByteArray) : ∀ (n pos f : Nat), s.size - pos ≤ n → s.size ≤ pos + f →
    rightB (s.data.toList.drop pos) = (validD (s.data.toList.drop pos) && !decide (0 ≤ idxFuncFrom badRune true s f pos))
  | 0, pos, f, hn, hf => by
    have hs := size_eq s
    rw [List.drop_eq_nil_of_le (by omega), rightB_nil, validD_nil, idxFuncFrom_end _ _ _ _ _ (by omega)]
    decide
  | n + 1, pos, f, hn, hf => by
    have hs := size_eq s
    by_cases hp : pos < s.size
    · obtain ⟨g, rfl⟩ : ∃ g, f = g + 1 := ⟨f - 1, by omega⟩
      have hne : s.data.toList.drop pos ≠ [] := by
        intro e
        have := congrArg List.length e
        rw [List.length_drop] at this
        simp at this
        omega
      have hd := decodeL_drop s pos
      rw [validD_step _ hne]
      unfold idxFuncFrom
      rw [if_pos hp, ← hd]
      have F := first_rune hne
      generalize ((s.data.toList.drop pos).getD 0 0).toNat = x at F
      rcases F with ⟨a1, a2, a3⟩ | ⟨a1, a2, a3⟩ | ⟨a1, a2, a3, a4, a5, a6, a7, a8⟩
      · rw [a3, if_neg (fun h => by have := h.1; dsimp only at this; omega)]
        by_cases hb : x < 32 ∨ x = 127
        · rw [if_pos hb] at a2
          rw [rightB_bad hne a2]
          have e : badRune x = true := by unfold badRune; rcases hb with h | h <;> simp [h]
          rw [if_pos e]
          simp
        · rw [if_neg hb] at a2
          have e : badRune x = false := by unfold badRune; simp; omega
          rw [rightB_step (by omega), a2, List.drop_drop]
          dsimp only
          rw [if_neg (by rw [e]; simp)]
          exact right_from s n (pos + 1) g (by omega) (by omega)
      · rw [rightB_bad hne a2, a3]
        simp
      · rw [rightB_step (by omega), List.drop_drop, a2]
        have e : badRune (decodeL (s.data.toList.drop pos)).1 = false := by unfold badRune; simp; omega
        rw [if_neg (by omega), if_neg (by rw [e]; simp), List.drop_drop]
        exact right_from s n (pos + (decodeL (s.data.toList.drop pos)).2) g (by omega) (by omega)
    · rw [List.drop_eq_nil_of_le (by omega), rightB_nil, validD_nil, idxFuncFrom_end _ _ _ _ _ hp]
      decide
theorem right_looks (l : List UInt8) : rightB l = (validD l && !decide (0 ≤ idxFunc badRune true ⟨l.toArray⟩)) := by
  have h := right_from ⟨l.toArray⟩ l.length 0 l.length (by show l.length - 0 ≤ _; omega) (by show l.length ≤ _; omega)
  have e : (⟨l.toArray⟩ : ByteArray).size = l.length := rfl
  simpa [idxFunc, e] using h
end Go.Proofs.YtpimnbalffaliaaDoor

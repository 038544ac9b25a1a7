/-
  Skips and ticks, as plain functions.
-/
import Derived.Test.YteihadheplcccaaTick20
namespace Go.Proofs.Yteihadheplcccaa
set_option linter.unusedVariables false
set_option linter.unusedSimpArgs false

/-- No time has come to 0 in so many ticks. -/
def Alive (i : Int) (t : Tri) : Prop := (0 < t.a → i < t.a) ∧ (0 < t.b → i < t.b) ∧ (0 < t.c → i < t.c)
theorem passN_is (k a b c : Int) : passN k ⟨a, b, c⟩ 3 = ⟨less k a, less k b, less k c⟩ := rfl
theorem endN_is (k a b c : Int) : endN k ⟨a, b, c⟩ 3 = ([] ++ end1 k a 0 ++ end1 k b 1) ++ end1 k c 2 := rfl
theorem less_less (i x : Int) (hi : 0 ≤ i) (h : 0 < x → i < x) : less 1 (less i x) = less (i + 1) x := by
  unfold less
  by_cases hx : 0 < x
  · have := h hx
    rw [if_pos hx, if_pos (by omega), if_pos hx]
    omega
  · rw [if_neg hx, if_neg hx, if_neg hx]
theorem end_less (i x : Int) (j : Nat) (hi : 0 ≤ i) (h : 0 < x → i < x) : end1 1 (less i x) j = end1 (i + 1) x j := by
  unfold end1 less
  by_cases hx : 0 < x
  · have := h hx
    rw [if_pos hx]
    by_cases hq : x = i + 1
    · rw [if_pos ⟨by omega, by omega⟩, if_pos ⟨hx, hq⟩]
    · rw [if_neg (by omega), if_neg (fun q => hq q.2)]
  · rw [if_neg hx, if_neg (fun q => hx q.1), if_neg (fun q => hx q.1)]
theorem tick_pass (i : Int) (t : Tri) (hi : 0 ≤ i) (h : Alive i t) : passN 1 (passN i t 3) 3 = passN (i + 1) t 3 := by
  obtain ⟨a, b, c⟩ := t
  obtain ⟨h1, h2, h3⟩ := h
  rw [passN_is, passN_is, passN_is, less_less i a hi h1, less_less i b hi h2, less_less i c hi h3]
theorem tick_end (i : Int) (t : Tri) (hi : 0 ≤ i) (h : Alive i t) : endN 1 (passN i t 3) 3 = endN (i + 1) t 3 := by
  obtain ⟨a, b, c⟩ := t
  obtain ⟨h1, h2, h3⟩ := h
  rw [passN_is, endN_is, endN_is, end_less i a 0 hi h1, end_less i b 1 hi h2, end_less i c 2 hi h3]
theorem end1_nil {k x : Int} {j : Nat} (h : end1 k x j = []) : ¬ (0 < x ∧ x = k) := by
  intro q
  unfold end1 at h
  rw [if_pos q] at h
  exact List.cons_ne_nil _ _ h
theorem end_nil {k : Int} {t : Tri} (h : endN k t 3 = []) : ¬ (0 < t.a ∧ t.a = k) ∧ ¬ (0 < t.b ∧ t.b = k) ∧ ¬ (0 < t.c ∧ t.c = k) := by
  obtain ⟨a, b, c⟩ := t
  rw [endN_is] at h
  have h1 := List.append_eq_nil_iff.1 h
  have h2 := List.append_eq_nil_iff.1 h1.1
  have h3 := List.append_eq_nil_iff.1 h2.1
  exact ⟨end1_nil h3.2, end1_nil h2.2, end1_nil h1.2⟩
theorem nil_end {k : Int} {t : Tri} (h : ¬ (0 < t.a ∧ t.a = k) ∧ ¬ (0 < t.b ∧ t.b = k) ∧ ¬ (0 < t.c ∧ t.c = k)) : endN k t 3 = [] := by
  obtain ⟨a, b, c⟩ := t
  rw [endN_is]
  unfold end1
  rw [if_neg h.1, if_neg h.2.1, if_neg h.2.2]
  rfl
theorem alive_step {i : Int} {t : Tri} (h : Alive i t) (he : endN (i + 1) t 3 = []) : Alive (i + 1) t := by
  obtain ⟨e1, e2, e3⟩ := end_nil he
  obtain ⟨h1, h2, h3⟩ := h
  exact ⟨fun q => by have := h1 q; omega, fun q => by have := h2 q; omega, fun q => by have := h3 q; omega⟩
theorem alive_zero (t : Tri) : Alive 0 t := ⟨fun h => h, fun h => h, fun h => h⟩
theorem first_is (t : Tri) : fstN t 3 = 0 ∨ (fstN t 3 = t.a ∧ 0 < t.a) ∨ (fstN t 3 = t.b ∧ 0 < t.b) ∨ (fstN t 3 = t.c ∧ 0 < t.c) := by
  obtain ⟨a, b, c⟩ := t
  show fst2 (fst2 (fst2 0 a) b) c = 0 ∨ (fst2 (fst2 (fst2 0 a) b) c = a ∧ 0 < a) ∨ (fst2 (fst2 (fst2 0 a) b) c = b ∧ 0 < b) ∨ (fst2 (fst2 (fst2 0 a) b) c = c ∧ 0 < c)
  rcases fst2_cases (fst2 (fst2 0 a) b) c with ⟨e, p⟩ | ⟨e, p⟩ <;> rw [e]
  · exact .inr (.inr (.inr ⟨rfl, p.1⟩))
  · rcases fst2_cases (fst2 0 a) b with ⟨e, p⟩ | ⟨e, p⟩ <;> rw [e]
    · exact .inr (.inr (.inl ⟨rfl, p.1⟩))
    · rcases fst2_cases 0 a with ⟨e, p⟩ | ⟨e, p⟩ <;> rw [e]
      · exact .inr (.inl ⟨rfl, p.1⟩)
      · exact .inl rfl
theorem alive_first {i : Int} {t : Tri} (h : Alive i t) : fstN t 3 = 0 ∨ i < fstN t 3 := by
  obtain ⟨h1, h2, h3⟩ := h
  rcases first_is t with e | ⟨e, p⟩ | ⟨e, p⟩ | ⟨e, p⟩
  · exact .inl e
  · right; rw [e]; exact h1 p
  · right; rw [e]; exact h2 p
  · right; rw [e]; exact h3 p
/-- A skip ends where the first time does. -/
theorem skip_hit {i n : Int} {t : Tri} (hi : 0 ≤ i) (h : Alive i t) (hn : i < n) (he : endN (i + 1) t 3 ≠ []) : skipK (fstN t 3) n = i + 1 := by
  obtain ⟨f0, f1, f2⟩ := first_fits t
  have hf := alive_first h
  have hx : (0 < t.a ∧ t.a = i + 1) ∨ (0 < t.b ∧ t.b = i + 1) ∨ (0 < t.c ∧ t.c = i + 1) := by
    apply Classical.byContradiction
    intro q
    exact he (nil_end ⟨fun x => q (.inl x), fun x => q (.inr (.inl x)), fun x => q (.inr (.inr x))⟩)
  have hp : 0 < fstN t 3 := by
    rcases hf with e | e
    · have := f2 e
      omega
    · omega
  obtain ⟨q0, q1, q2, q3⟩ := f1 hp
  have hfi : fstN t 3 = i + 1 := by
    have : fstN t 3 ≤ i + 1 := by
      rcases hx with ⟨x1, x2⟩ | ⟨x1, x2⟩ | ⟨x1, x2⟩
      · have := q1 x1; omega
      · have := q2 x1; omega
      · have := q3 x1; omega
    omega
  unfold skipK
  rw [if_pos hp, if_neg (show ¬ n < 0 by omega)]
  by_cases hl : fstN t 3 < n
  · rw [if_pos hl, hfi]
  · rw [if_neg hl]; omega
theorem skip_whole {n : Int} {t : Tri} (hn : ¬ n < 0) (h : Alive n t) : skipK (fstN t 3) n = n ∧ endN n t 3 = [] := by
  have hf := alive_first h
  refine ⟨?_, nil_end ?_⟩
  · unfold skipK
    rw [if_neg hn]
    by_cases hp : 0 < fstN t 3
    · rw [if_pos hp, if_neg (by omega)]
    · rw [if_neg hp]
  · obtain ⟨h1, h2, h3⟩ := h
    refine ⟨fun q => ?_, fun q => ?_, fun q => ?_⟩
    · have := h1 q.1; omega
    · have := h2 q.1; omega
    · have := h3 q.1; omega
theorem skip_none {n : Int} {t : Tri} (hn : n < 0) : skipK (fstN t 3) n = 0 ∧ endN 0 t 3 = [] := by
  have f0 := (first_fits t).1
  refine ⟨?_, nil_end ⟨by omega, by omega, by omega⟩⟩
  unfold skipK
  rw [if_pos hn]
  by_cases hp : 0 < fstN t 3
  · rw [if_pos hp, if_neg (by omega)]
  · rw [if_neg hp]
theorem less_i64 (i x : Int) (hi : 0 ≤ i) (h : 0 < x → i < x) (hx : -9223372036854775808 ≤ x ∧ x ≤ 9223372036854775807) : -9223372036854775808 ≤ less i x ∧ less i x ≤ 9223372036854775807 := by
  unfold less
  by_cases h0 : 0 < x
  · rw [if_pos h0]
    have := h h0
    omega
  · rw [if_neg h0]
    exact hx
theorem pass_i64 {i : Int} {t : Tri} (hi : 0 ≤ i) (h : Alive i t) (ht : t.I64) : (passN i t 3).I64 := by
  obtain ⟨a, b, c⟩ := t
  exact ⟨less_i64 i a hi h.1 ht.1, less_i64 i b hi h.2.1 ht.2.1, less_i64 i c hi h.2.2 ht.2.2⟩
theorem pass_zero (t : Tri) : passN 0 t 3 = t := by
  obtain ⟨a, b, c⟩ := t
  rw [passN_is]
  unfold less
  simp
end Go.Proofs.Yteihadheplcccaa

/-
  A path whose sequences are one already stays as it is.
-/
import Derived.Test.YtlgfollajodpaaaDoorNorm
namespace Go.Proofs.YtlgfollajodpaaaDoor
set_option linter.unusedVariables false

/-- No two sequences follow one another. -/
def ApartL (r : List (Int × List Nat)) : Prop := ∀ (i : Nat) (s t : Int × List Nat), r[i]? = some s → r[i + 1]? = some t → ¬ (s.1 = 2 ∧ t.1 = 2)
theorem apart_snoc {acc : List (Int × List Nat)} {u s : Int × List Nat} (h : ApartL (acc ++ [u])) (hn : ¬ (u.1 = 2 ∧ s.1 = 2)) : ApartL (acc ++ [u] ++ [s]) := by
  intro i a b ha hb
  by_cases h1 : i + 1 < (acc ++ [u]).length
  · rw [List.getElem?_append_left (by omega)] at ha
    rw [List.getElem?_append_left h1] at hb
    exact h i a b ha hb
  · have hlen : (acc ++ [u] ++ [s]).length = acc.length + 2 := by simp
    have h2 : i + 1 < (acc ++ [u] ++ [s]).length := (List.getElem?_eq_some_iff.1 hb).1
    have hl2 : (acc ++ [u]).length = acc.length + 1 := by simp
    obtain rfl : i = acc.length := by omega
    have ea : a = u := by simpa using ha.symm
    have eb : b = s := by simpa using hb.symm
    subst ea; subst eb
    exact hn
theorem apart_step {acc : List (Int × List Nat)} (s : Int × List Nat) (h : ApartL acc) : ApartL (normStep acc s) := by
  rcases List.eq_nil_or_concat acc with rfl | ⟨a0, t, rfl⟩
  · rw [step_nil]
    intro i a b ha hb
    simp at hb
  · rw [List.concat_eq_append] at h ⊢
    by_cases hk : t.1 = 2 ∧ s.1 = 2
    · rw [step_more _ _ _ hk.1 hk.2]
      rcases List.eq_nil_or_concat a0 with rfl | ⟨a1, q, rfl⟩
      · intro i a b ha hb
        simp at hb
      · rw [List.concat_eq_append] at h ⊢
        have hq : ¬ (q.1 = 2 ∧ t.1 = 2) := h a1.length q t (by simp) (by simp)
        refine apart_snoc ?_ (by rw [hk.1] at hq; exact hq)
        intro i a b ha hb
        refine h i a b ?_ ?_
        · rw [List.getElem?_append_left (List.getElem?_eq_some_iff.1 ha).1]; exact ha
        · rw [List.getElem?_append_left (List.getElem?_eq_some_iff.1 hb).1]; exact hb
    · rw [step_push _ _ _ hk]
      exact apart_snoc h hk
theorem apart_norm (r : List (Int × List Nat)) : ApartL (normL r) := by
  have fold : ∀ (r acc : List (Int × List Nat)), ApartL acc → ApartL (r.foldl normStep acc) := by
    intro r
    induction r with
    | nil => intro acc h; exact h
    | cons s r ih => intro acc h; exact ih _ (apart_step s h)
  exact fold r [] (by intro i a b ha hb; simp at hb)
theorem norm_apart {r : List (Int × List Nat)} (h : ApartL r) : normL r = r := by
  have fold : ∀ (k : Nat), k ≤ r.length → normL (r.take k) = r.take k := by
    intro k
    induction k with
    | zero => intro _; rfl
    | succ k ih =>
      intro hk
      have h1 := ih (by omega)
      rw [List.take_succ_eq_append_getElem (by omega), normL_snoc, h1]
      rcases List.eq_nil_or_concat (r.take k) with e | ⟨a0, t, e⟩
      · rw [e]; rfl
      · rw [e, List.concat_eq_append]
        refine step_push _ _ _ ?_
        have hl : (r.take k).length = a0.length + 1 := by rw [e]; simp
        rw [List.length_take, Nat.min_eq_left (by omega)] at hl
        refine h a0.length t r[k] ?_ ?_
        · have h2 : (r.take k)[a0.length]? = some t := by rw [e]; simp
          rw [List.getElem?_take] at h2
          split at h2
          · exact h2
          · cases h2
        · rw [← hl]; exact List.getElem?_eq_getElem (by omega)
  have := fold r.length (Nat.le_refl _)
  rwa [List.take_length] at this
theorem norm_twice (r : List (Int × List Nat)) : normL (normL r) = normL r := norm_apart (apart_norm r)
end Go.Proofs.YtlgfollajodpaaaDoor

/-
  A right path's text is read as the path, but that sequences are one.
-/
import Derived.Test.YtlgfollajodpaaaDoorScan3
namespace Go.Proofs.YtlgfollajodpaaaDoor
set_option linter.unusedVariables false
set_option linter.unusedSimpArgs false

theorem norm_two (acc : List (Int × List Nat)) (a b : List Nat) : normStep (normStep acc (2, a)) (2, b) = normStep acc (2, a ++ b) := by
  rcases List.eq_nil_or_concat acc with rfl | ⟨a0, t, rfl⟩
  · rw [step_nil, step_nil]
    exact step_more [] (2, a) (2, b) rfl rfl
  · rw [List.concat_eq_append]
    by_cases h : t.1 = 2
    · rw [step_more _ _ _ h rfl, step_more _ _ _ h rfl, step_more _ _ _ rfl rfl]
      simp
    · rw [step_push _ _ _ (fun e => h e.1), step_push _ _ _ (fun e => h e.1), step_more _ _ _ rfl rfl]
theorem norm_ones : ∀ (z : List Nat) (acc : List (Int × List Nat)), z ≠ [] → (z.map fun n => ((2 : Int), [n])).foldl normStep acc = normStep acc (2, z) := by
  intro z
  induction z with
  | nil => intro acc h; exact absurd rfl h
  | cons n z ih =>
    intro acc _
    simp only [List.map_cons, List.foldl_cons]
    cases hz : z with
    | nil => rfl
    | cons m z' =>
      rw [← hz, ih _ (by rw [hz]; simp), norm_two]
      rfl
/-- A path, number of a sequence by number. -/
def pieces (r : List (Int × List Nat)) : List (Int × List Nat) := r.flatMap fun s => if s.1 = 1 then [s] else s.2.map fun n => ((2 : Int), [n])
theorem norm_pieces : ∀ (r acc : List (Int × List Nat)), (∀ s ∈ r, (s.1 = 1 ∨ s.1 = 2) ∧ s.2 ≠ []) → (pieces r).foldl normStep acc = r.foldl normStep acc := by
  intro r
  induction r with
  | nil => intro acc _; rfl
  | cons s r ih =>
    intro acc h
    have e : pieces (s :: r) = (if s.1 = 1 then [s] else s.2.map fun n => ((2 : Int), [n])) ++ pieces r := by simp [pieces]
    rw [e, List.foldl_append, ih _ (fun t ht => h t (List.mem_cons_of_mem _ ht)), List.foldl_cons]
    congr 1
    obtain ⟨h1 | h1, h2⟩ := h s (by simp)
    · rw [if_pos h1]
      rfl
    · rw [if_neg (by omega), norm_ones _ _ h2]
      obtain ⟨k, z⟩ := s
      simp only at h1
      rw [h1]
theorem pieces_ok {r : List (Int × List Nat)} (h : ∀ s ∈ r, (s.1 = 1 ∨ s.1 = 2) ∧ s.2 ≠ []) (hz : ∀ s ∈ r, ∀ x ∈ s.2, x < 4294967296) : ∀ s ∈ pieces r, PartOk s := by
  intro s hs
  obtain ⟨t, ht, hst⟩ := List.mem_flatMap.1 hs
  split at hst
  · rename_i h1
    simp at hst
    subst hst
    exact ⟨hz s ht, .inl ⟨h1, (h s ht).2⟩⟩
  · obtain ⟨n, hn, rfl⟩ := List.mem_map.1 hst
    exact ⟨by intro x hx; simp at hx; subst hx; exact hz t ht x hn, .inr ⟨rfl, n, rfl⟩⟩
theorem okA_all {r : List (Int × List Nat)} (h : r.all okA = true) : ∀ s ∈ r, (s.1 = 1 ∨ s.1 = 2) ∧ s.2 ≠ [] := by
  intro s hs
  have h1 := List.all_eq_true.1 h s hs
  unfold okA at h1
  simp only [Bool.and_eq_true, Bool.or_eq_true, beq_iff_eq, bne_iff_ne] at h1
  exact ⟨h1.1, fun e => h1.2 (by rw [e]; rfl)⟩
theorem norm_okA (r : List (Int × List Nat)) (h : r.all okA = true) : (normL r).all okA = true := by
  have step : ∀ (acc : List (Int × List Nat)) (s : Int × List Nat), acc.all okA = true → okA s = true → (normStep acc s).all okA = true := by
    intro acc s ha hs
    rcases List.eq_nil_or_concat acc with rfl | ⟨a0, t, rfl⟩
    · rw [step_nil]
      simp [hs]
    · rw [List.concat_eq_append] at ha ⊢
      by_cases h : t.1 = 2 ∧ s.1 = 2
      · rw [step_more _ _ _ h.1 h.2]
        simp only [List.all_append, List.all_cons, List.all_nil, Bool.and_true, Bool.and_eq_true] at ha ⊢
        refine ⟨ha.1, ?_⟩
        unfold okA at hs ⊢
        simp only [Bool.and_eq_true, bne_iff_ne] at hs ⊢
        refine ⟨by decide, ?_⟩
        simp only [List.length_append]
        omega
      · rw [step_push _ _ _ h]
        simp only [List.all_append, List.all_cons, List.all_nil, Bool.and_true, Bool.and_eq_true] at ha ⊢
        exact ⟨ha, hs⟩
  have fold : ∀ (r acc : List (Int × List Nat)), acc.all okA = true → r.all okA = true → (r.foldl normStep acc).all okA = true := by
    intro r
    induction r with
    | nil => intro acc ha _; exact ha
    | cons s r ih =>
      intro acc ha hr
      simp only [List.all_cons, Bool.and_eq_true] at hr
      exact ih _ (step acc s ha hr.1) hr.2
  exact fold r [] rfl h
theorem norm_right {r : List (Int × List Nat)} (h : rightA r = true) : rightA (normL r) = true := by
  have h1 := norm_tot r
  unfold rightA at h ⊢
  simp only [Bool.and_eq_true, decide_eq_true_eq] at h ⊢
  exact ⟨by omega, norm_okA r h.2.1, by omega⟩
/-- THE TEXT OF A RIGHT PATH IS READ AS IT. -/
theorem parse_text {r : List (Int × List Nat)} (h : rightA r = true) (hz : ∀ s ∈ r, ∀ x ∈ s.2, x < 4294967296) : parseL (textA r) = some (normL r) := by
  have h0 := h
  unfold rightA at h0
  simp only [Bool.and_eq_true, decide_eq_true_eq] at h0
  have hall := okA_all h0.2.1
  have hn : normL (pieces r) = normL r := norm_pieces r [] hall
  have hp := pieces_ok hall hz
  have hne : ∀ s ∈ pieces r, s.2 ≠ [] := by
    intro s hs
    obtain ⟨_, ⟨_, h2⟩ | ⟨_, n, h2⟩⟩ := hp s hs
    · exact h2
    · rw [h2]; simp
  have e1 : joinL (wordsA (normL (pieces r))) 32 = joinL (wordsA (pieces r)) 32 := by
    have := words_norm (pieces r) [] (by simp) hne
    simpa [normL] using this
  have e2 : textA r = joinL (wordsA (pieces r)) 32 := by
    unfold textA
    rw [if_pos h, ← hn, e1]
  by_cases hpe : pieces r = []
  · have hr : normL r = [] := by rw [← hn, hpe]; rfl
    rw [e2, hpe, hr]
    have : joinL (wordsA []) 32 = [] := by simp [wordsA, joinL, Lib.join_nil]
    rw [this]
    unfold parseL
    rw [if_pos rfl]
  · have hs := segsL_parts hpe hp
    have hl : joinL (wordsA (pieces r)) 32 ≠ [] := by
      intro e
      rw [e] at hs
      have : segsL (splitL [] 32) = none := by
        have h1 : splitL [] 32 = [[]] := rfl
        rw [h1]
        unfold segsL
        rw [if_neg]
        have h2 : segL [] = none := by
          unfold segL
          rw [if_neg (by simp [Lib.hasPrefix, List.isPrefixOf])]
          have : numsL [[]] = none := numsL_bad (j := 0) rfl (intSpec_none_len (.inl rfl))
          rw [this]
          rfl
        simp [h2]
      rw [this] at hs
      cases hs
    rw [e2]
    unfold parseL
    rw [if_neg hl, hs]
    simp only
    rw [hn, if_pos (norm_right h)]
end Go.Proofs.YtlgfollajodpaaaDoor

/-
  What a text's path is written as: the text.
-/
import Derived.Test.YtlgfollajodpaaaDoorText4
namespace Go.Proofs.YtlgfollajodpaaaDoor
set_option linter.unusedVariables false
set_option linter.unusedSimpArgs false

theorem joinL_cons (x : List UInt8) (r : List (List UInt8)) (c : UInt8) : joinL (x :: r) c = x ++ (r.map (fun y => c :: y)).flatten := by
  unfold joinL
  rw [Lib.join_cons]
  rfl
theorem joinL_one (x : List UInt8) (c : UInt8) : joinL [x] c = x := by rw [joinL_cons]; simp
theorem joinL_two (x y : List UInt8) (r : List (List UInt8)) (c : UInt8) : joinL (x :: y :: r) c = x ++ c :: joinL (y :: r) c := by
  rw [joinL_cons, joinL_cons]
  simp
theorem joinL_app : ∀ (xs : List (List UInt8)) (y : List UInt8) (ys : List (List UInt8)) (c : UInt8), xs ≠ [] → joinL (xs ++ y :: ys) c = joinL xs c ++ c :: joinL (y :: ys) c := by
  intro xs
  induction xs with
  | nil => intro y ys c h; exact absurd rfl h
  | cons x xs ih =>
    intro y ys c _
    cases xs with
    | nil => rw [joinL_one]; exact joinL_two x y ys c
    | cons z zs =>
      have h := ih y ys c (by simp)
      simp only [List.cons_append] at h ⊢
      rw [joinL_two, h, joinL_two]
      simp
/-- The pieces of a text, with the sign between each two: the text. -/
theorem join_split (c : UInt8) : ∀ (l cur : List UInt8), joinL (splitGo c cur l) c = cur ++ l := by
  intro l
  induction l with
  | nil => intro cur; simp only [splitGo]; rw [joinL_one]; simp
  | cons x r ih =>
    intro cur
    unfold splitGo
    split
    · rename_i h
      have hl := (split_len c r []).2
      cases hs : splitGo c [] r with
      | nil => rw [hs] at hl; simp at hl
      | cons y ys =>
        rw [joinL_two, ← hs, ih, h]
        simp
    · rw [ih]
      simp
/-- A word's own text. -/
theorem numsL_text {ps : List (List UInt8)} {z : List Nat} (h : numsL ps = some z) : z.map dec = ps := by
  unfold numsL at h
  split at h
  · rename_i ha
    cases h
    rw [List.map_map]
    conv => rhs; rw [← List.map_id ps]
    refine List.map_congr_left fun p hp => ?_
    have h2 := List.all_eq_true.1 ha p hp
    cases hi : intSpec p with
    | none => rw [hi] at h2; cases h2
    | some n => simp [hi, (intSpec_some hi).1]
  · cases h
theorem segL_text {l : List UInt8} {k : Int} {z : List Nat} (h : segL l = some (k, z)) : textS k z = l ∧ z ≠ [] := by
  unfold segL at h
  split at h
  · rename_i hpre
    split at h
    · rename_i hsuf
      cases hn : numsL (splitL (Lib.trimSuffix (Lib.trimPrefix l [123]) [125]) 44) with
      | none => rw [hn] at h; cases h
      | some z2 =>
        rw [hn] at h
        simp only [Option.map_some, Option.some.injEq, Prod.mk.injEq] at h
        obtain ⟨rfl, rfl⟩ := h
        have h2 := numsL_text hn
        have h5 := (numsL_fit hn).1
        have h6 := (split_len 44 (Lib.trimSuffix (Lib.trimPrefix l [123]) [125]) []).2
        refine ⟨?_, fun e => by subst e; change 0 = (splitGo 44 [] (Lib.trimSuffix (Lib.trimPrefix l [123]) [125])).length at h5; omega⟩
        unfold textS
        rw [if_pos rfl, h2]
        unfold splitL
        rw [join_split]
        unfold Lib.trimSuffix
        rw [if_pos hsuf]
        unfold Lib.trimPrefix at hsuf ⊢
        rw [if_pos hpre] at hsuf ⊢
        unfold Lib.hasPrefix at hpre
        unfold Lib.hasSuffix at hsuf
        obtain ⟨t, ht⟩ := List.isPrefixOf_iff_prefix.1 hpre
        subst ht
        obtain ⟨u, hu⟩ := List.isSuffixOf_iff_suffix.1 hsuf
        have hu2 : u ++ [125] = t := by simpa using hu
        subst hu2
        simp
    · cases h
  · cases hn : numsL [l] with
    | none => rw [hn] at h; cases h
    | some z2 =>
      rw [hn] at h
      simp only [Option.map_some, Option.some.injEq, Prod.mk.injEq] at h
      obtain ⟨rfl, rfl⟩ := h
      have h2 := numsL_text hn
      refine ⟨?_, fun e => by subst e; simp at h2⟩
      unfold textS
      rw [if_neg (by decide), h2, joinL_one]
/-- Words written one behind the other: whether sequences are one or many. -/
theorem words_norm : ∀ (rs acc : List (Int × List Nat)), (∀ s ∈ acc, s.2 ≠ []) → (∀ s ∈ rs, s.2 ≠ []) → joinL (wordsA (rs.foldl normStep acc)) 32 = joinL (wordsA (acc ++ rs)) 32 := by
  intro rs
  induction rs with
  | nil => intro acc _ _; simp
  | cons s rs ih =>
    intro acc ha hr
    have hs : s.2 ≠ [] := hr s (by simp)
    have hr2 : ∀ t ∈ rs, t.2 ≠ [] := fun t ht => hr t (List.mem_cons_of_mem _ ht)
    simp only [List.foldl_cons]
    rcases List.eq_nil_or_concat acc with rfl | ⟨a0, t, rfl⟩
    · rw [step_nil, ih [s] (by intro u hu; simp at hu; subst hu; exact hs) hr2]
      rfl
    · rw [List.concat_eq_append] at ha ⊢
      have ht : t.2 ≠ [] := ha t (by simp)
      have ha0 : ∀ u ∈ a0, u.2 ≠ [] := fun u hu => ha u (by simp [hu])
      by_cases h : t.1 = 2 ∧ s.1 = 2
      · rw [step_more _ _ _ h.1 h.2, ih _ (by
          intro u hu
          rcases List.mem_append.1 hu with hu | hu
          · exact ha0 u hu
          · simp at hu; subst hu; simp [ht]) hr2]
        have e : textS 2 (t.2 ++ s.2) = textS t.1 t.2 ++ 32 :: textS s.1 s.2 := by
          rw [h.1, h.2]
          unfold textS
          rw [if_neg (by decide), if_neg (by decide), if_neg (by decide), List.map_append]
          cases hsm : s.2.map dec with
          | nil => exact absurd (by simpa using hsm) hs
          | cons y ys => exact joinL_app _ _ _ _ (by simpa using ht)
        have f : ∀ (xs zs : List (List UInt8)) (p q : List UInt8), joinL (xs ++ (p ++ 32 :: q) :: zs) 32 = joinL (xs ++ p :: q :: zs) 32 := by
          intro xs zs p q
          have g : joinL ((p ++ 32 :: q) :: zs) 32 = joinL (p :: q :: zs) 32 := by
            rw [joinL_cons, joinL_cons]
            simp
          cases xs with
          | nil => exact g
          | cons x xs => rw [joinL_app _ _ _ _ (by simp), joinL_app _ _ _ _ (by simp), g]
        have w1 : wordsA (a0 ++ [(2, t.2 ++ s.2)] ++ rs) = wordsA a0 ++ (textS t.1 t.2 ++ 32 :: textS s.1 s.2) :: wordsA rs := by simp [wordsA, e]
        have w2 : wordsA (a0 ++ [t] ++ s :: rs) = wordsA a0 ++ textS t.1 t.2 :: textS s.1 s.2 :: wordsA rs := by simp [wordsA]
        rw [w1, w2, f]
      · rw [step_push _ _ _ h, ih _ (by
          intro u hu
          rcases List.mem_append.1 hu with hu | hu
          · exact ha u hu
          · simp at hu; subst hu; exact hs) hr2]
        simp
theorem segsL_text {ps : List (List UInt8)} {rs : List (Int × List Nat)} (h : segsL ps = some rs) : wordsA rs = ps ∧ ∀ s ∈ rs, s.2 ≠ [] := by
  unfold segsL at h
  split at h
  · rename_i ha
    cases h
    have one : ∀ p ∈ ps, textS ((segL p).getD (0, [])).1 ((segL p).getD (0, [])).2 = p ∧ ((segL p).getD (0, [])).2 ≠ [] := by
      intro p hp
      have h2 := List.all_eq_true.1 ha p hp
      cases hi : segL p with
      | none => rw [hi] at h2; cases h2
      | some r => exact segL_text (k := r.1) (z := r.2) hi
    refine ⟨?_, fun s hs => ?_⟩
    · unfold wordsA
      rw [List.map_map]
      conv => rhs; rw [← List.map_id ps]
      exact List.map_congr_left fun p hp => (one p hp).1
    · obtain ⟨p, hp, rfl⟩ := List.mem_map.1 hs
      exact (one p hp).2
  · cases h
/-- What is read is written so. -/
theorem text_parse {l : List UInt8} {r : List (Int × List Nat)} (h : parseL l = some r) : textA r = l := by
  unfold parseL at h
  split at h
  · rename_i h0
    cases h
    subst h0
    rfl
  · cases hs : segsL (splitL l 32) with
    | none => rw [hs] at h; cases h
    | some rs =>
      rw [hs] at h
      simp only at h
      split at h
      · rename_i hr
        cases h
        obtain ⟨hw, hne⟩ := segsL_text hs
        have hne2 : ∀ s ∈ normL rs, s.2 ≠ [] := by
          intro s hm e
          have h1 := hr
          unfold rightA at h1
          simp only [Bool.and_eq_true] at h1
          have h2 := List.all_eq_true.1 h1.2.1 s hm
          unfold okA at h2
          rw [e] at h2
          simp at h2
        have e1 := words_norm (normL rs) [] (by simp) hne2
        have e2 := words_norm rs [] (by simp) hne
        unfold textA
        rw [if_pos hr]
        show joinL (wordsA ((normL rs).foldl normStep [])) 32 = l
        rw [e1]
        simp only [List.nil_append] at e2 ⊢
        show joinL (wordsA (rs.foldl normStep [])) 32 = l
        rw [e2, hw]
        unfold splitL
        rw [join_split]
        rfl
      · cases h
end Go.Proofs.YtlgfollajodpaaaDoor

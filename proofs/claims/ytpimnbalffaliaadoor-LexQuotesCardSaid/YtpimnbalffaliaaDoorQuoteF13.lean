/-
  Texts in quotes: lists alone.
-/
import Derived.Test.YtpimnbalffaliaaDoorScan13
import Derived.Lib.Replace
import Derived.Lib.ReplaceLaws
namespace Go.Proofs.YtpimnbalffaliaaDoor
set_option linter.unusedVariables false
set_option linter.unusedSimpArgs false
open Go.RowKit Go.Lib

theorem index_cons_eq (c : UInt8) (l : List UInt8) : index (c :: l) [c] = 0 := by simp [index, List.isPrefixOf]
theorem index_cons_ne {b c : UInt8} (l : List UInt8) (h : b ≠ c) {i : Nat} (hi : index l [c] = i) : index (b :: l) [c] = ((i + 1 : Nat) : Int) := by
  have e : ([c] : List UInt8).isPrefixOf (b :: l) = false := by simp [List.isPrefixOf, Ne.symm h]
  unfold index
  rw [e, hi]
  have e2 : ((i : Int) == -1) = false := by simp
  simp [e2]
theorem replaceK_one (c : UInt8) (new : List UInt8) : ∀ s : List UInt8, replaceK [c] new (count s [c]) s = s.flatMap fun b => if b = c then new else [b]
  | [] => by simp [count_one, replaceK]
  | b :: l => by
    have ih := replaceK_one c new l
    by_cases h : b = c
    · subst h
      rw [count_cons_eq, Nat.add_comm, replaceK_hit [b] new _ _ 0 (index_cons_eq b l)]
      simp only [List.take_zero, List.nil_append, List.length_cons, List.length_nil, Nat.zero_add, List.drop_succ_cons, List.drop_zero, List.flatMap_cons, if_true]
      rw [ih]
    · rw [count_cons_ne b c l h, List.flatMap_cons, if_neg h]
      cases hk : count l [c] with
      | zero =>
        rw [hk, replaceK] at ih
        rw [replaceK, ← ih]
        rfl
      | succ k =>
        obtain ⟨i, hi⟩ := index_of_count (s := l) (old := [c]) (by omega)
        rw [hk, replaceK_hit [c] new k l i hi] at ih
        rw [replaceK_hit [c] new k (b :: l) (i + 1) (index_cons_ne l h hi), ← ih]
        simp
theorem replaceAll_one (c : UInt8) (new s : List UInt8) (h : new ≠ [c]) : replaceAll s [c] new = s.flatMap fun b => if b = c then new else [b] := by
  unfold replaceAll replace
  have e : (([c] : List UInt8) == new) = false := by
    simp only [beq_eq_false_iff_ne]
    exact fun e => h e.symm
  rw [e]
  have e2 : replaceNum s [c] (-1) = count s [c] := by unfold replaceNum; rw [if_pos (.inl (by decide))]
  rw [e2, ← replaceK_one]
  rfl

def esc1 (b : UInt8) : List UInt8 := if b = 34 ∨ b = 92 then [92, b] else [b]
/-- A backslash ahead of each quote and backslash. -/
def escL (l : List UInt8) : List UInt8 := l.flatMap esc1
/-- A text in quotes. -/
def quoteL (l : List UInt8) : List UInt8 := (34 :: escL l) ++ [34]
theorem esc_twice (l : List UInt8) : replaceAll (replaceAll l [92] [92, 92]) [34] [92, 34] = escL l := by
  rw [replaceAll_one _ _ _ (by decide), replaceAll_one _ _ _ (by decide)]
  unfold escL
  rw [List.flatMap_assoc]
  congr 1
  funext b
  unfold esc1
  by_cases h1 : b = 92
  · subst h1; decide
  · by_cases h2 : b = 34
    · subst h2; decide
    · simp [h1, h2]
theorem escL_len (l : List UInt8) : (escL l).length ≤ 2 * l.length := by
  induction l with
  | nil => simp [escL]
  | cons b l ih =>
    unfold escL at ih ⊢
    rw [List.flatMap_cons, List.length_append, List.length_cons]
    have : (esc1 b).length ≤ 2 := by unfold esc1; split <;> simp
    omega
theorem escL_snoc (l : List UInt8) (j : Nat) (h : j < l.length) : escL (l.take (j + 1)) = escL (l.take j) ++ esc1 (l.getD j 0) := by
  rw [take_snoc l j h]
  unfold escL
  simp
theorem escL_append (a b : List UInt8) : escL (a ++ b) = escL a ++ escL b := by unfold escL; simp
theorem escL_high : ∀ (l : List UInt8), (∀ x ∈ l, 128 ≤ x.toNat) → escL l = l
  | [], _ => rfl
  | x :: l, h => by
    have hx := h x (by simp)
    have n1 : x ≠ 34 := fun e => by subst e; simp at hx
    have n2 : x ≠ 92 := fun e => by subst e; simp at hx
    have ih := escL_high l fun y hy => h y (by simp [hy])
    unfold escL at ih ⊢
    rw [List.flatMap_cons, ih]
    simp [esc1, n1, n2]

/-- Within quotes a scanner takes it as it was. -/
theorem fold_esc (ws : List Tok) : ∀ (l t : List UInt8), (escL l).foldl stepB ⟨ws, t, 2⟩ = ⟨ws, t ++ l, 2⟩
  | [], t => by simp [escL]
  | b :: l, t => by
    have e : escL (b :: l) = esc1 b ++ escL l := by unfold escL; rw [List.flatMap_cons]
    have h1 : (esc1 b).foldl stepB ⟨ws, t, 2⟩ = ⟨ws, t ++ [b], 2⟩ := by
      unfold esc1
      by_cases h : b = 34 ∨ b = 92
      · rw [if_pos h]
        rcases h with rfl | rfl <;> rfl
      · rw [if_neg h]
        have n1 : b.toNat ≠ 34 := fun e => h (.inl (UInt8.toNat_inj.1 e))
        have n2 : b.toNat ≠ 92 := fun e => h (.inr (UInt8.toNat_inj.1 e))
        simp [stepB, stepR, Sc.put, n1, n2]
    rw [e, List.foldl_append, h1, fold_esc ws l (t ++ [b]), List.append_assoc]
    rfl
theorem scanF_quote (l : List UInt8) : scanF (quoteL l) = ⟨[⟨3, l, 0⟩], [], 0⟩ := by
  unfold scanF quoteL
  rw [List.append_assoc, List.cons_append, List.foldl_cons, List.foldl_append]
  have e : stepB ⟨[], [], 0⟩ 34 = ⟨[], [], 2⟩ := rfl
  rw [e, fold_esc]
  rfl

/-- An ASCII sign that may be, ahead of others. -/
theorem right_low {b : UInt8} (x : List UInt8) (h1 : 32 ≤ b.toNat) (h2 : b.toNat < 127) : rightB (b :: x) = rightB x := by
  have hz : sizeL (b :: x) = 1 := by
    rcases first_rune (l := b :: x) (by simp) with ⟨a1, a2, _⟩ | ⟨a1, _⟩ | ⟨a1, _⟩
    · simp at a1 a2
      rw [a2, if_neg (by omega)]
    · simp at a1; omega
    · simp at a1; omega
  rw [rightB_step (by omega), hz]
  rfl
theorem sizeN_of {n n' b0 b1 b2 b3 b1' b2' b3' k : Nat} (h : sizeN n b0 b1 b2 b3 = k) (hk : k ≠ 0) (hn : k ≤ n') (e1 : 1 < k → b1' = b1) (e2 : 2 < k → b2' = b2) (e3 : 3 < k → b3' = b3) : sizeN n' b0 b1' b2' b3' = k := by
  have w2 := widN_two b0
  unfold sizeN at h ⊢
  by_cases c1 : b0 < 32 ∨ b0 = 127
  · rw [if_pos c1] at h; omega
  · rw [if_neg c1] at h ⊢
    by_cases c2 : b0 < 128
    · rw [if_pos c2] at h ⊢; exact h
    · rw [if_neg c2] at h ⊢
      generalize widN b0 = W at h w2 ⊢
      generalize lowN b0 = L at h ⊢
      generalize highN b0 = G at h ⊢
      by_cases c3 : W = 0 ∨ n < W ∨ b1 < L ∨ G < b1 ∨ (2 < W ∧ (b2 < 128 ∨ 191 < b2)) ∨ (3 < W ∧ (b3 < 128 ∨ 191 < b3))
      · rw [if_pos c3] at h; omega
      · rw [if_neg c3] at h
        subst h
        rw [if_neg]
        have f1 := e1 (by omega)
        subst f1
        by_cases k2 : 2 < W
        · have f2 := e2 k2
          subst f2
          by_cases k3 : 3 < W
          · have f3 := e3 k3
            subst f3
            omega
          · omega
        · omega
theorem sizeL_head (l X : List UInt8) (hz : sizeL l ≠ 0) (hl : sizeL l ≤ l.length) : sizeL (l.take (sizeL l) ++ X) = sizeL l := by
  have hne : l ≠ [] := fun e => hz (by unfold sizeL; rw [if_pos e])
  have h0 := sizeL_pos hne
  have e : sizeL l = sizeN l.length (l.getD 0 0).toNat (l.getD 1 0).toNat (l.getD 2 0).toNat (l.getD 3 0).toNat := by unfold sizeL; rw [if_neg hne]
  obtain ⟨k, hk⟩ : ∃ k, k = sizeL l := ⟨_, rfl⟩
  rw [← hk] at hz hl e ⊢
  have hne2 : l.take k ++ X ≠ [] := by
    intro c
    have := congrArg List.length c
    rw [List.length_append, List.length_take, List.length_nil] at this
    omega
  have g : ∀ i, i < k → (l.take k ++ X).getD i 0 = l.getD i 0 := fun i hi => by
    simp only [List.getD]
    rw [List.getElem?_append_left (by rw [List.length_take]; omega), List.getElem?_take_of_lt hi]
  unfold sizeL
  rw [if_neg hne2, g 0 (by omega)]
  exact sizeN_of e.symm hz (by rw [List.length_append, List.length_take]; omega) (fun h => by rw [g 1 h]) (fun h => by rw [g 2 h]) (fun h => by rw [g 3 h])
theorem right_esc : ∀ (n : Nat) (l m : List UInt8), l.length ≤ n → rightB l = true → rightB (escL l ++ m) = rightB m
  | n, [], m, _, _ => rfl
  | 0, x :: l, m, h, _ => by simp at h
  | n + 1, x :: l, m, h, hr => by
    have hz : sizeL (x :: l) ≠ 0 := fun e => by rw [rightB_bad (by simp) e] at hr; cases hr
    rw [rightB_step hz] at hr
    rcases first_rune (l := x :: l) (by simp) with ⟨a1, a2, _⟩ | ⟨a1, a2, _⟩ | ⟨a1, a2, a3, a4, a5, a6, a7, a8⟩
    · simp only [List.getD_cons_zero] at a1 a2
      by_cases hb : x.toNat < 32 ∨ x.toNat = 127
      · rw [if_pos hb] at a2; exact absurd a2 hz
      · rw [if_neg hb] at a2
        rw [a2] at hr
        have ih := right_esc n l m (by simpa using h) hr
        have e : escL (x :: l) = esc1 x ++ escL l := by unfold escL; rw [List.flatMap_cons]
        rw [e]
        unfold esc1
        split
        · rw [List.append_assoc, List.cons_append, right_low _ (by decide) (by decide), List.cons_append, right_low _ (by omega) (by omega)]
          exact ih
        · rw [List.append_assoc, List.cons_append, right_low _ (by omega) (by omega)]
          exact ih
    · exact absurd a2 hz
    · have e : escL (x :: l) = (x :: l).take (sizeL (x :: l)) ++ escL ((x :: l).drop (sizeL (x :: l))) := by
        conv => lhs; rw [← List.take_append_drop (sizeL (x :: l)) (x :: l)]
        rw [escL_append, escL_high _ a8]
      have hlt : ((x :: l).take (sizeL (x :: l))).length = sizeL (x :: l) := by rw [List.length_take]; omega
      have hs := sizeL_head (x :: l) (escL ((x :: l).drop (sizeL (x :: l))) ++ m) hz a4
      rw [e, List.append_assoc, rightB_step (by rw [hs]; exact hz), hs, List.drop_append_of_le_length (by omega), List.drop_eq_nil_of_le (by omega), List.nil_append]
      exact right_esc n _ m (by rw [List.length_drop]; simp at h ⊢; omega) hr
theorem right_quote (l : List UInt8) (hr : rightB l = true) : rightB (quoteL l) = true := by
  unfold quoteL
  rw [List.cons_append, right_low _ (by decide) (by decide), right_esc _ l [34] (Nat.le_refl _) hr]
  rfl
theorem scan_quote (l : List UInt8) (hr : rightB l = true) : scanL (quoteL l) = if 200 < (quoteL l).length then ([], 4) else ([⟨3, l, 0⟩], 0) := by
  unfold scanL
  rw [right_quote l hr, scanF_quote]
  rfl
end Go.Proofs.YtpimnbalffaliaaDoor

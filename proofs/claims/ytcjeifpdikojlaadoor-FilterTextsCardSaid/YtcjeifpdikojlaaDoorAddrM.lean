/-
  The document's way to a number out of a text, on lists of bytes; no program stands here.
-/
import Derived.Test.YtcjeifpdikojlaaDoorTexts
namespace Go.Proofs.YtcjeifpdikojlaaDoor
set_option linter.unusedVariables false

theorem part8_some {l : List UInt8} {n : Nat} (h : part8 l = some n) : dec n = l ∧ n ≤ 255 := by
  have h2 := part8_le h
  unfold part8 at h
  split at h
  · cases h
  · rename_i m hm
    split at h
    · cases h
      exact ⟨(intSpec_some hm).1, h2⟩
    · cases h
/-- With the sign in it, a text is what stands ahead of it, the sign, and what stands behind it. -/
theorem cut_join : ∀ (l : List UInt8) (c : UInt8), (cutL l c).2 = [] ∨ l = (cutL l c).1 ++ c :: (cutL l c).2 := by
  intro l
  induction l with
  | nil => intro c; exact .inl rfl
  | cons x l ih =>
    intro c
    by_cases hx : x = c
    · subst hx
      right
      simp [cutL]
    · rcases ih c with h | h
      · left
        simp only [cutL] at h ⊢
        simpa [hx] using h
      · right
        simp only [cutL] at h ⊢
        simp only [List.takeWhile_cons, List.dropWhile_cons]
        simp only [show (x != c) = true by simpa using hx, if_true]
        simpa using h
theorem cut_some {l : List UInt8} {c : UInt8} {k a x : Nat} {n : Nat} (h1 : part8 (cutL l c).1 = some n) (h2 : pa k a (cutL l c).2 = some x) : l = dec n ++ c :: (cutL l c).2 := by
  rcases cut_join l c with h | h
  · rw [h] at h2
    have e : cutL [] 46 = ([], []) := rfl
    cases k with
    | zero => simp [pa, part8_nil] at h2
    | succ k => simp [pa, e, part8_nil] at h2
  · rw [(part8_some h1).1]
    exact h
theorem pa_succ {k a x : Nat} {l : List UInt8} (h : pa (k + 1) a l = some x) : ∃ n, part8 (cutL l 46).1 = some n ∧ pa k (a * 256 + n) (cutL l 46).2 = some x := by
  cases hp : part8 (cutL l 46).1 with
  | none => simp [pa, hp] at h
  | some n => exact ⟨n, rfl, by simpa [pa, hp] using h⟩
theorem addrOf_sound {l : List UInt8} {x : Nat} (h : addrOf l = some x) : addrL x = l := by
  unfold addrOf at h
  obtain ⟨n3, p3, h3⟩ := pa_succ h
  have e3 := cut_some p3 h3
  obtain ⟨n2, p2, h2⟩ := pa_succ h3
  have e2 := cut_some p2 h2
  obtain ⟨n1, p1, h1⟩ := pa_succ h2
  have e1 := cut_some p1 h1
  cases p0 : part8 (cutL (cutL (cutL l 46).2 46).2 46).2 with
  | none => simp [pa, p0] at h1
  | some n0 =>
    simp [pa, p0] at h1
    have b3 := part8_le p3
    have b2 := part8_le p2
    have b1 := part8_le p1
    have b0 := part8_le p0
    have e0 := (part8_some p0).1
    rw [addrL_flat, e3, e2, e1, ← e0]
    have a3 : x / 16777216 = n3 := by omega
    have a2 : x / 65536 % 256 = n2 := by omega
    have a1 : x / 256 % 256 = n1 := by omega
    have a0 : x % 256 = n0 := by omega
    rw [a3, a2, a1, a0]
theorem addrOf_iff {l : List UInt8} {x : Nat} (hx : x < 4294967296) : addrOf l = some x ↔ addrL x = l :=
  ⟨addrOf_sound, fun h => h ▸ addrOf_addrL hx⟩

/-- One sign further: what was read ahead, and the part at hand; none behind a sign that can't be. -/
def stepA : Option (Nat × Nat) → UInt8 → Option (Nat × Nat)
  | none, _ => none
  | some (n, p), c => if c.toNat = 46 then (if 256 * n + p ≤ 16777215 then some (256 * n + p, 0) else none) else if 48 ≤ 10 * p + c.toNat ∧ 10 * p + c.toNat ≤ 303 then some (n, 10 * p + c.toNat - 48) else none
theorem stepA_some (n p : Nat) (c : UInt8) : stepA (some (n, p)) c = if c.toNat = 46 then (if 256 * n + p ≤ 16777215 then some (256 * n + p, 0) else none) else if 48 ≤ 10 * p + c.toNat ∧ 10 * p + c.toNat ≤ 303 then some (n, 10 * p + c.toNat - 48) else none := rfl
def foldA (l : List UInt8) : Option (Nat × Nat) := l.foldl stepA (some (0, 0))
theorem foldA_snoc (l : List UInt8) (c : UInt8) : foldA (l ++ [c]) = stepA (foldA l) c := by simp [foldA]
theorem foldA_take {l : List UInt8} {j : Nat} (h : j < l.length) : foldA (l.take (j + 1)) = stepA (foldA (l.take j)) (l.getD j 0) := by
  rw [take_snoc l j h, foldA_snoc]
theorem foldl_none : ∀ (l : List UInt8), l.foldl stepA none = none := by
  intro l
  induction l with
  | nil => rfl
  | cons c l ih => simpa [stepA] using ih
theorem foldA_none {l : List UInt8} {j : Nat} (h : foldA (l.take j) = none) : foldA l = none := by
  have e : l = l.take j ++ l.drop j := (List.take_append_drop j l).symm
  unfold foldA at h ⊢
  rw [e, List.foldl_append, h, foldl_none]
theorem fold_dec (m : Nat) : ∀ (k : Nat), k ≤ 255 → (dec k).foldl stepA (some (m, 0)) = some (m, k) := by
  intro k
  induction k using Nat.strongRecOn with
  | _ k ih =>
    intro hk
    have step : ∀ p d, d < 10 → 10 * p + d ≤ 255 → stepA (some (m, p)) (dg d) = some (m, 10 * p + d) := by
      intro p d hd hle
      have h1 := dg_toNat d hd
      have h2 : ¬ (dg d).toNat = 46 := by omega
      rw [stepA_some, if_neg h2, h1, if_pos (by omega)]
      congr 2
      omega
    by_cases h10 : k < 10
    · rw [dec_small h10]
      simpa using step 0 k h10 (by omega)
    · rw [dec_step h10, List.foldl_append, ih (k / 10) (by omega) (by omega)]
      have := step (k / 10) (k % 10) (by omega) (by omega)
      simp only [List.foldl_cons, List.foldl_nil]
      rw [this]
      congr 2
      omega
theorem foldA_addrL {x : Nat} (hx : x < 4294967296) : foldA (addrL x) = some (x / 256, x % 256) := by
  have b3 : x / 16777216 ≤ 255 := by omega
  have dot : ∀ n p, 256 * n + p ≤ 16777215 → stepA (some (n, p)) 46 = some (256 * n + p, 0) := by
    intro n p h
    simp [stepA, h]
  rw [addrL_flat]
  unfold foldA
  rw [List.foldl_append, fold_dec 0 _ b3, List.foldl_cons, dot _ _ (by omega), List.foldl_append, fold_dec _ _ (by omega), List.foldl_cons, dot _ _ (by omega), List.foldl_append, fold_dec _ _ (by omega), List.foldl_cons, dot _ _ (by omega), fold_dec _ _ (by omega)]
  congr 2
  omega
/-- A text that the document's loop lets go is no number's. -/
theorem addrOf_none_of_fold {l : List UInt8} (h : foldA l = none) : addrOf l = none := by
  cases hx : addrOf l with
  | none => rfl
  | some x =>
    have h2 := foldA_addrL (addrOf_lt hx)
    rw [addrOf_sound hx, h] at h2
    cases h2
/-- At the loop's end: the number at hand is the text's, if it is written so. -/
theorem addrOf_end {l : List UInt8} {j n p : Nat} (hj : ¬ (j < l.length ∧ j < 16)) (hf : foldA (l.take j) = some (n, p)) (hn : n ≤ 16777215) (hp : p ≤ 255) :
    addrOf l = if addrL (256 * n + p) = l then some (256 * n + p) else none := by
  split
  · rename_i h
    exact (addrOf_iff (by omega)).2 h
  · rename_i h
    cases hx : addrOf l with
    | none => rfl
    | some x =>
      exfalso
      have hx4 := addrOf_lt hx
      have hl := addrOf_sound hx
      have h15 := addrP_len hx4 3
      have e : l.length ≤ 15 := by rw [← hl]; exact h15
      rw [List.take_of_length_le (by omega)] at hf
      have h2 := foldA_addrL hx4
      rw [hl, hf] at h2
      simp only [Option.some.injEq, Prod.mk.injEq] at h2
      apply h
      have : 256 * n + p = x := by omega
      rw [this, hl]
end Go.Proofs.YtcjeifpdikojlaaDoor

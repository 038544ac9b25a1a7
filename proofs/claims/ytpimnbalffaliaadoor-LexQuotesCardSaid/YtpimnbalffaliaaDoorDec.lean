/-
  Digits: sixteen of them, bytes in them, numbers in ten of them, and which number digits say; no program stands here.
-/
import Derived.Test.YtpimnbalffaliaaDoorBase
namespace Go.Proofs.YtpimnbalffaliaaDoor

def hexd : List UInt8 := [48, 49, 50, 51, 52, 53, 54, 55, 56, 57, 97, 98, 99, 100, 101, 102]
def dg (n : Nat) : UInt8 := hexd.getD n 0

def digFrom : List UInt8 → Nat → UInt8 → Int
  | [], _, _ => -1
  | d :: r, k, c => if d == c then (k : Int) else digFrom r (k + 1) c
/-- What a sign counts as a digit; -1 of one that is none. -/
def digitOf (c : UInt8) : Int := digFrom hexd 0 c

theorem digFrom_spec : ∀ (r : List UInt8) (k : Nat) (c : UInt8), (digFrom r k c = -1 ∧ c ∉ r) ∨ ((k : Int) ≤ digFrom r k c ∧ digFrom r k c < (k : Int) + r.length ∧ r.getD ((digFrom r k c).toNat - k) 0 = c)
  | [], _, _ => .inl ⟨rfl, by simp⟩
  | d :: r, k, c => by
    unfold digFrom
    by_cases h : d = c
    · subst h
      simp
      omega
    · have hb : (d == c) = false := by simpa using h
      simp only [hb, Bool.false_eq_true, if_false]
      rcases digFrom_spec r (k + 1) c with ⟨h1, h2⟩ | ⟨h1, h2, h3⟩
      · exact .inl ⟨h1, by simp [h2]; exact fun e => h e.symm⟩
      · refine .inr ⟨by omega, by simp; omega, ?_⟩
        have e : (digFrom r (k + 1) c).toNat - k = ((digFrom r (k + 1) c).toNat - (k + 1)) + 1 := by omega
        rw [e]
        simpa using h3

theorem digitOf_range (c : UInt8) : digitOf c = -1 ∨ (0 ≤ digitOf c ∧ digitOf c < 16 ∧ dg (digitOf c).toNat = c) := by
  rcases digFrom_spec hexd 0 c with ⟨h1, _⟩ | ⟨h1, h2, h3⟩
  · exact .inl h1
  · refine .inr ⟨by unfold digitOf; omega, ?_, ?_⟩
    · unfold digitOf
      have : hexd.length = 16 := rfl
      omega
    · unfold dg digitOf
      simpa using h3
theorem digitOf_dg : ∀ n, n < 16 → digitOf (dg n) = n := by decide
theorem digitOf_not {c : UInt8} (h : digitOf c = -1) (n : Nat) (hn : n < 16) : dg n ≠ c := by
  intro e
  subst e
  rw [digitOf_dg n hn] at h
  omega
theorem dg_inj {a b : Nat} (ha : a < 16) (hb : b < 16) (h : dg a = dg b) : a = b := by
  have h1 := digitOf_dg a ha
  rw [h, digitOf_dg b hb] at h1
  omega
theorem dg_dec : ∀ n, n < 10 → dg n = UInt8.ofNat (48 + n) := by decide

/-! ### Bytes in digits -/

def hexL (l : List UInt8) : List UInt8 := l.flatMap fun b => [dg (b.toNat / 16), dg (b.toNat % 16)]
theorem hexL_snoc (l : List UInt8) (b : UInt8) : hexL (l ++ [b]) = hexL l ++ [dg (b.toNat / 16), dg (b.toNat % 16)] := by simp [hexL]
theorem hexL_len (l : List UInt8) : (hexL l).length = 2 * l.length := by
  induction l with
  | nil => rfl
  | cons b l ih => simp [hexL] at ih ⊢; omega
theorem hexL_cons (b : UInt8) (l : List UInt8) : hexL (b :: l) = dg (b.toNat / 16) :: dg (b.toNat % 16) :: hexL l := rfl

/-! ### Numbers in digits -/

def dec (n : Nat) : List UInt8 := if n < 10 then [dg n] else dec (n / 10) ++ [dg (n % 10)]
  termination_by n
  decreasing_by omega

theorem dec_small {n : Nat} (h : n < 10) : dec n = [dg n] := by rw [dec, if_pos h]
theorem dec_step {n : Nat} (h : ¬ n < 10) : dec n = dec (n / 10) ++ [dg (n % 10)] := by rw [dec, if_neg h]
theorem dec_ne (n : Nat) : 0 < (dec n).length := by
  rw [dec]
  split <;> simp
theorem dec_len : ∀ (k n : Nat), n < 10 ^ (k + 1) → (dec n).length ≤ k + 1 := by
  intro k
  induction k with
  | zero => intro n h; rw [dec_small (by omega)]; simp
  | succ k ih =>
    intro n h
    by_cases hn : n < 10
    · rw [dec_small hn]; simp
    · rw [dec_step hn, List.length_append]
      have := ih (n / 10) (by rw [Nat.pow_succ] at h; omega)
      simp; omega
/-- The value of signs as ten digits (of others whatever). -/
def val (l : List UInt8) : Nat := l.foldl (fun a c => a * 10 + (c.toNat - 48)) 0
theorem val_snoc (l : List UInt8) (c : UInt8) : val (l ++ [c]) = val l * 10 + (c.toNat - 48) := by simp [val]
theorem dg_toNat : ∀ n, n < 10 → (dg n).toNat = 48 + n := by decide
theorem val_dec (n : Nat) : val (dec n) = n := by
  induction n using Nat.strongRecOn with
  | ind n ih =>
    by_cases h : n < 10
    · rw [dec_small h]
      simp [val, dg_toNat n h]
    · rw [dec_step h, val_snoc, ih (n / 10) (by omega), dg_toNat _ (by omega)]
      omega
def isDig (c : UInt8) : Prop := 48 ≤ c.toNat ∧ c.toNat ≤ 57
theorem dec_digs (n : Nat) : ∀ c ∈ dec n, isDig c := by
  induction n using Nat.strongRecOn with
  | ind n ih =>
    by_cases h : n < 10
    · rw [dec_small h]
      intro c hc
      obtain rfl : c = dg n := by simpa using hc
      unfold isDig
      rw [dg_toNat n h]; omega
    · rw [dec_step h]
      intro c hc
      rcases List.mem_append.1 hc with h1 | h1
      · exact ih (n / 10) (by omega) c h1
      · obtain rfl : c = dg (n % 10) := by simpa using h1
        unfold isDig
        rw [dg_toNat _ (by omega)]; omega
/-- No number of two digits or more begins with 0. -/
theorem dec_head (n : Nat) : (dec n).length = 1 ∨ (dec n).headD 0 ≠ 48 := by
  induction n using Nat.strongRecOn with
  | ind n ih =>
    by_cases h : n < 10
    · exact .inl (by rw [dec_small h]; rfl)
    · right
      rw [dec_step h]
      have hne := dec_ne (n / 10)
      have e : (dec (n / 10) ++ [dg (n % 10)]).headD 0 = (dec (n / 10)).headD 0 := by
        cases hd : dec (n / 10) with
        | nil => rw [hd] at hne; simp at hne
        | cons a r => rfl
      rw [e]
      rcases ih (n / 10) (by omega) with h1 | h1
      · have h10 : n / 10 < 10 := by
          by_cases hs : n / 10 < 10
          · exact hs
          · rw [dec_step hs, List.length_append] at h1
            have := dec_ne (n / 10 / 10)
            simp only [List.length_cons, List.length_nil] at h1
            omega
        rw [dec_small h10]
        intro hh
        have h0 : dg (n / 10) = dg 0 := hh
        have := dg_inj (by omega) (by omega) h0
        omega
      · exact h1
theorem headD_append {l : List UInt8} {c : UInt8} (h : l ≠ []) : (l ++ [c]).headD 0 = l.headD 0 := by
  cases l with
  | nil => exact absurd rfl h
  | cons a r => rfl
/-- Ten digits without a 0 ahead are a number as it is written. -/
theorem dec_val : ∀ (k : Nat) (l : List UInt8), l.length = k + 1 → (∀ c ∈ l, isDig c) → (l.length = 1 ∨ l.headD 0 ≠ 48) → dec (val l) = l ∧ (l.headD 0 ≠ 48 → 10 ^ k ≤ val l) := by
  intro k
  induction k with
  | zero =>
    intro l hl hd _
    obtain ⟨c, rfl⟩ : ∃ c, l = [c] := List.length_eq_one_iff.1 hl
    have hc := hd c (by simp)
    unfold isDig at hc
    have hv : val [c] = c.toNat - 48 := by simp [val]
    have hcc : dg (c.toNat - 48) = c := by
      have := dg_dec (c.toNat - 48) (by omega)
      rw [this]
      have e : 48 + (c.toNat - 48) = c.toNat := by omega
      rw [e]; simp
    refine ⟨by rw [hv, dec_small (by omega), hcc], fun h => ?_⟩
    rw [hv]
    have : c.toNat ≠ 48 := fun e => h (by simp; exact UInt8.toNat_inj.1 e)
    omega
  | succ k ih =>
    intro l hl hd hh
    obtain ⟨l', c, rfl⟩ : ∃ l' c, l = l' ++ [c] := ⟨l.dropLast, l.getLast (by intro e; subst e; simp at hl), (List.dropLast_concat_getLast _).symm⟩
    have hl' : l'.length = k + 1 := by simpa using hl
    have hne : l' ≠ [] := by intro e; subst e; simp at hl'
    have hd' : ∀ c ∈ l', isDig c := fun x hx => hd x (by simp [hx])
    have hhead : l'.headD 0 ≠ 48 := by
      rcases hh with h1 | h1
      · omega
      · rwa [headD_append hne] at h1
    obtain ⟨h1, h2⟩ := ih l' hl' hd' (.inr hhead)
    have h3 := h2 hhead
    have hc := hd c (by simp)
    unfold isDig at hc
    have hp : 1 ≤ 10 ^ k := Nat.one_le_pow k 10 (by decide)
    have hv : val (l' ++ [c]) = val l' * 10 + (c.toNat - 48) := val_snoc l' c
    have e1 : (val l' * 10 + (c.toNat - 48)) / 10 = val l' := by omega
    have e2 : (val l' * 10 + (c.toNat - 48)) % 10 = c.toNat - 48 := by omega
    have hcc : dg (c.toNat - 48) = c := by
      rw [dg_dec (c.toNat - 48) (by omega)]
      have e : 48 + (c.toNat - 48) = c.toNat := by omega
      rw [e]; simp
    refine ⟨?_, fun _ => by rw [hv, Nat.pow_succ]; omega⟩
    rw [hv, dec_step (by omega), e1, e2, h1, hcc]
/-- Which number digits say. -/
def intSpec (l : List UInt8) : Option Nat := if dec (val l) = l ∧ val l ≤ 4294967295 then some (val l) else none
theorem intSpec_of {l : List UInt8} {n : Nat} (h : dec n = l) (hn : n ≤ 4294967295) : intSpec l = some n := by
  subst h
  unfold intSpec
  rw [val_dec, if_pos ⟨rfl, hn⟩]
theorem intSpec_some {l : List UInt8} {n : Nat} (h : intSpec l = some n) : dec n = l ∧ n ≤ 4294967295 := by
  unfold intSpec at h
  split at h
  · rename_i h1
    cases h
    exact h1
  · cases h
theorem intSpec_len {l : List UInt8} {n : Nat} (h : intSpec l = some n) : 0 < l.length ∧ l.length ≤ 10 ∧ (∀ c ∈ l, isDig c) ∧ (l.length = 1 ∨ l.headD 0 ≠ 48) := by
  obtain ⟨rfl, hn⟩ := intSpec_some h
  exact ⟨dec_ne n, dec_len 9 n (by omega), dec_digs n, dec_head n⟩
end Go.Proofs.YtpimnbalffaliaaDoor

/-
  Masks, prefixes and their bits, as numbers; no program stands here.
-/
import Derived.Test.YtcjeifpdikojlaaDoorBase
namespace Go.Proofs.YtcjeifpdikojlaaDoor
set_option linter.unusedVariables false
set_option linter.unusedSimpArgs false

/-- A length brought between 0 and 32. -/
def cl (n : Int) : Nat := (if n < 0 then 0 else if 32 < n then 32 else n).toNat
theorem cl_le (n : Int) : cl n ≤ 32 := by unfold cl; split <;> (try split) <;> omega
theorem cl_of {n : Int} (h0 : 0 ≤ n) (h1 : n ≤ 32) : ((cl n : Nat) : Int) = n := by unfold cl; rw [if_neg (by omega), if_neg (by omega)]; omega
theorem cl_nat {k : Nat} (h : k ≤ 32) : cl (k : Int) = k := by have := cl_of (n := (k : Int)) (by omega) (by omega); omega
theorem cl_neg {n : Int} (h : n < 0) : cl n = 0 := by unfold cl; rw [if_pos h]; rfl
theorem cl_big {n : Int} (h : 32 < n) : cl n = 32 := by unfold cl; rw [if_neg (by omega), if_pos h]; rfl

/-- The number whose first k bits are 1. -/
def maskN (k : Nat) : Nat := 4294967296 - 2 ^ (32 - k)
/-- The first k bits of a number, noughts behind them. -/
def hi (a k : Nat) : Nat := a / 2 ^ (32 - k) * 2 ^ (32 - k)
/-- A right prefix. -/
def okP (a n : Int) : Bool := decide (0 ≤ n ∧ n ≤ 32 ∧ hi a.toNat n.toNat = a.toNat)

theorem pow_le32 (k : Nat) : 2 ^ (32 - k) ≤ 4294967296 := by
  have h1 : 2 ^ (32 - k) ≤ 2 ^ 32 := Nat.pow_le_pow_right (by decide) (by omega)
  have h2 : (2 : Nat) ^ 32 = 4294967296 := by decide
  omega
theorem maskN_lt (k : Nat) : maskN k < 4294967296 := by
  have h1 : 0 < 2 ^ (32 - k) := Nat.pow_pos (by decide)
  unfold maskN; omega
theorem hi_le (a k : Nat) : hi a k ≤ a := Nat.div_mul_le_self _ _
theorem maskN_shift {k : Nat} (h : k ≤ 32) : maskN k = (2 ^ k - 1) <<< (32 - k) := by
  have h1 : 2 ^ k * 2 ^ (32 - k) = 4294967296 := by rw [← Nat.pow_add, Nat.add_sub_cancel' h]
  rw [Nat.shiftLeft_eq, Nat.sub_mul, h1]
  unfold maskN; omega
theorem and_mask {a k : Nat} (ha : a < 4294967296) (h : k ≤ 32) : a &&& maskN k = hi a k := by
  rw [maskN_shift h]
  have e : hi a k = (a >>> (32 - k)) <<< (32 - k) := by unfold hi; rw [Nat.shiftLeft_eq, Nat.shiftRight_eq_div_pow]
  rw [e]
  apply Nat.eq_of_testBit_eq
  intro i
  rw [Nat.testBit_and, Nat.testBit_shiftLeft, Nat.testBit_shiftLeft, Nat.testBit_two_pow_sub_one, Nat.testBit_shiftRight]
  by_cases hi1 : 32 - k ≤ i
  · have e2 : 32 - k + (i - (32 - k)) = i := by omega
    rw [e2]
    by_cases hi2 : i < 32
    · have h3 : i - (32 - k) < k := by omega
      simp [hi1, h3]
    · have h4 : a.testBit i = false := by
        apply Nat.testBit_lt_two_pow
        have h5 : 2 ^ 32 ≤ 2 ^ i := Nat.pow_le_pow_right (by decide) (by omega)
        have h6 : (2 : Nat) ^ 32 = 4294967296 := by decide
        omega
      simp [h4]
  · simp [hi1]
theorem andNot_mask {a k : Nat} (h : k ≤ 32) : a &&& (4294967295 - maskN k) = a % 2 ^ (32 - k) := by
  have h1 := pow_le32 k
  have h2 : 0 < 2 ^ (32 - k) := Nat.pow_pos (by decide)
  have e : 4294967295 - maskN k = 2 ^ (32 - k) - 1 := by unfold maskN; omega
  rw [e, Nat.and_two_pow_sub_one_eq_mod]
theorem hi_eq_iff (a k : Nat) : hi a k = a ↔ a % 2 ^ (32 - k) = 0 := by
  have h := Nat.div_add_mod a (2 ^ (32 - k))
  unfold hi
  rw [Nat.mul_comm] at h
  omega
theorem hi_hi (a k : Nat) : hi (hi a k) k = hi a k := by
  unfold hi
  rw [Nat.mul_div_cancel _ (Nat.pow_pos (by decide))]
theorem hi_zero {a : Nat} (h : a < 4294967296) : hi a 0 = 0 := by
  unfold hi
  have : a / 2 ^ (32 - 0) = 0 := Nat.div_eq_of_lt (by simpa using h)
  rw [this, Nat.zero_mul]
end Go.Proofs.YtcjeifpdikojlaaDoor

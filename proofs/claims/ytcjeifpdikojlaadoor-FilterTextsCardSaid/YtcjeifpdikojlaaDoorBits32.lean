/-
  bits.LeadingZeros32, by the library's own contract, at this program's numbers; bit lengths and common beginnings of two numbers.
-/
import Derived.Test.YtcjeifpdikojlaaDoorSeat
import Derived.Test.YtcjeifpdikojlaaDoorOrder
import Derived.Shelf.Small.Bits
namespace Go.Proofs.YtcjeifpdikojlaaDoor
set_option linter.unusedVariables false
open Go.Shelf Go.RowKit

theorem bitLen_le_iff {x k : Nat} (hx : x < 4294967296) (hk : k ≤ 32) : Lib.bitLen x ≤ k ↔ x < 2 ^ k := by
  have h64 : x < 2 ^ 64 := Nat.lt_of_lt_of_le hx (by decide)
  constructor
  · intro h
    rcases Nat.lt_or_ge x (2 ^ k) with h1 | h1
    · exact h1
    · have e := Lib.bitLen_shift k x h1 h64
      have hp : 0 < 2 ^ k := Nat.pow_pos (by decide)
      have h2 : 0 < x / 2 ^ k := Nat.div_pos h1 hp
      have e2 := Lib.bitLen_half (x / 2 ^ k) (by omega) (Nat.lt_of_le_of_lt (Nat.div_le_self _ _) h64)
      omega
  · intro h
    exact Lib.bitLen_le x k (by omega) h
theorem hi_div {a b j : Nat} : hi a j = hi b j ↔ a / 2 ^ (32 - j) = b / 2 ^ (32 - j) := by
  have hp : 0 < 2 ^ (32 - j) := Nat.pow_pos (by decide)
  unfold hi
  exact ⟨fun h => Nat.eq_of_mul_eq_mul_right hp h, fun h => by rw [h]⟩
theorem xor_lt32 {a b : Nat} (ha : a < 4294967296) (hb : b < 4294967296) : a ^^^ b < 4294967296 := by
  have h := Nat.xor_lt_two_pow (n := 32) (x := a) (y := b) (by simpa using ha) (by simpa using hb)
  simpa using h
theorem xor_zero {a b : Nat} : a ^^^ b = 0 ↔ a = b := by
  constructor
  · intro h
    have e : (a ^^^ b) ^^^ b = 0 ^^^ b := by rw [h]
    simpa [Nat.xor_assoc, Nat.xor_self] using e
  · rintro rfl
    exact Nat.xor_self _
theorem hi_xor {a b j : Nat} (ha : a < 4294967296) (hb : b < 4294967296) : hi a j = hi b j ↔ Lib.bitLen (a ^^^ b) ≤ 32 - j := by
  rw [bitLen_le_iff (xor_lt32 ha hb) (by omega), hi_div]
  have hp : 0 < 2 ^ (32 - j) := Nat.pow_pos (by decide)
  have e : (a ^^^ b) / 2 ^ (32 - j) = a / 2 ^ (32 - j) ^^^ b / 2 ^ (32 - j) := by
    rw [← Nat.shiftRight_eq_div_pow, ← Nat.shiftRight_eq_div_pow, ← Nat.shiftRight_eq_div_pow, Nat.shiftRight_xor_distrib]
  rw [← Nat.div_eq_zero_iff_lt hp, e, xor_zero]

/-- How long two right prefixes are alike. -/
def comK (a n b m : Nat) : Nat := min (min (32 - Lib.bitLen (a ^^^ b)) n) m
theorem bitLen32 {a b : Nat} (ha : a < 4294967296) (hb : b < 4294967296) : Lib.bitLen (a ^^^ b) ≤ 32 := (bitLen_le_iff (xor_lt32 ha hb) (Nat.le_refl _)).2 (by simpa using xor_lt32 ha hb)
theorem comK_le (a n b m : Nat) : comK a n b m ≤ 32 ∧ comK a n b m ≤ n ∧ comK a n b m ≤ m := by unfold comK; omega
theorem comK_iff {a n b m j : Nat} (ha : a < 4294967296) (hb : b < 4294967296) (hj : j ≤ 32) : (j ≤ n ∧ (j ≤ m ∧ hi b j = hi a j)) ↔ j ≤ comK a n b m := by
  have h := hi_xor (j := j) ha hb
  have h32 := bitLen32 ha hb
  unfold comK
  constructor
  · rintro ⟨h1, h2, h3⟩
    have := h.1 h3.symm
    omega
  · intro h1
    exact ⟨by omega, by omega, (h.2 (by omega)).symm⟩
/-- What two prefixes have in common. -/
def comP (a n b m : Int) : Nat × Nat := if okP a n && okP b m then (hi a.toNat (comK a.toNat n.toNat b.toNat m.toNat), comK a.toNat n.toNat b.toNat m.toNat) else (0, 0)
theorem okP_hi (a : Nat) {j : Nat} (h : j ≤ 32) : okP ((hi a j : Nat) : Int) (j : Int) = true := by
  rw [okP_in h, (hi_eq_iff (hi a j) j).1 (hi_hi a j)]
  rfl
/-- Does a beginning of a prefix cover another? -/
theorem covers_hi {a b m j : Nat} (hj : j ≤ 32) (hb : okP (b : Int) (m : Int) = true) : coversB ((hi a j : Nat) : Int) (j : Int) b (m : Int) = decide (j ≤ m ∧ hi b j = hi a j) := by
  unfold coversB holdsB
  rw [hb, okP_hi a hj]
  have e : ((j : Int)).toNat = j := rfl
  rw [e]
  by_cases h1 : j ≤ m
  · by_cases h2 : hi b j = hi a j
    · simp [h1, h2]
    · have : ¬ ((hi b j : Nat) : Int) = ((hi a j : Nat) : Int) := by omega
      simp [h1, h2, this]
  · simp [h1]
theorem covers_hi_self {a n j : Nat} (hj : j ≤ 32) (hn : okP (a : Int) (n : Int) = true) : coversB ((hi a j : Nat) : Int) (j : Int) a (n : Int) = decide (j ≤ n) := by
  rw [covers_hi hj hn]
  simp
end Go.Proofs.YtcjeifpdikojlaaDoor

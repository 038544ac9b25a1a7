/-
  Bits of numbers, the program's and the document's; the document's Mask and Norm.
-/
import Derived.Test.YtcjeifpdikojlaaDoorRight
namespace Go.Proofs.YtcjeifpdikojlaaDoor
set_option linter.unusedVariables false
set_option linter.unusedSimpArgs false
open Go.RowKit

/-- A bit of a number. -/
def bitI (a : Nat) (i : Int) : Nat := if 0 ≤ i ∧ i ≤ 31 then a / 2 ^ (31 - i.toNat) % 2 else 0
/-- What the document's loops hold after j rounds. -/
def nf (a k j : Nat) : Nat := if j ≤ k then a / 2 ^ (32 - j) else a / 2 ^ (32 - k) * 2 ^ (j - k)

theorem bitI_in {a i : Nat} (h : i ≤ 31) : bitI a (i : Int) = a / 2 ^ (31 - i) % 2 := by
  unfold bitI; rw [if_pos ⟨by omega, by omega⟩, Int.toNat_natCast]
theorem bitI_out {a : Nat} {i : Int} (h : i < 0 ∨ 31 < i) : bitI a i = 0 := by
  unfold bitI; rw [if_neg (by omega)]
theorem half_pow (a : Nat) {j : Nat} (h : 0 < j) (h2 : j ≤ 31) : a / 2 ^ (31 - j) / 2 = a / 2 ^ (31 - (j - 1)) := by
  rw [Nat.div_div_eq_div_mul, ← Nat.pow_succ]
  congr 2
  omega
theorem nf_zero {a : Nat} (k : Nat) (h : a < 4294967296) : nf a k 0 = 0 := by
  unfold nf
  rw [if_pos (Nat.zero_le _)]
  exact Nat.div_eq_of_lt (by simpa using h)
theorem nf_lt (a : Nat) {k j : Nat} (h : j < k) (hk : k ≤ 32) : nf a k (j + 1) = 2 * nf a k j + a / 2 ^ (31 - j) % 2 := by
  unfold nf
  rw [if_pos (by omega), if_pos (by omega)]
  have e1 : 32 - (j + 1) = 31 - j := by omega
  have e2 : a / 2 ^ (32 - j) = a / 2 ^ (31 - j) / 2 := by
    rw [Nat.div_div_eq_div_mul, ← Nat.pow_succ]
    congr 2
    omega
  rw [e1, e2]
  omega
theorem nf_ge (a : Nat) {k j : Nat} (h : k ≤ j) : nf a k (j + 1) = 2 * nf a k j := by
  unfold nf
  rw [if_neg (by omega)]
  by_cases hj : j ≤ k
  · obtain rfl : j = k := by omega
    rw [if_pos hj, Nat.add_sub_cancel_left, Nat.pow_one, Nat.mul_comm]
  · rw [if_neg hj]
    have e : j + 1 - k = (j - k) + 1 := by omega
    rw [e, Nat.pow_succ, ← Nat.mul_assoc, Nat.mul_comm]
theorem nf_end (a : Nat) {k : Nat} (hk : k ≤ 32) : nf a k 32 = hi a k := by
  unfold nf hi
  by_cases h : 32 ≤ k
  · obtain rfl : k = 32 := by omega
    simp
  · rw [if_neg h]
theorem nf_le (a : Nat) {k j : Nat} (hj : j ≤ 32) : nf a k j ≤ a := by
  unfold nf
  by_cases h : j ≤ k
  · rw [if_pos h]; exact Nat.div_le_self _ _
  · rw [if_neg h]
    exact Nat.le_trans (Nat.mul_le_mul_left _ (Nat.pow_le_pow_right (by decide) (by omega))) (hi_le a k)
theorem all_bits : ∀ j, j < 32 → 4294967295 / 2 ^ (31 - j) % 2 = 1 := by decide
theorem all_hi : ∀ k, k < 33 → hi 4294967295 k = maskN k := by decide

theorem RefBit_any (a : Nat) (i : Int) (w : World) (ha : a < 4294967296) (h0 : -9223372036854775808 ≤ i) (h1 : i ≤ 9223372036854775807) :
    Calls Tryd.prog 70 #[.int .u32 (a : Int), .int .i64 i] w fun e w' => e = .returned (.int .i64 (bitI a i : Nat)) ∧ w = w' := by
  rcases (show i < 0 ∨ (¬ i < 0 ∧ 31 < i) ∨ (0 ≤ i ∧ i ≤ 31) by omega) with h | ⟨h, h2⟩ | ⟨h, h2⟩
  · have e1 := Lib.hid (bitI_out (a := a) (i := i) (.inl h))
    go_enter Tryd.func70, Tryd.ntmps70
    go_wp2_with fail
    go_ret
    exact ⟨by rw [e1.out]; rfl, rfl⟩
  · have e1 := Lib.hid (bitI_out (a := a) (i := i) (.inr h2))
    go_enter Tryd.func70, Tryd.ntmps70
    go_wp2_with fail
    go_ret
    exact ⟨by rw [e1.out]; rfl, rfl⟩
  · obtain ⟨k, rfl⟩ := Int.eq_ofNat_of_zero_le h
    have e1 := Lib.hid (bitI_in (a := a) (i := k) (by omega))
    have hz : ¬ ((k : Int) < 0) := by omega
    have hz2 : ¬ ((31 : Int) < (k : Int)) := by omega
    go_enter Tryd.func70, Tryd.ntmps70
    go_wp2_with fail
    go_loop [5, 6] (fun n m => ∃ j : Nat, k ≤ j ∧ j ≤ 31 ∧ m = .int .i64 (j : Int) ∧ n = .int .i64 ((a / 2 ^ (31 - j) : Nat) : Int)) (fun _ m => (intOf m).toNat)
    case atStart => exact ⟨31, by omega, by omega, rfl, by simp⟩
    case round =>
      obtain ⟨j, hj1, hj2, rfl, rfl⟩ := hrel
      obtain ⟨X, hX⟩ : ∃ X, X = a / 2 ^ (31 - j) := ⟨_, rfl⟩
      have hXa : X ≤ a := by rw [hX]; exact Nat.div_le_self _ _
      rw [← hX]
      by_cases hz : j = k
      · subst hz
        have hX2 := Lib.hid hX; clear hX
        go_wp2
        go_ret
        exact ⟨by rw [e1.out, ← hX2.out]; rfl, rfl⟩
      · have hX2 := Lib.hid hX; clear hX
        have hlt : (k : Int) < (j : Int) := by omega
        go_wp2
        go_round
        case rel => exact ⟨j - 1, by omega, by omega, by go_num, by rw [← half_pow a (by omega) hj2, ← hX2.out]; go_num⟩
        case measure => simp [intOf]; omega
end Go.Proofs.YtcjeifpdikojlaaDoor

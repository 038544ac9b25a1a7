/-
  The program's Bit; the document's Mask.
-/
import Derived.Test.YtfdeafjkiagjfaaDoorBits
namespace Go.Proofs.YtfdeafjkiagjfaaDoor
set_option linter.unusedVariables false
set_option linter.unusedSimpArgs false
open Go.RowKit

theorem bit_shr (a k : Nat) (h : a / 2 ^ (31 - k) < 4294967296) : wrap64 (bits .and .u32 ((a : Int) / 2 ^ (31 - k)) 1) = ((a / 2 ^ (31 - k) % 2 : Nat) : Int) := by
  have e : ((a : Int) / 2 ^ (31 - k)) = ((a / 2 ^ (31 - k) : Nat) : Int) := by simp
  rw [e]
  have h2 := u32_and_nat (a / 2 ^ (31 - k)) 1 h (by decide)
  have e3 : (((1 : Nat) : Int)) = 1 := rfl
  rw [e3] at h2
  rw [h2, Nat.and_one_is_mod]
  exact IntWalk.wrap64_in _ ⟨by omega, by omega⟩

theorem Bit_any (a : Nat) (i : Int) (w : World) (ha : a < 4294967296) (h0 : -9223372036854775808 ≤ i) (h1 : i ≤ 9223372036854775807) :
    Calls Tryd.prog 11 #[.int .u32 (a : Int), .int .i64 i] w fun e w' => e = .returned (.int .i64 (bitI a i : Nat)) ∧ w = w' := by
  rcases (show i < 0 ∨ (¬ i < 0 ∧ 31 < i) ∨ (0 ≤ i ∧ i ≤ 31) by omega) with h | ⟨h, h2⟩ | ⟨h, h2⟩
  · have e1 := Lib.hid (bitI_out (a := a) (i := i) (.inl h))
    go_enter Tryd.func11, Tryd.ntmps11
    go_wp2_with fail
    go_ret
    exact ⟨by rw [e1.out]; rfl, rfl⟩
  · have e1 := Lib.hid (bitI_out (a := a) (i := i) (.inr h2))
    have h3 : (32 : Int) ≤ i := by omega
    go_enter Tryd.func11, Tryd.ntmps11
    go_wp2_with fail
    go_ret
    exact ⟨by rw [e1.out]; rfl, rfl⟩
  · obtain ⟨k, rfl⟩ := Int.eq_ofNat_of_zero_le h
    have e1 := Lib.hid (bitI_in (a := a) (i := k) (by omega))
    have hz : ¬ ((k : Int) < 0) := by omega
    have hz2 : ¬ ((32 : Int) ≤ (k : Int)) := by omega
    have hz3 : ((k : Int)) ≤ 31 := by omega
    go_enter Tryd.func11, Tryd.ntmps11
    go_wp2_with fail
    go_ret
    exact ⟨by rw [e1.out, ← bit_shr a k (Nat.lt_of_le_of_lt (Nat.div_le_self _ _) ha)]; rfl, rfl⟩

set_option maxHeartbeats 400000 in
theorem RefMask_any (n : Int) (w : World) (h0 : -9223372036854775808 ≤ n) (h1 : n ≤ 9223372036854775807) :
    Calls Tryd.prog 10 #[.int .i64 n] w fun e w' => e = .returned (.int .u32 (maskN (cl n) : Nat)) ∧ w = w' := by
  obtain ⟨k, hk⟩ : ∃ k, k = cl n := ⟨_, rfl⟩
  have hle := cl_le n
  have hcmp : ∀ j : Nat, j < 32 → ((j : Int) < n ↔ j < k) := by
    intro j hj
    rw [hk]
    rcases (show n < 0 ∨ 32 < n ∨ (0 ≤ n ∧ n ≤ 32) by omega) with h | h | ⟨h, h2⟩
    · rw [cl_neg h]; omega
    · rw [cl_big h]; omega
    · have := cl_of h h2; omega
  rw [← hk] at hle ⊢
  have HK := Lib.hid hk; clear hk
  have e1 := Lib.hid ((nf_end 4294967295 hle).trans (all_hi k (by omega)))
  have e0 := Lib.hid (nf_zero (a := 4294967295) k (by decide))
  have HC := Lib.hid hcmp; clear hcmp
  have hml := maskN_lt k
  go_enter Tryd.func10, Tryd.ntmps10
  go_wp2_with fail
  go_loop [3, 4] (fun x m => ∃ j : Nat, j ≤ 32 ∧ m = .int .i64 (j : Int) ∧ x = .int .i64 ((nf 4294967295 k j : Nat) : Int)) (fun _ m => 32 - (intOf m).toNat)
  case atStart => exact ⟨0, by omega, rfl, by rw [e0.out]; rfl⟩
  case round =>
    obtain ⟨j, hj, rfl, rfl⟩ := hrel
    by_cases hz : j = 32
    · subst hz
      rw [e1.out]
      go_wp2
      go_ret
      exact ⟨by go_num, rfl⟩
    · have hX1 := nf_le 4294967295 (k := k) hj
      have hj32 : (j : Int) < 32 := by omega
      have hst : nf 4294967295 k (j + 1) = 2 * nf 4294967295 k j + (if j < k then 1 else 0) := by
        by_cases hjk : j < k
        · rw [if_pos hjk, nf_lt _ hjk hle, all_bits j (by omega)]
        · rw [if_neg hjk, nf_ge _ (by omega), Nat.add_zero]
      have hX3 := nf_le 4294967295 (k := k) (j := j + 1) (by omega)
      obtain ⟨X, hX⟩ : ∃ X, X = nf 4294967295 k j := ⟨_, rfl⟩
      obtain ⟨Y, hY⟩ : ∃ Y, Y = nf 4294967295 k (j + 1) := ⟨_, rfl⟩
      rw [← hX] at hX1 hst ⊢
      rw [← hY] at hst hX3
      have HX := Lib.hid hX; have HY := Lib.hid hY
      clear hX hY
      by_cases hjk : j < k
      · have hlt : (j : Int) < n := (HC.out j (by omega)).2 hjk
        rw [if_pos hjk] at hst
        go_wp2
        go_round
        case rel => exact ⟨j + 1, by omega, by go_num, by rw [← HY.out, hst]; go_num⟩
        case measure => simp [intOf]; omega
      · have hlt : ¬ (j : Int) < n := fun h => hjk ((HC.out j (by omega)).1 h)
        rw [if_neg hjk] at hst
        go_wp2
        go_round
        case rel => exact ⟨j + 1, by omega, by go_num, by rw [← HY.out, hst]; go_num⟩
        case measure => simp [intOf]; omega
end Go.Proofs.YtfdeafjkiagjfaaDoor

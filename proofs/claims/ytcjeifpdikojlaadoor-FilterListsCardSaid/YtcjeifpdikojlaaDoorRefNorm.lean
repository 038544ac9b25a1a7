/-
  The document's Norm and Right (the three cases of Norm are written by a program).
-/
import Derived.Test.YtcjeifpdikojlaaDoorBitP
import Derived.Deep.RegionHeld3
namespace Go.Proofs.YtcjeifpdikojlaaDoor
set_option linter.unusedVariables false
set_option linter.unusedSimpArgs false
open Go.RowKit

set_option maxHeartbeats 800000 in
theorem RefNorm_mid (a : Nat) (k : Nat) (hk : k ≤ 32) (w : World) (ha : a < 4294967296) :
    Calls Tryd.prog 60 #[.int .u32 (a : Int), .int .i64 (k : Int)] w (RetPfx w (hi a k) (k : Nat)) := by
  have hle : k ≤ 32 := by omega
  have hz1 : ¬ ((k : Int) < 0) := by omega
  have hz2 : ¬ ((32 : Int) < (k : Int)) := by omega
  have e1 := Lib.hid (nf_end a hle)
  have e0 := Lib.hid (nf_zero k ha)
  have hml := Nat.lt_of_le_of_lt (hi_le a k) ha
  have q12 := fun (j : Nat) (hj : j < 32) w => Lib.hid (RefBit_any a (j : Int) w ha (by omega) (by omega))
  go_enter Tryd.func60, Tryd.ntmps60
  go_wp2_with fail
  go_loop [6, 7] (fun x m => ∃ j : Nat, j ≤ 32 ∧ m = .int .i64 (j : Int) ∧ x = .int .i64 ((nf a k j : Nat) : Int)) (fun _ m => 32 - (intOf m).toNat)
  case atStart => exact ⟨0, by omega, rfl, by rw [e0.out]; rfl⟩
  case round =>
    obtain ⟨j, hj, rfl, rfl⟩ := hrel
    by_cases hz : j = 32
    · subst hz
      rw [e1.out]
      clear q12
      go_wp2
      exact bodyPost_ret (v := .agg #[.int .u32 ((hi a k : Nat) : Int), .int .i64 ((k : Nat) : Int)]) (by simp [results, Tryd.results60, go_sem]) rfl ⟨rfl, (Below.refl _ _).alloc (Nat.le_refl _) _⟩
    · have hX1 := nf_le a (k := k) hj
      have hj32 : (j : Int) < 32 := by omega
      have hX3 := nf_le a (k := k) (j := j + 1) (by omega)
      by_cases hjk : j < k
      · have hst := nf_lt a hjk hle
        have hlt : (j : Int) < (k : Int) := by omega
        have h12 := q12 j (by omega)
        rw [bitI_in (by omega)] at h12
        clear q12
        obtain ⟨b, hb⟩ : ∃ b, b = a / 2 ^ (31 - j) % 2 := ⟨_, rfl⟩
        obtain ⟨X, hX⟩ : ∃ X, X = nf a k j := ⟨_, rfl⟩
        obtain ⟨Y, hY⟩ : ∃ Y, Y = nf a k (j + 1) := ⟨_, rfl⟩
        have hb2 : b < 2 := by rw [hb]; exact Nat.mod_lt _ (by decide)
        rw [← hX] at hX1 hst ⊢
        rw [← hY] at hst hX3
        rw [← hb] at hst h12
        have HX := Lib.hid hX; have HY := Lib.hid hY; have HB := Lib.hid hb
        clear hX hY hb
        go_wp2_with fail
        refine (h12 _).out.mono ?_
        rintro e w1 ⟨rfl, rfl⟩
        go_wp2_with fail
        go_round
        case rel => exact ⟨j + 1, by omega, by go_num, by rw [← HY.out, hst]; go_num⟩
        case measure => simp [intOf]; omega
      · have hst := nf_ge a (k := k) (j := j) (by omega)
        have hlt : ¬ (j : Int) < (k : Int) := by omega
        clear q12
        obtain ⟨X, hX⟩ : ∃ X, X = nf a k j := ⟨_, rfl⟩
        obtain ⟨Y, hY⟩ : ∃ Y, Y = nf a k (j + 1) := ⟨_, rfl⟩
        rw [← hX] at hX1 hst ⊢
        rw [← hY] at hst hX3
        have HX := Lib.hid hX; have HY := Lib.hid hY
        clear hX hY
        go_wp2_with fail
        go_round
        case rel => exact ⟨j + 1, by omega, by go_num, by rw [← HY.out, hst]; go_num⟩
        case measure => simp [intOf]; omega

set_option maxHeartbeats 800000 in
theorem RefNorm_neg (a : Nat) (n : Int) (hz1 : n < 0) (w : World) (ha : a < 4294967296) :
    Calls Tryd.prog 60 #[.int .u32 (a : Int), .int .i64 n] w (RetPfx w (hi a 0) (0 : Nat)) := by
  have hle : 0 ≤ 32 := by omega
  have e1 := Lib.hid (nf_end a hle)
  have e0 := Lib.hid (nf_zero 0 ha)
  have hml := Nat.lt_of_le_of_lt (hi_le a 0) ha
  have q12 := fun (j : Nat) (hj : j < 32) w => Lib.hid (RefBit_any a (j : Int) w ha (by omega) (by omega))
  go_enter Tryd.func60, Tryd.ntmps60
  go_wp2_with fail
  go_loop [6, 7] (fun x m => ∃ j : Nat, j ≤ 32 ∧ m = .int .i64 (j : Int) ∧ x = .int .i64 ((nf a 0 j : Nat) : Int)) (fun _ m => 32 - (intOf m).toNat)
  case atStart => exact ⟨0, by omega, rfl, by rw [e0.out]; rfl⟩
  case round =>
    obtain ⟨j, hj, rfl, rfl⟩ := hrel
    by_cases hz : j = 32
    · subst hz
      rw [e1.out]
      clear q12
      go_wp2
      exact bodyPost_ret (v := .agg #[.int .u32 ((hi a 0 : Nat) : Int), .int .i64 ((0 : Nat) : Int)]) (by simp [results, Tryd.results60, go_sem]) rfl ⟨rfl, (Below.refl _ _).alloc (Nat.le_refl _) _⟩
    · have hX1 := nf_le a (k := 0) hj
      have hj32 : (j : Int) < 32 := by omega
      have hX3 := nf_le a (k := 0) (j := j + 1) (by omega)
      by_cases hjk : j < 0
      · have hst := nf_lt a hjk hle
        have hlt : (j : Int) < 0 := by omega
        have h12 := q12 j (by omega)
        rw [bitI_in (by omega)] at h12
        clear q12
        obtain ⟨b, hb⟩ : ∃ b, b = a / 2 ^ (31 - j) % 2 := ⟨_, rfl⟩
        obtain ⟨X, hX⟩ : ∃ X, X = nf a 0 j := ⟨_, rfl⟩
        obtain ⟨Y, hY⟩ : ∃ Y, Y = nf a 0 (j + 1) := ⟨_, rfl⟩
        have hb2 : b < 2 := by rw [hb]; exact Nat.mod_lt _ (by decide)
        rw [← hX] at hX1 hst ⊢
        rw [← hY] at hst hX3
        rw [← hb] at hst h12
        have HX := Lib.hid hX; have HY := Lib.hid hY; have HB := Lib.hid hb
        clear hX hY hb
        go_wp2_with fail
        refine (h12 _).out.mono ?_
        rintro e w1 ⟨rfl, rfl⟩
        go_wp2_with fail
        go_round
        case rel => exact ⟨j + 1, by omega, by go_num, by rw [← HY.out, hst]; go_num⟩
        case measure => simp [intOf]; omega
      · have hst := nf_ge a (k := 0) (j := j) (by omega)
        have hlt : ¬ (j : Int) < 0 := by omega
        clear q12
        obtain ⟨X, hX⟩ : ∃ X, X = nf a 0 j := ⟨_, rfl⟩
        obtain ⟨Y, hY⟩ : ∃ Y, Y = nf a 0 (j + 1) := ⟨_, rfl⟩
        rw [← hX] at hX1 hst ⊢
        rw [← hY] at hst hX3
        have HX := Lib.hid hX; have HY := Lib.hid hY
        clear hX hY
        go_wp2_with fail
        go_round
        case rel => exact ⟨j + 1, by omega, by go_num, by rw [← HY.out, hst]; go_num⟩
        case measure => simp [intOf]; omega

set_option maxHeartbeats 800000 in
theorem RefNorm_big (a : Nat) (n : Int) (hz2 : 32 < n) (w : World) (ha : a < 4294967296) :
    Calls Tryd.prog 60 #[.int .u32 (a : Int), .int .i64 n] w (RetPfx w (hi a 32) (32 : Nat)) := by
  have hle : 32 ≤ 32 := by omega
  have hz1 : ¬ (n < 0) := by omega
  have e1 := Lib.hid (nf_end a hle)
  have e0 := Lib.hid (nf_zero 32 ha)
  have hml := Nat.lt_of_le_of_lt (hi_le a 32) ha
  have q12 := fun (j : Nat) (hj : j < 32) w => Lib.hid (RefBit_any a (j : Int) w ha (by omega) (by omega))
  go_enter Tryd.func60, Tryd.ntmps60
  go_wp2_with fail
  go_loop [6, 7] (fun x m => ∃ j : Nat, j ≤ 32 ∧ m = .int .i64 (j : Int) ∧ x = .int .i64 ((nf a 32 j : Nat) : Int)) (fun _ m => 32 - (intOf m).toNat)
  case atStart => exact ⟨0, by omega, rfl, by rw [e0.out]; rfl⟩
  case round =>
    obtain ⟨j, hj, rfl, rfl⟩ := hrel
    by_cases hz : j = 32
    · subst hz
      rw [e1.out]
      clear q12
      go_wp2
      exact bodyPost_ret (v := .agg #[.int .u32 ((hi a 32 : Nat) : Int), .int .i64 ((32 : Nat) : Int)]) (by simp [results, Tryd.results60, go_sem]) rfl ⟨rfl, (Below.refl _ _).alloc (Nat.le_refl _) _⟩
    · have hX1 := nf_le a (k := 32) hj
      have hj32 : (j : Int) < 32 := by omega
      have hX3 := nf_le a (k := 32) (j := j + 1) (by omega)
      by_cases hjk : j < 32
      · have hst := nf_lt a hjk hle
        have hlt : (j : Int) < 32 := by omega
        have h12 := q12 j (by omega)
        rw [bitI_in (by omega)] at h12
        clear q12
        obtain ⟨b, hb⟩ : ∃ b, b = a / 2 ^ (31 - j) % 2 := ⟨_, rfl⟩
        obtain ⟨X, hX⟩ : ∃ X, X = nf a 32 j := ⟨_, rfl⟩
        obtain ⟨Y, hY⟩ : ∃ Y, Y = nf a 32 (j + 1) := ⟨_, rfl⟩
        have hb2 : b < 2 := by rw [hb]; exact Nat.mod_lt _ (by decide)
        rw [← hX] at hX1 hst ⊢
        rw [← hY] at hst hX3
        rw [← hb] at hst h12
        have HX := Lib.hid hX; have HY := Lib.hid hY; have HB := Lib.hid hb
        clear hX hY hb
        go_wp2_with fail
        refine (h12 _).out.mono ?_
        rintro e w1 ⟨rfl, rfl⟩
        go_wp2_with fail
        go_round
        case rel => exact ⟨j + 1, by omega, by go_num, by rw [← HY.out, hst]; go_num⟩
        case measure => simp [intOf]; omega
      · exact absurd (show j < 32 by omega) hjk

theorem RefNorm_any (a : Nat) (n : Int) (w : World) (ha : a < 4294967296) :
    Calls Tryd.prog 60 #[.int .u32 (a : Int), .int .i64 n] w (RetPfx w (hi a (cl n)) (cl n : Nat)) := by
  rcases (show n < 0 ∨ 32 < n ∨ (0 ≤ n ∧ n ≤ 32) by omega) with h | h | ⟨h, h2⟩
  · rw [cl_neg h]; exact RefNorm_neg a n h w ha
  · rw [cl_big h]; exact RefNorm_big a n h w ha
  · obtain ⟨k, rfl⟩ := Int.eq_ofNat_of_zero_le h
    rw [cl_nat (by omega)]; exact RefNorm_mid a k (by omega) w ha
end Go.Proofs.YtcjeifpdikojlaaDoor

/-
  The document's Right and Holds.
-/
import Derived.Test.YtcjeifpdikojlaaDoorRefNorm
import Derived.Test.YtcjeifpdikojlaaDoorHolds
namespace Go.Proofs.YtcjeifpdikojlaaDoor
set_option linter.unusedVariables false
set_option linter.unusedSimpArgs false
open Go.RowKit

/-- A prefix is right when its Norm is the prefix itself. -/
theorem norm_eq (a : Nat) (n : Int) : (decide (((hi a (cl n) : Nat) : Int) = (a : Int)) && decide (((cl n : Nat) : Int) = n)) = okP (a : Int) n := by
  unfold okP
  rw [Bool.eq_iff_iff]
  simp only [Bool.and_eq_true, decide_eq_true_eq, Int.toNat_natCast]
  rcases (show n < 0 ∨ 32 < n ∨ (0 ≤ n ∧ n ≤ 32) by omega) with h | h | ⟨h, h2⟩
  · rw [cl_neg h]; omega
  · rw [cl_big h]; omega
  · obtain ⟨k, rfl⟩ := Int.eq_ofNat_of_zero_le h
    rw [cl_nat (by omega), Int.toNat_natCast]
    omega

set_option maxHeartbeats 1600000 in
theorem RefRight_any (a : Nat) (n : Int) (w : World) (ha : a < 4294967296) :
    Calls Tryd.prog 44 #[.agg #[.int .u32 (a : Int), .int .i64 n]] w (RetBool w (okP (a : Int) n)) := by
  have QN := fun w => Lib.hid (RefNorm_any a n w ha)
  have e0 := norm_eq a n
  have HS := Lib.hid (fun w' hb => box_cells w (.int .u32 (a : Int)) (.int .i64 n) (w' := w') hb)
  have hb0 : Below (w.alloc (.cells #[.int .u32 (a : Int), .int .i64 n] 33)).heap.size (w.alloc (.cells #[.int .u32 (a : Int), .int .i64 n] 33)) (w.alloc (.cells #[.int .u32 (a : Int), .int .i64 n] 33)).drew := (Below.refl _ _).drew
  by_cases hA : hi a (cl n) = a
  · rw [hA] at QN e0
    by_cases hB : ((cl n : Nat) : Int) = n
    · have e1 := Lib.hid (show true = okP (a : Int) n by rw [← e0]; simp [hB])
      have e2 := Lib.hid hB
      rw [hB] at QN
      clear e0 hA hB
      go_enter Tryd.func44, Tryd.ntmps44
      go_wp2_with fail
      go_region_held3 (fun w' => w'.cell? ⟨w.heap.size, 0, none⟩ = some (.int .u32 (a : Int)) ∧ w'.cell? ⟨w.heap.size, 1, none⟩ = some (.int .i64 n)) (first | exact HS.out _ hb0 | exact HS.out _ hb1) ((go_at_call 60; refine (QN _).out.mono ?_; rintro e w1 ⟨rfl, hb1'⟩; have hb1 := hb0.trans hb1'))
      go_wp2_with fail
      go_ret
      exact ⟨by rw [← e1.out]; rfl, below_box hb1⟩
    · have e1 := Lib.hid (show false = okP (a : Int) n by rw [← e0]; simp [hB])
      obtain ⟨C, hC⟩ : ∃ C : Int, C = ((cl n : Nat) : Int) := ⟨_, rfl⟩
      rw [← hC] at hB QN
      have hC2 := Lib.hid hC
      clear e0 hA hC
      go_enter Tryd.func44, Tryd.ntmps44
      go_wp2_with fail
      go_region_held3 (fun w' => w'.cell? ⟨w.heap.size, 0, none⟩ = some (.int .u32 (a : Int)) ∧ w'.cell? ⟨w.heap.size, 1, none⟩ = some (.int .i64 n)) (first | exact HS.out _ hb0 | exact HS.out _ hb1) ((go_at_call 60; refine (QN _).out.mono ?_; rintro e w1 ⟨rfl, hb1'⟩; have hb1 := hb0.trans hb1'))
      go_wp2_with fail
      go_ret
      exact ⟨by rw [← e1.out]; rfl, below_box hb1⟩
  · have hA2 : ¬ ((hi a (cl n) : Nat) : Int) = (a : Int) := by omega
    have e1 := Lib.hid (show false = okP (a : Int) n by rw [← e0, decide_eq_false hA2]; rfl)
    obtain ⟨H, hH⟩ : ∃ H : Nat, H = hi a (cl n) := ⟨_, rfl⟩
    obtain ⟨C, hC⟩ : ∃ C : Int, C = ((cl n : Nat) : Int) := ⟨_, rfl⟩
    rw [← hH] at hA hA2
    rw [← hH, ← hC] at QN
    have hC2 := Lib.hid hC
    have hH2 := Lib.hid hH
    clear e0 hC hH
    go_enter Tryd.func44, Tryd.ntmps44
    go_wp2_with fail
    go_region_held3 (fun w' => w'.cell? ⟨w.heap.size, 0, none⟩ = some (.int .u32 (a : Int)) ∧ w'.cell? ⟨w.heap.size, 1, none⟩ = some (.int .i64 n)) (first | exact HS.out _ hb0 | exact HS.out _ hb1) ((go_at_call 60; refine (QN _).out.mono ?_; rintro e w1 ⟨rfl, hb1'⟩; have hb1 := hb0.trans hb1'))
    go_wp2_with fail
    go_ret
    exact ⟨by rw [← e1.out]; rfl, below_box hb1⟩
end Go.Proofs.YtcjeifpdikojlaaDoor

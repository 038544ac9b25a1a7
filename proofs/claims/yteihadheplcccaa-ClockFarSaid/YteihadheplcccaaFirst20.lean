/-
  In how many ticks the first time comes to 0.
-/
import Derived.Test.YteihadheplcccaaSet20
namespace Go.Proofs.Yteihadheplcccaa
set_option linter.unusedVariables false
set_option linter.unusedSimpArgs false
open Go.RowKit

def FirstRel (W1 : World) (a b c : Int) (f i : Value) (wr : World) : Prop := W1 = wr ∧ ∃ (j : Nat) (F : Int), j ≤ 3 ∧ i = .int .i64 (j : Int) ∧ f = .int .i64 F ∧ Hid (F = fstN ⟨a, b, c⟩ j)
set_option maxHeartbeats 3200000 in
theorem First_any (a b c : Int) (w : World) :
    Calls Try.prog 14 #[.agg #[.int .i64 a, .int .i64 b, .int .i64 c]] w fun e w' => e = .returned (.int .i64 (fstN ⟨a, b, c⟩ 3)) ∧ Below w.heap.size w w' := by
  have HB := Lib.hid (show Below w.heap.size w (w.alloc (.cells #[.int .i64 a, .int .i64 b, .int .i64 c] 24)) from (Below.refl _ _).alloc (Nat.le_refl _) _)
  go_enter Try.func14, Try.ntmps14
  go_wp2_with fail
  obtain ⟨W1, hW1⟩ : ∃ W, W = w.alloc (.cells #[.int .i64 a, .int .i64 b, .int .i64 c] 24) := ⟨_, rfl⟩
  rw [← hW1] at HB ⊢
  clear hW1
  go_loopw [3, 8] (fun f i wr => FirstRel W1 a b c f i wr) (fun _ i _ => 3 - (intOf i).toNat)
  case atStart => exact ⟨rfl, 0, 0, by omega, rfl, rfl, Lib.hid rfl⟩
  case round =>
    obtain ⟨rfl, j, F, hj, rfl, rfl, HF⟩ := hrel
    rcases (show j = 0 ∨ j = 1 ∨ j = 2 ∨ j = 3 by omega) with rfl | rfl | rfl | rfl
    · have ix := fun w => index3_0 (.int .i64 a) (.int .i64 b) (.int .i64 c) w
      have HN := Lib.hid (show fstN ⟨a, b, c⟩ 1 = fst2 F a by rw [HF.out]; rfl)
      by_cases h0 : 0 < a
      · have d0 : decide (0 < a) = true := by simpa using h0
        by_cases hf : F = 0
        · have d1 : (F == 0) = true := by simpa using hf
          have HV := Lib.hid (show fst2 F a = a by unfold fst2; rw [if_pos ⟨h0, .inl hf⟩])
          clear hf
          go_wp2_with fail
          go_roundw
          case rel => exact ⟨rfl, 1, a, by omega, by go_num, rfl, Lib.hid (by rw [HN.out, HV.out])⟩
          case measure => simp [intOf]
        · have d1 : (F == 0) = false := by simpa using hf
          by_cases hl : a < F
          · have HV := Lib.hid (show fst2 F a = a by unfold fst2; rw [if_pos ⟨h0, .inr hl⟩])
            clear hf
            go_wp2_with fail
            go_roundw
            case rel => exact ⟨rfl, 1, a, by omega, by go_num, rfl, Lib.hid (by rw [HN.out, HV.out])⟩
            case measure => simp [intOf]
          · have d2 : decide (a < F) = false := by simpa using hl
            have HV := Lib.hid (show fst2 F a = F by unfold fst2; rw [if_neg (fun q => q.2.elim hf hl)])
            clear hf
            go_wp2_with fail
            go_roundw
            case rel => exact ⟨rfl, 1, F, by omega, by go_num, rfl, Lib.hid (by rw [HN.out, HV.out])⟩
            case measure => simp [intOf]
      · have d0 : decide (0 < a) = false := by simpa using h0
        have HV := Lib.hid (show fst2 F a = F by unfold fst2; rw [if_neg (fun q => h0 q.1)])
        go_wp2_with fail
        go_roundw
        case rel => exact ⟨rfl, 1, F, by omega, by go_num, rfl, Lib.hid (by rw [HN.out, HV.out])⟩
        case measure => simp [intOf]
    · have ix := fun w => index3_1 (.int .i64 a) (.int .i64 b) (.int .i64 c) w
      have HN := Lib.hid (show fstN ⟨a, b, c⟩ 2 = fst2 F b by rw [HF.out]; rfl)
      by_cases h0 : 0 < b
      · have d0 : decide (0 < b) = true := by simpa using h0
        by_cases hf : F = 0
        · have d1 : (F == 0) = true := by simpa using hf
          have HV := Lib.hid (show fst2 F b = b by unfold fst2; rw [if_pos ⟨h0, .inl hf⟩])
          clear hf
          go_wp2_with fail
          go_roundw
          case rel => exact ⟨rfl, 2, b, by omega, by go_num, rfl, Lib.hid (by rw [HN.out, HV.out])⟩
          case measure => simp [intOf]
        · have d1 : (F == 0) = false := by simpa using hf
          by_cases hl : b < F
          · have HV := Lib.hid (show fst2 F b = b by unfold fst2; rw [if_pos ⟨h0, .inr hl⟩])
            clear hf
            go_wp2_with fail
            go_roundw
            case rel => exact ⟨rfl, 2, b, by omega, by go_num, rfl, Lib.hid (by rw [HN.out, HV.out])⟩
            case measure => simp [intOf]
          · have d2 : decide (b < F) = false := by simpa using hl
            have HV := Lib.hid (show fst2 F b = F by unfold fst2; rw [if_neg (fun q => q.2.elim hf hl)])
            clear hf
            go_wp2_with fail
            go_roundw
            case rel => exact ⟨rfl, 2, F, by omega, by go_num, rfl, Lib.hid (by rw [HN.out, HV.out])⟩
            case measure => simp [intOf]
      · have d0 : decide (0 < b) = false := by simpa using h0
        have HV := Lib.hid (show fst2 F b = F by unfold fst2; rw [if_neg (fun q => h0 q.1)])
        go_wp2_with fail
        go_roundw
        case rel => exact ⟨rfl, 2, F, by omega, by go_num, rfl, Lib.hid (by rw [HN.out, HV.out])⟩
        case measure => simp [intOf]
    · have ix := fun w => index3_2 (.int .i64 a) (.int .i64 b) (.int .i64 c) w
      have HN := Lib.hid (show fstN ⟨a, b, c⟩ 3 = fst2 F c by rw [HF.out]; rfl)
      by_cases h0 : 0 < c
      · have d0 : decide (0 < c) = true := by simpa using h0
        by_cases hf : F = 0
        · have d1 : (F == 0) = true := by simpa using hf
          have HV := Lib.hid (show fst2 F c = c by unfold fst2; rw [if_pos ⟨h0, .inl hf⟩])
          clear hf
          go_wp2_with fail
          go_roundw
          case rel => exact ⟨rfl, 3, c, by omega, by go_num, rfl, Lib.hid (by rw [HN.out, HV.out])⟩
          case measure => simp [intOf]
        · have d1 : (F == 0) = false := by simpa using hf
          by_cases hl : c < F
          · have HV := Lib.hid (show fst2 F c = c by unfold fst2; rw [if_pos ⟨h0, .inr hl⟩])
            clear hf
            go_wp2_with fail
            go_roundw
            case rel => exact ⟨rfl, 3, c, by omega, by go_num, rfl, Lib.hid (by rw [HN.out, HV.out])⟩
            case measure => simp [intOf]
          · have d2 : decide (c < F) = false := by simpa using hl
            have HV := Lib.hid (show fst2 F c = F by unfold fst2; rw [if_neg (fun q => q.2.elim hf hl)])
            clear hf
            go_wp2_with fail
            go_roundw
            case rel => exact ⟨rfl, 3, F, by omega, by go_num, rfl, Lib.hid (by rw [HN.out, HV.out])⟩
            case measure => simp [intOf]
      · have d0 : decide (0 < c) = false := by simpa using h0
        have HV := Lib.hid (show fst2 F c = F by unfold fst2; rw [if_neg (fun q => h0 q.1)])
        go_wp2_with fail
        go_roundw
        case rel => exact ⟨rfl, 3, F, by omega, by go_num, rfl, Lib.hid (by rw [HN.out, HV.out])⟩
        case measure => simp [intOf]
    · go_wp2_with fail
      go_ret
      exact ⟨by rw [← HF.out]; rfl, HB.out⟩
end Go.Proofs.Yteihadheplcccaa

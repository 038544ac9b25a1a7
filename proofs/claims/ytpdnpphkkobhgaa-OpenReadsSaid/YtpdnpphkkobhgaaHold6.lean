/-
  The time that both sides take, by the code and by the document.
-/
import Derived.Test.YtpdnpphkkobhgaaSeat
namespace Go.Proofs.Ytpdnpphkkobhgaa
set_option linter.unusedVariables false
open Go.RowKit

def holdN (a b : Int) : Int := if a = 0 ∨ b = 0 then 0 else if a < b then a else b
theorem holdN_le {a b : Int} (ha : ¬ a = 0) (hb : ¬ b = 0) (h : a ≤ b) : holdN a b = a := by
  unfold holdN
  rw [if_neg (fun e => e.elim ha hb)]
  split <;> omega
theorem holdN_gt {a b : Int} (ha : ¬ a = 0) (hb : ¬ b = 0) (h : ¬ a ≤ b) : holdN a b = b := by
  unfold holdN
  rw [if_neg (fun e => e.elim ha hb)]
  split <;> omega
theorem holdN_comm (a b : Int) : holdN a b = holdN b a := by
  by_cases ha : a = 0
  · simp [holdN, ha]
  · by_cases hb : b = 0
    · simp [holdN, hb]
    · by_cases h1 : a ≤ b
      · rw [holdN_le ha hb h1]
        by_cases h2 : b ≤ a
        · rw [holdN_le hb ha h2]; omega
        · rw [holdN_gt hb ha h2]
      · rw [holdN_gt ha hb h1, holdN_le hb ha (by omega)]
theorem Hold_any (a b : Int) (w : World) : Calls Try.prog 24 #[.int .i64 a, .int .i64 b] w fun e w' => e = .returned (.int .i64 (holdN a b)) ∧ w = w' := by
  by_cases ha : a = 0
  · subst ha
    go_enter Try.func24, Try.ntmps24
    go_wp2_with fail
    go_ret
    exact ⟨by simp [holdN], rfl⟩
  · by_cases hb : b = 0
    · subst hb
      have h1 : (a == 0) = false := by simpa using ha
      go_enter Try.func24, Try.ntmps24
      go_wp2_with fail
      go_ret
      exact ⟨by simp [holdN], rfl⟩
    · have h1 : (a == 0) = false := by simpa using ha
      have h2 : (b == 0) = false := by simpa using hb
      by_cases hab : a ≤ b
      · have h3 := Lib.hid (holdN_le ha hb hab)
        go_enter Try.func24, Try.ntmps24
        go_wp2_with fail
        go_ret
        exact ⟨by rw [h3.out]; rfl, rfl⟩
      · have h3 := Lib.hid (holdN_gt ha hb hab)
        go_enter Try.func24, Try.ntmps24
        go_wp2_with fail
        go_ret
        exact ⟨by rw [h3.out]; rfl, rfl⟩
theorem RefHold_any (a b : Int) (w : World) : Calls Try.prog 25 #[.int .i64 a, .int .i64 b] w fun e w' => e = .returned (.int .i64 (holdN a b)) ∧ w = w' := by
  by_cases ha : a = 0
  · subst ha
    go_enter Try.func25, Try.ntmps25
    go_wp2_with fail
    go_ret
    exact ⟨by simp [holdN], rfl⟩
  · have h1 : (a == 0) = false := by simpa using ha
    by_cases hb : b = 0
    · subst hb
      go_enter Try.func25, Try.ntmps25
      go_wp2_with fail
      go_ret
      exact ⟨by simp [holdN], rfl⟩
    · have h2 : (b == 0) = false := by simpa using hb
      by_cases hab : a < b
      · have h3 := Lib.hid (holdN_le ha hb (by omega))
        go_enter Try.func25, Try.ntmps25
        go_wp2_with fail
        go_ret
        exact ⟨by rw [h3.out]; rfl, rfl⟩
      · have h3 := Lib.hid (show holdN a b = b from by
          by_cases h1 : a ≤ b
          · rw [holdN_le ha hb h1]; omega
          · rw [holdN_gt ha hb h1])
        go_enter Try.func25, Try.ntmps25
        go_wp2_with fail
        go_ret
        exact ⟨by rw [h3.out]; rfl, rfl⟩
end Go.Proofs.Ytpdnpphkkobhgaa

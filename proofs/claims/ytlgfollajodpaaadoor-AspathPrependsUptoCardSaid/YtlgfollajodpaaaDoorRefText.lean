/-
  Numbers in digits, as the document writes them.
-/
import Derived.Test.YtlgfollajodpaaaDoorText
import Derived.WalkLawsBesides
import Derived.WalkSpells
namespace Go.Proofs.YtlgfollajodpaaaDoor
open Go.RowKit

theorem textL_zero : textL 0 = [48] := by
  have := textL_pos 0
  rw [dec_small (by decide)] at this
  exact this

/-- What the loop of the document's Text holds: the signs behind what is left. -/
def TextRel (N a : Nat) (T : List UInt8) : Prop := (a = 0 ∧ dec N = T) ∨ (0 < a ∧ dec N = dec a ++ T)
theorem TextRel.step {N a : Nat} {T : List UInt8} (h : TextRel N a T) (ha : 0 < a) : TextRel N (a / 10) (dg (a % 10) :: T) := by
  rcases h with ⟨h0, _⟩ | ⟨_, h1⟩
  · omega
  · by_cases h10 : a < 10
    · left
      refine ⟨by omega, ?_⟩
      rw [h1, dec_small h10, Nat.mod_eq_of_lt h10]; rfl
    · right
      refine ⟨by omega, ?_⟩
      rw [h1, dec_step h10, List.append_assoc]; rfl
theorem TextRel.len {N a : Nat} {T : List UInt8} (h : TextRel N a T) : T.length ≤ (dec N).length := by
  rcases h with ⟨_, h1⟩ | ⟨_, h1⟩
  · rw [h1]; exact Nat.le_refl _
  · rw [h1, List.length_append]; omega
theorem TextRel.start (N : Nat) (h : 0 < N) : TextRel N N [] := .inr ⟨h, by simp⟩
theorem TextRel.done {N : Nat} {T : List UInt8} (h : TextRel N 0 T) : dec N = T := by
  rcases h with ⟨_, h1⟩ | ⟨h0, _⟩
  · exact h1
  · omega

theorem ten_cut (k : Nat) (hk : k < 10) : (ByteArray.mk #[48, 49, 50, 51, 52, 53, 54, 55, 56, 57]).extract k (k + 1) = ⟨[dg k].toArray⟩ := by
  rcases (show k = 0 ∨ k = 1 ∨ k = 2 ∨ k = 3 ∨ k = 4 ∨ k = 5 ∨ k = 6 ∨ k = 7 ∨ k = 8 ∨ k = 9 by omega) with rfl | rfl | rfl | rfl | rfl | rfl | rfl | rfl | rfl | rfl <;> rfl

theorem tmod_neg10 (a : Nat) : (-(a : Int)).tmod 10 = -((a % 10 : Nat) : Int) := by
  rw [Int.neg_tmod, Int.tmod_eq_emod_of_nonneg (by omega)]
  omega
theorem tdiv_neg10 (a : Nat) : (-(a : Int)).tdiv 10 = -((a / 10 : Nat) : Int) := by
  rw [Int.neg_tdiv, Int.tdiv_eq_ediv_of_nonneg (by omega)]
  omega

end Go.Proofs.YtlgfollajodpaaaDoor

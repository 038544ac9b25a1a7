/-
  Numbers in digits, as the document writes them.
-/
import Derived.Test.YtpimnbalffaliaaDoorText
import Derived.WalkLawsBesides
import Derived.WalkSpells
namespace Go.Proofs.YtpimnbalffaliaaDoor
open Go.RowKit

theorem textL_zero : textL 0 = [48] := by
  have := textL_pos 0
  rw [dec_small (by decide)] at this
  exact this

/-- What the loop of the document's Text holds: the signs behind what is left. -/
def TextRel (N a : Nat) (T : List UInt8) : Prop := (a = 0 ∧ dec N = T) ∨ (0 < a ∧ dec N = dec a ++ T)
theorem TextRel.step {N a : Nat} {T : List UInt8} (h : TextRel N a T) (ha : 0 < a) : TextRel N (a / 10) (dg (a % 10) :: T) := by
  rcases h with ⟨h0, _⟩ | ⟨_, h1⟩
  · omega
  · by_cases h10 : a < 10
    · left
      refine ⟨by omega, ?_⟩
      rw [h1, dec_small h10, Nat.mod_eq_of_lt h10]; rfl
    · right
      refine ⟨by omega, ?_⟩
      rw [h1, dec_step h10, List.append_assoc]; rfl
theorem TextRel.len {N a : Nat} {T : List UInt8} (h : TextRel N a T) : T.length ≤ (dec N).length := by
  rcases h with ⟨_, h1⟩ | ⟨_, h1⟩
  · rw [h1]; exact Nat.le_refl _
  · rw [h1, List.length_append]; omega
theorem TextRel.start (N : Nat) (h : 0 < N) : TextRel N N [] := .inr ⟨h, by simp⟩
theorem TextRel.done {N : Nat} {T : List UInt8} (h : TextRel N 0 T) : dec N = T := by
  rcases h with ⟨_, h1⟩ | ⟨h0, _⟩
  · exact h1
  · omega

theorem ten_cut (k : Nat) (hk : k < 10) : (ByteArray.mk #[48, 49, 50, 51, 52, 53, 54, 55, 56, 57]).extract k (k + 1) = ⟨[dg k].toArray⟩ := by
  rcases (show k = 0 ∨ k = 1 ∨ k = 2 ∨ k = 3 ∨ k = 4 ∨ k = 5 ∨ k = 6 ∨ k = 7 ∨ k = 8 ∨ k = 9 by omega) with rfl | rfl | rfl | rfl | rfl | rfl | rfl | rfl | rfl | rfl <;> rfl

set_option maxHeartbeats 800000 in
theorem refText_pos (N : Nat) (w : World) (h0 : 0 < N) (h1 : N ≤ 9223372036854775807) :
    Calls Tryd.prog 41 #[.int .i64 (N : Int)] w fun e w' => e = .returned (.string ⟨(textL N).toArray⟩) ∧ w = w' := by
  have hlen := dec_len 19 N (by omega)
  have hT := Lib.hid (textL_pos N)
  have hs := Lib.hid (TextRel.start N h0)
  go_enter Tryd.func41, Tryd.ntmps41
  go_wp2_with fail
  go_loop [3, 4] (fun s m => ∃ (a : Nat) (T : List UInt8), s = .string ⟨T.toArray⟩ ∧ m = .int .i64 (a : Int) ∧ a ≤ N ∧ Hid (TextRel N a T)) (fun _ m => (intOf m).toNat)
  case atStart => exact ⟨N, [], rfl, rfl, Nat.le_refl _, hs⟩
  case round =>
    obtain ⟨a, T, rfl, rfl, ha, hR⟩ := hrel
    have hl := hR.out.len
    by_cases hz : a = 0
    · subst hz
      have hd := Lib.hid hR.out.done
      go_wp2
      go_ret
      exact ⟨by rw [hT.out, hd.out]; rfl, rfl⟩
    · have hz1 : ((a : Int) != 0) = true := by simpa using hz
      have ks := ten_cut (a % 10) (by omega)
      have hst := Lib.hid (hR.out.step (by omega))
      go_wp2
      go_round
      case rel => exact ⟨a / 10, dg (a % 10) :: T, congrArg Value.string (ba_append [dg (a % 10)] T), by go_num, by omega, hst⟩
      case measure => simp [intOf]; omega

theorem tmod_neg10 (a : Nat) : (-(a : Int)).tmod 10 = -((a % 10 : Nat) : Int) := by
  rw [Int.neg_tmod, Int.tmod_eq_emod_of_nonneg (by omega)]
  omega
theorem tdiv_neg10 (a : Nat) : (-(a : Int)).tdiv 10 = -((a / 10 : Nat) : Int) := by
  rw [Int.neg_tdiv, Int.tdiv_eq_ediv_of_nonneg (by omega)]
  omega

set_option maxHeartbeats 800000 in
theorem refText_neg (N : Nat) (w : World) (h0 : 0 < N) (h1 : N ≤ 9223372036854775808) :
    Calls Tryd.prog 41 #[.int .i64 (-(N : Int))] w fun e w' => e = .returned (.string ⟨(textL (-(N : Int))).toArray⟩) ∧ w = w' := by
  have hlen := dec_len 19 N (by omega)
  have hT := Lib.hid (textL_neg N h0)
  have hs := Lib.hid (TextRel.start N h0)
  have hn0 : ((-(N : Int)) == 0) = false := by simp; omega
  have hn1 : -(N : Int) < 0 := by omega
  go_enter Tryd.func41, Tryd.ntmps41
  go_wp2_with fail
  go_loop [3, 4] (fun s m => ∃ (a : Nat) (T : List UInt8), s = .string ⟨T.toArray⟩ ∧ m = .int .i64 (-(a : Int)) ∧ a ≤ N ∧ Hid (TextRel N a T)) (fun _ m => (- intOf m).toNat)
  case atStart => exact ⟨N, [], rfl, rfl, Nat.le_refl _, hs⟩
  case round =>
    obtain ⟨a, T, rfl, rfl, ha, hR⟩ := hrel
    have hl := hR.out.len
    by_cases hz : a = 0
    · subst hz
      have hd := Lib.hid hR.out.done
      go_wp2
      go_ret
      exact ⟨(congrArg (fun s => Ending.returned (.string s)) (ba_append [45] T)).trans (by rw [hT.out, hd.out]; rfl), rfl⟩
    · have hz1 : ((-(a : Int)) != 0) = true := by simp; omega
      have ks := ten_cut (a % 10) (by omega)
      have hst := Lib.hid (hR.out.step (by omega))
      have tm := tmod_neg10 a
      have td := tdiv_neg10 a
      by_cases hk : a % 10 = 0
      · go_wp2
        go_round
        case rel => exact ⟨a / 10, dg 0 :: T, congrArg Value.string ((congrArg (· ++ (⟨T.toArray⟩ : ByteArray)) (ten_cut 0 (by decide))).trans (ba_append [dg 0] T)), by go_num, by omega, by have := hst.out; rw [hk] at this; exact this⟩
        case measure => simp [intOf]; omega
      · go_wp2
        go_round
        case rel => exact ⟨a / 10, dg (a % 10) :: T, congrArg Value.string (ba_append [dg (a % 10)] T), by go_num, by omega, hst⟩
        case measure => simp [intOf]; omega

theorem refText_any (n : Int) (w : World) (h0 : -9223372036854775808 ≤ n) (h1 : n ≤ 9223372036854775807) :
    Calls Tryd.prog 41 #[.int .i64 n] w fun e w' => e = .returned (.string ⟨(textL n).toArray⟩) ∧ w = w' := by
  rcases (show n < 0 ∨ n = 0 ∨ 0 < n by omega) with h | h | h
  · obtain ⟨a, rfl⟩ : ∃ a : Nat, n = -(a : Int) := ⟨n.natAbs, by omega⟩
    exact refText_neg a w (by omega) (by omega)
  · subst h
    have e1 := Lib.hid textL_zero
    go_enter Tryd.func41, Tryd.ntmps41
    go_wp2_with fail
    go_ret
    exact ⟨by rw [e1.out]; rfl, rfl⟩
  · obtain ⟨a, rfl⟩ : ∃ a : Nat, n = (a : Int) := ⟨n.natAbs, by omega⟩
    exact refText_pos a w (by omega) (by omega)
end Go.Proofs.YtpimnbalffaliaaDoor

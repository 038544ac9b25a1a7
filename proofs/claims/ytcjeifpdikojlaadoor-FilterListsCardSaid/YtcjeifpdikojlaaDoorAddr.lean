/-
  A number as a text.
-/
import Derived.Test.YtcjeifpdikojlaaDoorRight
import Derived.Test.YtcjeifpdikojlaaDoorText
import Derived.WalkLawsBesides
import Derived.WalkSpells
namespace Go.Proofs.YtcjeifpdikojlaaDoor
set_option linter.unusedVariables false
set_option linter.unusedSimpArgs false
open Go.RowKit

/-- The first j + 1 parts of a number's text. -/
def addrP (a : Nat) : Nat → List UInt8
  | 0 => dec (a / 16777216)
  | 1 => dec (a / 16777216) ++ 46 :: dec (a / 65536 % 256)
  | 2 => (dec (a / 16777216) ++ 46 :: dec (a / 65536 % 256)) ++ 46 :: dec (a / 256 % 256)
  | _ => ((dec (a / 16777216) ++ 46 :: dec (a / 65536 % 256)) ++ 46 :: dec (a / 256 % 256)) ++ 46 :: dec (a % 256)
/-- A number's text. -/
def addrL (a : Nat) : List UInt8 := addrP a 3

theorem addrP_len {a : Nat} (ha : a < 4294967296) (j : Nat) : (addrP a j).length ≤ 15 := by
  have h0 := dec_len 2 (a / 16777216) (by omega)
  have h1 := dec_len 2 (a / 65536 % 256) (by omega)
  have h2 := dec_len 2 (a / 256 % 256) (by omega)
  have h3 := dec_len 2 (a % 256) (by omega)
  rcases (show j = 0 ∨ j = 1 ∨ j = 2 ∨ 2 < j by omega) with rfl | rfl | rfl | h
  · simp only [addrP]; omega
  · simp only [addrP, List.length_append, List.length_cons]; omega
  · simp only [addrP, List.length_append, List.length_cons]; omega
  · obtain ⟨k, rfl⟩ : ∃ k, j = k + 3 := ⟨j - 3, by omega⟩
    simp only [addrP, List.length_append, List.length_cons]; omega

theorem and255 (x : Nat) (h : x < 4294967296) : wrap64 (bits .and .u32 (x : Int) 255) = ((x % 256 : Nat) : Int) := by
  have h2 := u32_and_nat x 255 h (by decide)
  have e3 : (((255 : Nat) : Int)) = 255 := rfl
  rw [e3] at h2
  have e : x &&& 255 = x % 256 := Nat.and_two_pow_sub_one_eq_mod x 8
  rw [h2, e]
  exact IntWalk.wrap64_in _ ⟨by omega, by omega⟩

def AddrRel (w : World) (a : Nat) (v i : Value) (wr : World) : Prop := Below w.heap.size w wr ∧ ∃ j : Nat, j ≤ 3 ∧ i = .int .i64 (16 - 8 * (j : Int)) ∧ v = .string ⟨(addrP a j).toArray⟩
def RetL (w : World) (l : List UInt8) (e : Ending) (w' : World) : Prop := e = .returned (.string ⟨l.toArray⟩) ∧ Below w.heap.size w w'

set_option maxHeartbeats 1600000 in
theorem Addr_any (a : Nat) (w : World) (ha : a < 4294967296) (ht : Tab w) :
    Calls Tryd.prog 63 #[.int .u32 (a : Int)] w (RetL w (addrL a)) := by
  have qT := fun (n : Nat) (h : n < 256) w ht => Lib.hid (Text_any (n : Int) w (by omega) (by omega) ht)
  have HT := Lib.hid ht; clear ht
  have h45 := qT (a / 16777216) (by omega) w HT.out
  rw [textL_pos] at h45
  go_enter Tryd.func63, Tryd.ntmps63
  go_wp2_with fail
  refine h45.out.mono ?_
  rintro e w1 ⟨rfl, hb1⟩
  go_wp2_with fail
  go_loopw [3, 4] (fun v i wr => AddrRel w a v i wr) (fun _ i _ => (intOf i + 8).toNat)
  case atStart => exact ⟨hb1, 0, by omega, rfl, rfl⟩
  case round =>
    clear hb1 h45
    obtain ⟨hbr, j, hj, rfl, rfl⟩ := hrel
    have hl := addrP_len ha j
    have htr := HT.out.below hbr HT.out.lt
    rcases (show j = 0 ∨ j = 1 ∨ j = 2 ∨ j = 3 by omega) with rfl | rfl | rfl | rfl
    · have q1 := qT (a / 65536 % 256) (by omega) wr htr
      rw [textL_pos, ← and255 (a / 65536) (by omega)] at q1
      have e1 : ((a / 65536 : Nat) : Int) = (a : Int) / 65536 := by omega
      rw [e1] at q1; clear e1
      have hd := dec_len 2 (a / 65536 % 256) (by omega)
      have hs1 : ¬ 9223372036854775807 < 1 + (dec (a / 65536 % 256)).length := by omega
      have hs2 : ¬ 9223372036854775807 < (addrP a 0).length + (1 + (dec (a / 65536 % 256)).length) := by omega
      clear qT htr
      go_wp2_with fail
      refine q1.out.mono ?_
      rintro e w2 ⟨rfl, hb2⟩
      go_wp2_with fail
      go_roundw
      case rel => exact ⟨hbr.trans (hb2.mono hbr.size), 1, by omega, by go_num, by rw [ba_append, ba_append]; rfl⟩
      case measure => simp [intOf]; done
    · have q1 := qT (a / 256 % 256) (by omega) wr htr
      rw [textL_pos, ← and255 (a / 256) (by omega)] at q1
      have e1 : ((a / 256 : Nat) : Int) = (a : Int) / 256 := by omega
      rw [e1] at q1; clear e1
      have hd := dec_len 2 (a / 256 % 256) (by omega)
      have hs1 : ¬ 9223372036854775807 < 1 + (dec (a / 256 % 256)).length := by omega
      have hs2 : ¬ 9223372036854775807 < (addrP a 1).length + (1 + (dec (a / 256 % 256)).length) := by omega
      clear qT htr
      go_wp2_with fail
      refine q1.out.mono ?_
      rintro e w2 ⟨rfl, hb2⟩
      go_wp2_with fail
      go_roundw
      case rel => exact ⟨hbr.trans (hb2.mono hbr.size), 2, by omega, by go_num, by rw [ba_append, ba_append]; rfl⟩
      case measure => simp [intOf]; done
    · have q1 := qT (a % 256) (by omega) wr htr
      rw [textL_pos, ← and255 (a) (by omega)] at q1
      have hd := dec_len 2 (a % 256) (by omega)
      have hs1 : ¬ 9223372036854775807 < 1 + (dec (a % 256)).length := by omega
      have hs2 : ¬ 9223372036854775807 < (addrP a 2).length + (1 + (dec (a % 256)).length) := by omega
      clear qT htr
      go_wp2_with fail
      refine q1.out.mono ?_
      rintro e w2 ⟨rfl, hb2⟩
      go_wp2_with fail
      go_roundw
      case rel => exact ⟨hbr.trans (hb2.mono hbr.size), 3, by omega, by go_num, by rw [ba_append, ba_append]; rfl⟩
      case measure => simp [intOf]; done
    · clear qT htr
      go_wp2_with fail
      go_ret
      exact ⟨rfl, hbr⟩
end Go.Proofs.YtcjeifpdikojlaaDoor

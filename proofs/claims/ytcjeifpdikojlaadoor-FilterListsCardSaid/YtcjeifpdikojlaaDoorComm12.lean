/-
  A community as a text.
-/
import Derived.Test.YtcjeifpdikojlaaDoorPText
import Derived.Test.YtcjeifpdikojlaaDoorRefText
namespace Go.Proofs.YtcjeifpdikojlaaDoor
set_option linter.unusedVariables false
set_option linter.unusedSimpArgs false
open Go.RowKit

def nmA : List UInt8 := [110, 111, 45, 101, 120, 112, 111, 114, 116]
def nmB : List UInt8 := [110, 111, 45, 97, 100, 118, 101, 114, 116, 105, 115, 101]
def nmC : List UInt8 := [108, 111, 99, 97, 108, 45, 97, 115]
/-- A community's text. -/
def commL (c : Nat) : List UInt8 := if c = 4294967041 then nmA else if c = 4294967042 then nmB else if c = 4294967043 then nmC else (dec (c / 65536) ++ [58]) ++ dec (c % 65536)
theorem commL_A : commL 4294967041 = nmA := by unfold commL; rw [if_pos rfl]
theorem commL_B : commL 4294967042 = nmB := by unfold commL; rw [if_neg (by decide), if_pos rfl]
theorem commL_C : commL 4294967043 = nmC := by unfold commL; rw [if_neg (by decide), if_neg (by decide), if_pos rfl]
theorem commL_other {c : Nat} (h1 : ¬ c = 4294967041) (h2 : ¬ c = 4294967042) (h3 : ¬ c = 4294967043) : commL c = (dec (c / 65536) ++ [58]) ++ dec (c % 65536) := by
  unfold commL; rw [if_neg h1, if_neg h2, if_neg h3]
theorem commL_len {c : Nat} (hc : c < 4294967296) : (commL c).length ≤ 12 := by
  have h0 := dec_len 4 (c / 65536) (by omega)
  have h1 := dec_len 4 (c % 65536) (by omega)
  unfold commL
  repeat' split
  · decide
  · decide
  · decide
  · simp only [List.length_append, List.length_cons, List.length_nil]; omega

theorem and65535 (x : Nat) (h : x < 4294967296) : wrap64 (bits .and .u32 (x : Int) 65535) = ((x % 65536 : Nat) : Int) := by
  have h2 := u32_and_nat x 65535 h (by decide)
  have e3 : (((65535 : Nat) : Int)) = 65535 := rfl
  rw [e3] at h2
  have e : x &&& 65535 = x % 65536 := Nat.and_two_pow_sub_one_eq_mod x 16
  rw [h2, e]
  exact IntWalk.wrap64_in _ ⟨by omega, by omega⟩

set_option maxHeartbeats 1600000 in
theorem Comm_any (c : Nat) (w : World) (hc : c < 4294967296) (ht : Tab w) :
    Calls Tryd.prog 9 #[.int .u32 (c : Int)] w (RetL w (commL c)) := by
  by_cases h1 : c = 4294967041
  · subst h1
    have e1 := Lib.hid commL_A
    go_enter Tryd.func9, Tryd.ntmps9
    go_wp2_with fail
    go_ret
    exact ⟨by rw [e1.out]; rfl, Below.refl _ _⟩
  by_cases h2 : c = 4294967042
  · subst h2
    have e1 := Lib.hid commL_B
    go_enter Tryd.func9, Tryd.ntmps9
    go_wp2_with fail
    go_ret
    exact ⟨by rw [e1.out]; rfl, Below.refl _ _⟩
  by_cases h3 : c = 4294967043
  · subst h3
    have e1 := Lib.hid commL_C
    go_enter Tryd.func9, Tryd.ntmps9
    go_wp2_with fail
    go_ret
    exact ⟨by rw [e1.out]; rfl, Below.refl _ _⟩
  have e1 := Lib.hid (commL_other h1 h2 h3)
  have k1 : ((c : Int) == 4294967041) = false := by simp; omega
  have k2 : ((c : Int) == 4294967042) = false := by simp; omega
  have k3 : ((c : Int) == 4294967043) = false := by simp; omega
  have qT := fun (n : Nat) (h : n < 65536) w ht => Lib.hid (Text_any (n : Int) w (by omega) (by omega) ht)
  have HT := Lib.hid ht; clear ht
  have q1 := qT (c / 65536) (by omega) w HT.out
  rw [textL_pos] at q1
  have l0 := dec_len 4 (c / 65536) (by omega)
  have l1 := dec_len 4 (c % 65536) (by omega)
  have hs1 : ¬ 9223372036854775807 < (dec (c / 65536)).length + 1 := by omega
  have hs2 : ¬ 9223372036854775807 < (dec (c / 65536)).length + 1 + (dec (c % 65536)).length := by omega
  clear h1 h2 h3 l0 l1
  go_enter Tryd.func9, Tryd.ntmps9
  go_wp2_with fail
  refine q1.out.mono ?_
  rintro e w1 ⟨rfl, hb1⟩
  have q2 := qT (c % 65536) (by omega) w1 (HT.out.below hb1 HT.out.lt)
  rw [textL_pos, ← and65535 c hc] at q2
  clear qT
  go_wp2_with fail
  refine q2.out.mono ?_
  rintro e w2 ⟨rfl, hb2⟩
  go_wp2_with fail
  go_ret
  exact ⟨by rw [e1.out, ← ba_append, ← ba_append]; rfl, hb1.trans (hb2.mono hb1.size)⟩

set_option maxHeartbeats 1600000 in
theorem RefComm_any (c : Nat) (w : World) (hc : c < 4294967296) :
    Calls Tryd.prog 12 #[.int .u32 (c : Int)] w fun e w' => e = .returned (.string ⟨(commL c).toArray⟩) ∧ w = w' := by
  by_cases h1 : c = 4294967041
  · subst h1
    have e1 := Lib.hid commL_A
    go_enter Tryd.func12, Tryd.ntmps12
    go_wp2_with fail
    go_ret
    exact ⟨by rw [e1.out]; rfl, rfl⟩
  by_cases h2 : c = 4294967042
  · subst h2
    have e1 := Lib.hid commL_B
    go_enter Tryd.func12, Tryd.ntmps12
    go_wp2_with fail
    go_ret
    exact ⟨by rw [e1.out]; rfl, rfl⟩
  by_cases h3 : c = 4294967043
  · subst h3
    have e1 := Lib.hid commL_C
    go_enter Tryd.func12, Tryd.ntmps12
    go_wp2_with fail
    go_ret
    exact ⟨by rw [e1.out]; rfl, rfl⟩
  have e1 := Lib.hid (commL_other h1 h2 h3)
  have k1 : ((c : Int) == 4294967041) = false := by simp; omega
  have k2 : ((c : Int) == 4294967042) = false := by simp; omega
  have k3 : ((c : Int) == 4294967043) = false := by simp; omega
  have q1 := Lib.hid (refText_any ((c / 65536 : Nat) : Int) w (by omega) (by omega))
  have q2 := Lib.hid (refText_any ((c % 65536 : Nat) : Int) w (by omega) (by omega))
  rw [textL_pos] at q1 q2
  have l0 := dec_len 4 (c / 65536) (by omega)
  have l1 := dec_len 4 (c % 65536) (by omega)
  have hs1 : ¬ 9223372036854775807 < (dec (c / 65536)).length + 1 := by omega
  have hs2 : ¬ 9223372036854775807 < (dec (c / 65536)).length + 1 + (dec (c % 65536)).length := by omega
  clear h1 h2 h3 l0 l1
  go_enter Tryd.func12, Tryd.ntmps12
  go_wp2_with fail
  refine q1.out.mono ?_
  rintro e w1 ⟨rfl, rfl⟩
  go_wp2_with fail
  refine q2.out.mono ?_
  rintro e w1 ⟨rfl, rfl⟩
  go_wp2_with fail
  go_ret
  exact ⟨by rw [e1.out, ← ba_append, ← ba_append]; rfl, rfl⟩
end Go.Proofs.YtcjeifpdikojlaaDoor

/-
  A number, and a prefix, as a text, by the document.
-/
import Derived.Test.YtcjeifpdikojlaaDoorPText
import Derived.Test.YtcjeifpdikojlaaDoorRefText
import Derived.Test.YtcjeifpdikojlaaDoorRefRight
namespace Go.Proofs.YtcjeifpdikojlaaDoor
set_option linter.unusedVariables false
set_option linter.unusedSimpArgs false
open Go.RowKit

theorem addrL_six (a : Nat) : ((((((⟨(dec (a / 16777216)).toArray⟩ : ByteArray) ++ ⟨#[46]⟩) ++ ⟨(dec (a / 65536 % 256)).toArray⟩) ++ ⟨#[46]⟩) ++ ⟨(dec (a / 256 % 256)).toArray⟩) ++ ⟨#[46]⟩) ++ ⟨(dec (a % 256)).toArray⟩ = ⟨(addrL a).toArray⟩ := by
  have e : (⟨#[46]⟩ : ByteArray) = ⟨([46] : List UInt8).toArray⟩ := rfl
  rw [e, ba_append, ba_append, ba_append, ba_append, ba_append, ba_append]
  simp [addrL, addrP]

set_option maxHeartbeats 1600000 in
theorem RefAddr_any (a : Nat) (w : World) (ha : a < 4294967296) :
    Calls Tryd.prog 68 #[.int .u32 (a : Int)] w fun e w' => e = .returned (.string ⟨(addrL a).toArray⟩) ∧ w = w' := by
  have q := fun (v : Int) (n : Nat) (hv : v = (n : Int)) (h : n < 256) w => Lib.hid (show Calls Tryd.prog 34 #[.int .i64 v] w fun e w' => e = .returned (.string ⟨(dec n).toArray⟩) ∧ w = w' by have h := refText_any (n : Int) w (by omega) (by omega); rw [textL_pos] at h; rw [hv]; exact h)
  have q1 := fun w => (q ((a : Int) / 16777216) (a / 16777216) (by omega) (by omega) w)
  have q2 := fun w => (q ((a : Int) / 65536 % 256) (a / 65536 % 256) (by omega) (by omega) w)
  have q3 := fun w => (q ((a : Int) / 256 % 256) (a / 256 % 256) (by omega) (by omega) w)
  have q4 := fun w => (q ((a : Int) % 256) (a % 256) (by omega) (by omega) w)
  have d1 := dec_len 2 (a / 16777216) (by omega)
  have d2 := dec_len 2 (a / 65536 % 256) (by omega)
  have d3 := dec_len 2 (a / 256 % 256) (by omega)
  have d4 := dec_len 2 (a % 256) (by omega)
  clear q
  go_enter Tryd.func68, Tryd.ntmps68
  go_wp2_with fail
  refine (q1 _).out.mono ?_
  rintro e w1 ⟨rfl, rfl⟩
  go_wp2_with fail
  refine (q2 _).out.mono ?_
  rintro e w1 ⟨rfl, rfl⟩
  have s1 : ¬ 9223372036854775807 < (dec (a / 16777216)).length + 1 + (dec (a / 65536 % 256)).length := by omega
  have s2 : ¬ 9223372036854775807 < (dec (a / 16777216)).length + 1 + (dec (a / 65536 % 256)).length + 1 := by omega
  go_wp2_with fail
  refine (q3 _).out.mono ?_
  rintro e w1 ⟨rfl, rfl⟩
  have s3 : ¬ 9223372036854775807 < (dec (a / 16777216)).length + 1 + (dec (a / 65536 % 256)).length + 1 + (dec (a / 256 % 256)).length := by omega
  have s4 : ¬ 9223372036854775807 < (dec (a / 16777216)).length + 1 + (dec (a / 65536 % 256)).length + 1 + (dec (a / 256 % 256)).length + 1 := by omega
  go_wp2_with fail
  refine (q4 _).out.mono ?_
  rintro e w1 ⟨rfl, rfl⟩
  have s5 : ¬ 9223372036854775807 < (dec (a / 16777216)).length + 1 + (dec (a / 65536 % 256)).length + 1 + (dec (a / 256 % 256)).length + 1 + (dec (a % 256)).length := by omega
  go_wp2_with fail
  go_ret
  exact ⟨by rw [← addrL_six]; rfl, rfl⟩
end Go.Proofs.YtcjeifpdikojlaaDoor

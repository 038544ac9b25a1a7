/-
  prefix's Right, Holds and Covers.
-/
import Derived.Test.YtcjeifpdikojlaaDoorMask
import Derived.Deep.QuietTactic
import Derived.BigQuiet
namespace Go.Proofs.YtcjeifpdikojlaaDoor
set_option linter.unusedVariables false
set_option linter.unusedSimpArgs false
open Go.RowKit

/-- A call in a quiet walk, by a contract that leaves the world as it is. -/
theorem still {P : Program} {f : FuncId} {args : Array Value} {w : World} {n : Nat} {v : Value} (h : Calls P f args (w.drewN n) fun e w' => e = .returned v ∧ w.drewN n = w') :
    Calls P f args (w.drewN n) fun e w' => e = .returned v ∧ ∃ m, w' = w.drewN m := h.mono fun _ _ ⟨he, hm⟩ => ⟨he, n, hm.symm⟩

theorem andNot_val {a k : Nat} (ha : a < 4294967296) (h : k ≤ 32) : bits .andNot .u32 (a : Int) ((maskN k : Nat) : Int) = ((a % 2 ^ (32 - k) : Nat) : Int) := by
  rw [u32_andNot_nat a (maskN k) ha (maskN_lt k), andNot_mask h]
theorem okP_in {a k : Nat} (h : k ≤ 32) : okP (a : Int) (k : Int) = (((a % 2 ^ (32 - k) : Nat) : Int) == 0) := by
  unfold okP
  rw [Bool.eq_iff_iff]
  simp only [decide_eq_true_eq, beq_iff_eq, Int.toNat_natCast]
  rw [hi_eq_iff]
  omega
theorem okP_out {a n : Int} (h : n < 0 ∨ 32 < n) : okP a n = false := by
  unfold okP
  simp only [decide_eq_false_iff_not]
  omega

def RetBool (w : World) (b : Bool) (e : Ending) (w' : World) : Prop := e = .returned (.bool b) ∧ Below w.heap.size w w'

set_option maxHeartbeats 800000 in
theorem Right_any (a : Nat) (n : Int) (w : World) (ha : a < 4294967296) (h0 : -9223372036854775808 ≤ n) (h1 : n ≤ 9223372036854775807) :
    Calls Tryd.prog 43 #[.agg #[.int .u32 (a : Int), .int .i64 n]] w (RetBool w (okP (a : Int) n)) := by
  by_cases hn : n < 0
  · have e1 := Lib.hid (okP_out (a := (a : Int)) (n := n) (.inl hn))
    have hd : decide ((0 : Int) ≤ n) = false := by simpa using hn
    go_enter Tryd.func43, Tryd.ntmps43
    go_wp2_with fail
    go_quiet (fail)
    go_wp2_with fail
    go_ret
    exact ⟨by rw [e1.out]; rfl, below_drewN ((Below.refl _ _).alloc (Nat.le_refl _) _) _⟩
  · obtain ⟨k, rfl⟩ := Int.eq_ofNat_of_zero_le (show 0 ≤ n by omega)
    have hd : decide ((0 : Int) ≤ (k : Int)) = true := by simp
    by_cases hk : k ≤ 32
    · have hd2 : decide ((k : Int) ≤ 32) = true := by simp; omega
      have e1 := Lib.hid (okP_in (a := a) hk)
      have q9 := fun w => Lib.hid (Mask_any (k : Int) w (by omega) (by omega))
      rw [cl_nat hk] at q9
      have hb := andNot_val ha hk
      go_enter Tryd.func43, Tryd.ntmps43
      go_wp2_with fail
      go_quiet ((go_at_call 59; exact still (q9 _).out))
      go_wp2_with fail
      go_ret
      exact ⟨by rw [e1.out]; rfl, below_drewN ((Below.refl _ _).alloc (Nat.le_refl _) _) _⟩
    · have hd2 : decide ((k : Int) ≤ 32) = false := by simp; omega
      have e1 := Lib.hid (okP_out (a := (a : Int)) (n := (k : Int)) (.inr (by omega)))
      go_enter Tryd.func43, Tryd.ntmps43
      go_wp2_with fail
      go_quiet (fail)
      go_wp2_with fail
      go_ret
      exact ⟨by rw [e1.out]; rfl, below_drewN ((Below.refl _ _).alloc (Nat.le_refl _) _) _⟩
end Go.Proofs.YtcjeifpdikojlaaDoor

/-
  The program's Bit; the document's Mask.
-/
import Derived.Test.YtcjeifpdikojlaaDoorBits
namespace Go.Proofs.YtcjeifpdikojlaaDoor
set_option linter.unusedVariables false
set_option linter.unusedSimpArgs false
open Go.RowKit

theorem bit_shr (a k : Nat) (h : a / 2 ^ (31 - k) < 4294967296) : wrap64 (bits .and .u32 ((a : Int) / 2 ^ (31 - k)) 1) = ((a / 2 ^ (31 - k) % 2 : Nat) : Int) := by
  have e : ((a : Int) / 2 ^ (31 - k)) = ((a / 2 ^ (31 - k) : Nat) : Int) := by simp
  rw [e]
  have h2 := u32_and_nat (a / 2 ^ (31 - k)) 1 h (by decide)
  have e3 : (((1 : Nat) : Int)) = 1 := rfl
  rw [e3] at h2
  rw [h2, Nat.and_one_is_mod]
  exact IntWalk.wrap64_in _ ⟨by omega, by omega⟩

end Go.Proofs.YtcjeifpdikojlaaDoor

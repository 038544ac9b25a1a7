/-
  prefix's within and Mask.
-/
import Derived.Test.YtcjeifpdikojlaaDoorSeat
import Derived.Test.YtcjeifpdikojlaaDoorPfx
import Derived.WalkLawsBesides
namespace Go.Proofs.YtcjeifpdikojlaaDoor
set_option linter.unusedVariables false
set_option linter.unusedSimpArgs false
open Go.RowKit

theorem within_any (n : Int) (w : World) (h0 : -9223372036854775808 ≤ n) (h1 : n ≤ 9223372036854775807) :
    Calls Tryd.prog 69 #[.int .i64 n] w fun e w' => e = .returned (.int .i64 (cl n : Nat)) ∧ w = w' := by
  rcases (show n < 0 ∨ (¬ n < 0 ∧ 32 < n) ∨ (¬ n < 0 ∧ ¬ 32 < n) by omega) with h | ⟨h, h2⟩ | ⟨h, h2⟩
  · have e1 := Lib.hid (cl_neg h)
    go_enter Tryd.func69, Tryd.ntmps69
    go_wp2_with fail
    go_ret
    exact ⟨by rw [e1.out]; rfl, rfl⟩
  · have e1 := Lib.hid (cl_big h2)
    go_enter Tryd.func69, Tryd.ntmps69
    go_wp2_with fail
    go_ret
    exact ⟨by rw [e1.out]; rfl, rfl⟩
  · have e1 := Lib.hid (cl_of (n := n) (by omega) (by omega))
    go_enter Tryd.func69, Tryd.ntmps69
    go_wp2_with fail
    go_ret
    exact ⟨by rw [e1.out]; rfl, rfl⟩

theorem shl_mask (k : Nat) : (4294967295 * 2 ^ (32 - k) % 4294967296 : Int) = ((maskN k : Nat) : Int) := by
  have h1 := pow_le32 k
  have h2 : 0 < 2 ^ (32 - k) := Nat.pow_pos (by decide)
  unfold maskN
  have e : ((2 : Int) ^ (32 - k)) = ((2 ^ (32 - k) : Nat) : Int) := by simp
  rw [e]
  omega

theorem Mask_any (n : Int) (w : World) (h0 : -9223372036854775808 ≤ n) (h1 : n ≤ 9223372036854775807) :
    Calls Tryd.prog 59 #[.int .i64 n] w fun e w' => e = .returned (.int .u32 (maskN (cl n) : Nat)) ∧ w = w' := by
  have h40 := Lib.hid (within_any n w h0 h1)
  obtain ⟨k, hk⟩ : ∃ k, k = cl n := ⟨_, rfl⟩
  have hle := cl_le n
  rw [← hk] at h40 hle ⊢
  have HK := Lib.hid hk; clear hk
  go_enter Tryd.func59, Tryd.ntmps59
  go_wp2_with fail
  refine h40.out.mono ?_
  rintro e w1 ⟨rfl, rfl⟩
  go_wp2_with fail
  go_ret
  exact ⟨by rw [← shl_mask]; rfl, rfl⟩

/-- What a call leaves that returns a prefix. -/
def RetPfx (w : World) (a : Nat) (n : Int) (e : Ending) (w' : World) : Prop := e = .returned (.agg #[.int .u32 (a : Int), .int .i64 n]) ∧ Below w.heap.size w w'

theorem u32_mask {a k : Nat} (ha : a < 4294967296) (h : k ≤ 32) : bits .and .u32 (a : Int) ((maskN k : Nat) : Int) = ((hi a k : Nat) : Int) := by
  rw [u32_and_nat a (maskN k) ha (maskN_lt k), and_mask ha h]

end Go.Proofs.YtcjeifpdikojlaaDoor

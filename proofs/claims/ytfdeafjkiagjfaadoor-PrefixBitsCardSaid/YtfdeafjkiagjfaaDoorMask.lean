/-
  prefix's within and Mask.
-/
import Derived.Test.YtfdeafjkiagjfaaDoorSeat
import Derived.Test.YtfdeafjkiagjfaaDoorPfx
import Derived.WalkLawsBesides
namespace Go.Proofs.YtfdeafjkiagjfaaDoor
set_option linter.unusedVariables false
set_option linter.unusedSimpArgs false
open Go.RowKit

theorem within_any (n : Int) (w : World) (h0 : -9223372036854775808 ≤ n) (h1 : n ≤ 9223372036854775807) :
    Calls Tryd.prog 40 #[.int .i64 n] w fun e w' => e = .returned (.int .i64 (cl n : Nat)) ∧ w = w' := by
  rcases (show n < 0 ∨ (¬ n < 0 ∧ 32 < n) ∨ (¬ n < 0 ∧ ¬ 32 < n) by omega) with h | ⟨h, h2⟩ | ⟨h, h2⟩
  · have e1 := Lib.hid (cl_neg h)
    go_enter Tryd.func40, Tryd.ntmps40
    go_wp2_with fail
    go_ret
    exact ⟨by rw [e1.out]; rfl, rfl⟩
  · have e1 := Lib.hid (cl_big h2)
    go_enter Tryd.func40, Tryd.ntmps40
    go_wp2_with fail
    go_ret
    exact ⟨by rw [e1.out]; rfl, rfl⟩
  · have e1 := Lib.hid (cl_of (n := n) (by omega) (by omega))
    go_enter Tryd.func40, Tryd.ntmps40
    go_wp2_with fail
    go_ret
    exact ⟨by rw [e1.out]; rfl, rfl⟩

theorem shl_mask (k : Nat) : (4294967295 * 2 ^ (32 - k) % 4294967296 : Int) = ((maskN k : Nat) : Int) := by
  have h1 := pow_le32 k
  have h2 : 0 < 2 ^ (32 - k) := Nat.pow_pos (by decide)
  unfold maskN
  have e : ((2 : Int) ^ (32 - k)) = ((2 ^ (32 - k) : Nat) : Int) := by simp
  rw [e]
  omega

theorem Mask_any (n : Int) (w : World) (h0 : -9223372036854775808 ≤ n) (h1 : n ≤ 9223372036854775807) :
    Calls Tryd.prog 9 #[.int .i64 n] w fun e w' => e = .returned (.int .u32 (maskN (cl n) : Nat)) ∧ w = w' := by
  have h40 := Lib.hid (within_any n w h0 h1)
  obtain ⟨k, hk⟩ : ∃ k, k = cl n := ⟨_, rfl⟩
  have hle := cl_le n
  rw [← hk] at h40 hle ⊢
  have HK := Lib.hid hk; clear hk
  go_enter Tryd.func9, Tryd.ntmps9
  go_wp2_with fail
  refine h40.out.mono ?_
  rintro e w1 ⟨rfl, rfl⟩
  go_wp2_with fail
  go_ret
  exact ⟨by rw [← shl_mask]; rfl, rfl⟩

/-- What a call leaves that returns a prefix. -/
def RetPfx (w : World) (a : Nat) (n : Int) (e : Ending) (w' : World) : Prop := e = .returned (.agg #[.int .u32 (a : Int), .int .i64 n]) ∧ Below w.heap.size w w'

theorem u32_mask {a k : Nat} (ha : a < 4294967296) (h : k ≤ 32) : bits .and .u32 (a : Int) ((maskN k : Nat) : Int) = ((hi a k : Nat) : Int) := by
  rw [u32_and_nat a (maskN k) ha (maskN_lt k), and_mask ha h]

set_option maxHeartbeats 400000 in
theorem Norm_any (a : Nat) (n : Int) (w : World) (ha : a < 4294967296) (h0 : -9223372036854775808 ≤ n) (h1 : n ≤ 9223372036854775807) :
    Calls Tryd.prog 13 #[.int .u32 (a : Int), .int .i64 n] w (RetPfx w (hi a (cl n)) (cl n : Nat)) := by
  have hle := cl_le n
  have hm := u32_mask ha hle
  have q9 := fun w => Lib.hid (Mask_any n w h0 h1)
  have q40 := fun w => Lib.hid (within_any n w h0 h1)
  obtain ⟨k, hk⟩ : ∃ k, k = cl n := ⟨_, rfl⟩
  rw [← hk] at hm q9 q40 hle ⊢
  have HK := Lib.hid hk; clear hk
  go_enter Tryd.func13, Tryd.ntmps13
  go_wp2_with fail
  refine (q9 _).out.mono ?_
  rintro e w1 ⟨rfl, rfl⟩
  go_wp2_with fail
  refine (q40 _).out.mono ?_
  rintro e w1 ⟨rfl, rfl⟩
  go_wp2_with fail
  exact bodyPost_ret (v := .agg #[.int .u32 ((hi a k : Nat) : Int), .int .i64 (k : Int)]) (by simp [results, Tryd.results13, go_sem]) rfl ⟨rfl, (Below.refl _ _).alloc (Nat.le_refl _) _⟩
end Go.Proofs.YtfdeafjkiagjfaaDoor

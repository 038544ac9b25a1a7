/-
  Texts of this seat, put together: Equal3.
-/
import Derived.Test.YtnaangnmlbgmkaaGreatDoorMg1
/-
  Whether two lists of numbers are the same: slices.Equal.
-/
namespace Go.Proofs.YtnaangnmlbgmkaaGreatDoor
set_option linter.unusedVariables false
set_option linter.unusedSimpArgs false
open Go.RowKit

set_option maxHeartbeats 1600000 in
theorem Equal32_any (A A' : Option Addr) (c c' : Nat) (y z : List Nat) (w : World) (h : At32 w w.heap.size A y) (h' : At32 w w.heap.size A' z) (hl : y.length ≤ 9223372036854775807) :
    Calls Tryz.prog 70 #[.slice A y.length c, .slice A' z.length c'] w fun e w' => e = .returned (.bool (sameZ y z)) ∧ ∃ m, w' = w.drewN m := by
  have HS := Lib.hid h; have HS' := Lib.hid h'; clear h h'
  by_cases hlen : y.length = z.length
  · have HL := Lib.hid hlen
    rw [← hlen]
    clear hlen
    go_enter Tryz.func70, Tryz.ntmps70
    go_wp2_with fail
    go_loopw [13] (fun i wr => ∃ (j m : Nat), wr = w.drewN m ∧ j ≤ y.length ∧ i = .int .i64 (j : Int) ∧ Hid (y.take j = z.take j)) (fun i _ => y.length - (intOf i).toNat)
    case atStart => exact ⟨0, 0, rfl, Nat.zero_le _, rfl, Lib.hid (by simp)⟩
    case round =>
      obtain ⟨j, m, rfl, hj, rfl, hsm⟩ := hrel
      by_cases hlt : j < y.length
      · have hlt' : j < z.length := by rw [← HL.out]; exact hlt
        obtain ⟨b, off, hA, hb, k1⟩ := HS.out.cell hlt
        obtain ⟨b', off', hA', hb', k2⟩ := HS'.out.cell hlt'
        have HST := Lib.hid (same_step hlt hlt' hsm.out)
        obtain ⟨x, hx⟩ : ∃ x, x = y.getD j 0 := ⟨_, rfl⟩
        obtain ⟨x', hx'⟩ : ∃ x', x' = z.getD j 0 := ⟨_, rfl⟩
        rw [← hx] at k1 HST
        rw [← hx'] at k2 HST
        have HJ := Lib.hid hlt
        clear hx hx' hlt'
        subst hA; subst hA'
        by_cases he : x = x'
        · have he2 : ((x : Int) != (x' : Int)) = false := by simp; omega
          have HN := Lib.hid (HST.out.1 he)
          clear he HST
          go_wp2_with fail
          go_quiet (fail)
          go_wp2_with fail
          go_roundw
          case rel => exact ⟨j + 1, _, rfl, HJ.out, by go_num, HN⟩
          case measure => have := HJ.out; simp [intOf]; omega
        · have he2 : ((x : Int) != (x' : Int)) = true := by simp; omega
          have HN := Lib.hid (HST.out.2 he)
          clear he HST
          go_wp2_with fail
          go_quiet (fail)
          go_wp2_with fail
          go_ret
          exact ⟨by rw [HN.out]; rfl, _, by first | rfl | exact World.drewN_drewN _ _ _⟩
      · obtain rfl : j = y.length := by omega
        have HE := Lib.hid (same_end HL.out hsm.out)
        go_wp2_with fail
        go_ret
        exact ⟨by rw [HE.out]; rfl, _, rfl⟩
  · have hne : ((y.length : Int) != (z.length : Int)) = true := by simp; omega
    have HE := Lib.hid (show sameZ y z = false from by unfold sameZ; exact decide_eq_false (fun e => hlen (by rw [e])))
    clear hlen
    go_enter Tryz.func70, Tryz.ntmps70
    go_wp2_with fail
    go_ret
    exact ⟨by rw [HE.out]; rfl, 0, rfl⟩

end Go.Proofs.YtnaangnmlbgmkaaGreatDoor

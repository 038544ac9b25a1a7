/-
  Whether two lists of numbers are the same.
-/
import Derived.Test.YtgaoonnokhlgjaaCnt
import Derived.Deep.QuietTactic
import Derived.BigQuiet
namespace Go.Proofs.Ytgaoonnokhlgjaa
set_option linter.unusedVariables false
set_option linter.unusedSimpArgs false
open Go.RowKit

/-- Are two lists of numbers the same? -/
def sameZ (y z : List Nat) : Bool := decide (y = z)
theorem same_step {y z : List Nat} {j : Nat} (hy : j < y.length) (hz : j < z.length) (h : y.take j = z.take j) :
    (y.getD j 0 = z.getD j 0 → y.take (j + 1) = z.take (j + 1)) ∧ (¬ y.getD j 0 = z.getD j 0 → sameZ y z = false) := by
  have e1 : y.getD j 0 = y[j] := by simp [List.getD, hy]
  have e2 : z.getD j 0 = z[j] := by simp [List.getD, hz]
  refine ⟨fun e => ?_, fun e => ?_⟩
  · rw [List.take_succ_eq_append_getElem hy, List.take_succ_eq_append_getElem hz, h, ← e1, ← e2, e]
  · unfold sameZ
    exact decide_eq_false (fun e3 => e (by rw [e3]))
theorem same_end {y z : List Nat} (hl : y.length = z.length) (h : y.take y.length = z.take y.length) : sameZ y z = true := by
  rw [List.take_length, hl, List.take_length] at h
  unfold sameZ
  exact decide_eq_true h

set_option maxHeartbeats 1600000 in
theorem Nums_any (A A' : Option Addr) (c c' : Nat) (y z : List Nat) (w : World) (h : At32 w w.heap.size A y) (h' : At32 w w.heap.size A' z) (hl : y.length ≤ 9223372036854775807) :
    Calls Try.prog 38 #[.slice A y.length c, .slice A' z.length c'] w fun e w' => e = .returned (.bool (sameZ y z)) ∧ ∃ m, w' = w.drewN m := by
  have HS := Lib.hid h; have HS' := Lib.hid h'; clear h h'
  by_cases hlen : y.length = z.length
  · have HL := Lib.hid hlen
    rw [← hlen]
    clear hlen
    go_enter Try.func38, Try.ntmps38
    go_wp2_with fail
    go_loopw [5] (fun i wr => ∃ (j m : Nat), wr = w.drewN m ∧ j ≤ y.length ∧ i = .int .i64 (j : Int) ∧ Hid (y.take j = z.take j)) (fun i _ => y.length - (intOf i).toNat)
    case atStart => exact ⟨0, 0, rfl, Nat.zero_le _, rfl, Lib.hid (by simp)⟩
    case round =>
      obtain ⟨j, m, rfl, hj, rfl, hsm⟩ := hrel
      by_cases hlt : j < y.length
      · have hlt' : j < z.length := by rw [← HL.out]; exact hlt
        obtain ⟨b, off, hA, hb, k1⟩ := HS.out.cell hlt
        obtain ⟨b', off', hA', hb', k2⟩ := HS'.out.cell hlt'
        have HST := Lib.hid (same_step hlt hlt' hsm.out)
        obtain ⟨x, hx⟩ : ∃ x, x = y.getD j 0 := ⟨_, rfl⟩
        obtain ⟨x', hx'⟩ : ∃ x', x' = z.getD j 0 := ⟨_, rfl⟩
        rw [← hx] at k1 HST
        rw [← hx'] at k2 HST
        have HJ := Lib.hid hlt
        clear hx hx' hlt'
        subst hA; subst hA'
        by_cases he : x = x'
        · have he2 : ((x : Int) != (x' : Int)) = false := by simp; omega
          have HN := Lib.hid (HST.out.1 he)
          clear he HST
          go_wp2_with fail
          go_quiet (fail)
          go_wp2_with fail
          go_roundw
          case rel => exact ⟨j + 1, _, rfl, HJ.out, by go_num, HN⟩
          case measure => have := HJ.out; simp [intOf]; omega
        · have he2 : ((x : Int) != (x' : Int)) = true := by simp; omega
          have HN := Lib.hid (HST.out.2 he)
          clear he HST
          go_wp2_with fail
          go_quiet (fail)
          go_wp2_with fail
          go_ret
          exact ⟨by rw [HN.out]; rfl, _, by first | rfl | exact World.drewN_drewN _ _ _⟩
      · obtain rfl : j = y.length := by omega
        have HE := Lib.hid (same_end HL.out hsm.out)
        go_wp2_with fail
        go_ret
        exact ⟨by rw [HE.out]; rfl, _, rfl⟩
  · have hne : ((y.length : Int) != (z.length : Int)) = true := by simp; omega
    have HE := Lib.hid (show sameZ y z = false from by unfold sameZ; exact decide_eq_false (fun e => hlen (by rw [e])))
    clear hlen
    go_enter Try.func38, Try.ntmps38
    go_wp2_with fail
    go_ret
    exact ⟨by rw [HE.out]; rfl, 0, rfl⟩
end Go.Proofs.Ytgaoonnokhlgjaa

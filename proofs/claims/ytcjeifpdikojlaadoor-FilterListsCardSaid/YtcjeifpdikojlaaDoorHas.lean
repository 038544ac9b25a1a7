/-
  Whether a number is in a path.
-/
import Derived.Test.YtcjeifpdikojlaaDoorCnt
import Derived.Test.YtcjeifpdikojlaaDoorOwnSeg
namespace Go.Proofs.YtcjeifpdikojlaaDoor
set_option linter.unusedVariables false
set_option linter.unusedSimpArgs false
open Go.RowKit

/-- Is a number in a list? -/
def inB (z : List Nat) (v : Nat) : Bool := z.any fun x => x == v
theorem has_step {z : List Nat} {v j : Nat} (hj : j < z.length) (h : inB (z.take j) v = false) (hv : v ≠ z.getD j 0) : inB (z.take (j + 1)) v = false := by
  have e : z.getD j 0 = z[j] := by simp [List.getD, hj]
  rw [e] at hv
  unfold inB at h ⊢
  rw [List.take_succ_eq_append_getElem hj, List.any_append, h]
  simpa using fun e => hv e.symm
theorem has_now {z : List Nat} {v j : Nat} (hj : j < z.length) (hv : v = z.getD j 0) : inB z v = true := by
  have e : z.getD j 0 = z[j] := by simp [List.getD, hj]
  rw [e] at hv
  unfold inB
  rw [List.any_eq_true]
  exact ⟨z[j], List.getElem_mem hj, by simp [hv]⟩
/-- What a search leaves: the place where it found, or one below all. -/
def Found (b : Bool) (w : World) (e : Ending) (w' : World) : Prop := ∃ k : Int, e = .returned (.int .i64 k) ∧ -1 ≤ k ∧ k ≤ 1152921504606846976 ∧ decide (0 ≤ k) = b

set_option maxHeartbeats 1600000 in
theorem Index32_any (A : Option Addr) (c : Nat) (z : List Nat) (v : Nat) (w : World) (h : At32 w w.heap.size A z) (hl : z.length ≤ 1152921504606846976) :
    Calls Tryd.prog 56 #[.slice A z.length c, .int .u32 (v : Int)] w fun e w' => Found (inB z v) w e w' ∧ w = w' := by
  have HS := Lib.hid h; clear h
  go_enter Tryd.func56, Tryd.ntmps56
  go_wp2_with fail
  go_loop [8] (fun i => ∃ j : Nat, j ≤ z.length ∧ i = .int .i64 (j : Int) ∧ Hid (inB (z.take j) v = false)) (fun i => z.length - (intOf i).toNat)
  case atStart => exact ⟨0, Nat.zero_le _, rfl, Lib.hid (by simp [inB])⟩
  case round =>
    obtain ⟨j, hj, rfl, hno⟩ := hrel
    by_cases hlt : j < z.length
    · obtain ⟨b, off, rfl, hb, k1⟩ := HS.out.cell hlt
      by_cases he : v = z.getD j 0
      · have HN := Lib.hid (has_now hlt he)
        obtain ⟨x, hx⟩ : ∃ x, x = z.getD j 0 := ⟨_, rfl⟩
        rw [← hx] at k1 he
        subst he
        clear hx
        go_wp2_with fail
        go_ret
        exact ⟨⟨_, rfl, by omega, by omega, by rw [HN.out]; simp⟩, rfl⟩
      · have HN := Lib.hid (has_step hlt hno.out he)
        obtain ⟨x, hx⟩ : ∃ x, x = z.getD j 0 := ⟨_, rfl⟩
        rw [← hx] at k1 he
        have hk1 : ((v : Int) == (x : Int)) = false := by simp; omega
        clear hx he
        go_wp2_with fail
        go_round
        case rel => exact ⟨j + 1, by omega, by go_num, HN⟩
        case measure => simp [intOf]; omega
    · obtain rfl : j = z.length := by omega
      go_wp2_with fail
      go_ret
      exact ⟨⟨_, rfl, by omega, by omega, by have := hno.out; rw [List.take_length] at this; rw [this]; rfl⟩, rfl⟩

theorem Contains32_any (A : Option Addr) (c : Nat) (z : List Nat) (v : Nat) (w : World) (h : At32 w w.heap.size A z) (hl : z.length ≤ 1152921504606846976) :
    Calls Tryd.prog 35 #[.slice A z.length c, .int .u32 (v : Int)] w fun e w' => e = .returned (.bool (inB z v)) ∧ w = w' := by
  have Q := Lib.hid (Index32_any A c z v w h hl); clear h
  go_enter Tryd.func35, Tryd.ntmps35
  go_wp2_with fail
  refine Q.out.mono ?_
  rintro e w1 ⟨⟨k, rfl, f1, f2, hk⟩, rfl⟩
  have HK := Lib.hid hk; clear hk
  go_wp2_with fail
  go_ret
  exact ⟨by rw [← HK.out]; rfl, rfl⟩

/-- Is a number in a path? -/
def hasB (L : List Sg) (v : Nat) : Bool := L.any fun s => inB s.nums v
theorem hasB_step {L : List Sg} {v j : Nat} {s : Sg} (hs : L[j]? = some s) (h : hasB (L.take j) v = false) (hn : inB s.nums v = false) : hasB (L.take (j + 1)) v = false := by
  have hj := (List.getElem?_eq_some_iff.1 hs).1
  have e : L[j] = s := (List.getElem?_eq_some_iff.1 hs).2
  rw [List.take_succ_eq_append_getElem hj, e]
  unfold hasB at h ⊢
  rw [List.any_append, h]
  simpa using hn
theorem hasB_now {L : List Sg} {v j : Nat} {s : Sg} (hs : L[j]? = some s) (hn : inB s.nums v = true) : hasB L v = true := by
  unfold hasB
  rw [List.any_eq_true]
  exact ⟨s, List.mem_of_getElem? hs, hn⟩

end Go.Proofs.YtcjeifpdikojlaaDoor

/-
  slices.ContainsFunc over bytes, as head asks it: is one of them not 255?
-/
import Derived.Test.YtjhmkapafhgofaaDoorSeat
import Derived.Test.YtjhmkapafhgofaaDoorFr7
namespace Go.Proofs.YtjhmkapafhgofaaDoor
set_option linter.unusedVariables false
open Go.RowKit

theorem head1_any (b : UInt8) (w : World) :
    Calls Tryd.prog 38 #[.int .u8 (b.toNat : Int)] w fun e w' => e = .returned (.bool (b != 255)) ∧ w = w' := by
  have hb : ((b.toNat : Int) != 255) = (b != 255) := by
    rw [Bool.eq_iff_iff]
    simp only [bne_iff_ne, ne_eq]
    constructor
    · intro h e; subst e; exact h rfl
    · intro h e; exact h (UInt8.toNat_inj.1 (by have : (255 : UInt8).toNat = 255 := rfl; omega))
  have HB := Lib.hid hb; clear hb
  go_enter Tryd.func38, Tryd.ntmps38
  go_wp2_with fail
  go_ret
  exact ⟨by rw [← HB.out]; rfl, rfl⟩
/-- All of the first j are 255. -/
def all255 (l : List UInt8) (j : Nat) : Bool := (l.take j).all fun b => b == 255
theorem all255_step {l : List UInt8} {j : Nat} (hj : j < l.length) (h : all255 l j = true) (hb : (l.getD j 0 != 255) = false) : all255 l (j + 1) = true := by
  unfold all255 at h ⊢
  rw [take_snoc l j hj, List.all_append, h]
  simpa using hb
theorem all255_no {l : List UInt8} {j : Nat} (hj : j < l.length) (hb : (l.getD j 0 != 255) = true) : (l.all fun b => b == 255) = false := by
  have e : l.getD j 0 = l[j] := by simp [List.getD, hj]
  rw [e] at hb
  rw [List.all_eq_false]
  exact ⟨l[j], List.getElem_mem hj, by simpa using hb⟩
/-- What a search leaves. -/
def Found7 (b : Bool) (e : Ending) : Prop := ∃ k : Int, e = .returned (.int .i64 k) ∧ -1 ≤ k ∧ k ≤ 1152921504606846976 ∧ decide (0 ≤ k) = b
set_option maxHeartbeats 1600000 in
theorem IndexFunc7_any (A : Option Addr) (c : Nat) (l : List UInt8) (w : World) (h : Bytes w A l) (hl : l.length ≤ 1152921504606846976) :
    Calls Tryd.prog 44 #[.slice A l.length c, .func (.func 38) #[] #[]] w fun e w' => Found7 (!(l.all fun b => b == 255)) e ∧ w = w' := by
  have HS := Lib.hid h; clear h
  go_enter Tryd.func44, Tryd.ntmps44
  go_wp2_with fail
  go_loop [8] (fun i => ∃ j : Nat, j ≤ l.length ∧ i = .int .i64 (j : Int) ∧ Hid (all255 l j = true)) (fun i => l.length - (intOf i).toNat)
  case atStart => exact ⟨0, Nat.zero_le _, rfl, Lib.hid (by simp [all255])⟩
  case round =>
    obtain ⟨j, hj, rfl, hno⟩ := hrel
    by_cases hlt : j < l.length
    · obtain ⟨b, off, rfl, hb, k1⟩ := HS.out.cell hlt
      have Q := Lib.hid (head1_any (l.getD j 0) w)
      have HNo := Lib.hid (fun h : (l.getD j 0 != 255) = true => all255_no hlt h)
      have HSt := Lib.hid (fun h : (l.getD j 0 != 255) = false => all255_step hlt hno.out h)
      obtain ⟨x, hx⟩ : ∃ x, x = l.getD j 0 := ⟨_, rfl⟩
      rw [← hx] at k1 Q HNo HSt
      clear hx
      cases hn : (x != 255) with
      | true =>
        rw [hn] at Q
        have HN := Lib.hid (HNo.out hn)
        clear hn HNo HSt
        go_wp2_with (go_at_call 38; refine Q.out.mono ?_; rintro e w2 ⟨rfl, rfl⟩)
        go_ret
        exact ⟨⟨_, rfl, by omega, by omega, by rw [HN.out]; simp⟩, rfl⟩
      | false =>
        rw [hn] at Q
        have HN := Lib.hid (HSt.out hn)
        clear hn HNo HSt
        go_wp2_with (go_at_call 38; refine Q.out.mono ?_; rintro e w2 ⟨rfl, rfl⟩)
        go_round
        case rel => exact ⟨j + 1, by omega, by go_num, HN⟩
        case measure => simp [intOf]; omega
    · obtain rfl : j = l.length := by omega
      go_wp2_with fail
      go_ret
      exact ⟨⟨_, rfl, by omega, by omega, by have := hno.out; unfold all255 at this; rw [List.take_length] at this; rw [this]; rfl⟩, rfl⟩
theorem ContainsFunc7_any (A : Option Addr) (c : Nat) (l : List UInt8) (w : World) (h : Bytes w A l) (hl : l.length ≤ 1152921504606846976) :
    Calls Tryd.prog 37 #[.slice A l.length c, .func (.func 38) #[] #[]] w fun e w' => e = .returned (.bool (!(l.all fun b => b == 255))) ∧ w = w' := by
  have Q := Lib.hid (IndexFunc7_any A c l w h hl); clear h
  go_enter Tryd.func37, Tryd.ntmps37
  go_wp2_with fail
  refine Q.out.mono ?_
  rintro e w1 ⟨⟨k, rfl, f1, f2, hk⟩, rfl⟩
  have HK := Lib.hid hk; clear hk
  go_wp2_with fail
  go_ret
  exact ⟨by rw [← HK.out]; rfl, rfl⟩
end Go.Proofs.YtjhmkapafhgofaaDoor

/-
  The reader of bytes: New, next; Clone.
-/
import Derived.Test.YthjnbjhdepfclaaDoorSeat
import Derived.WalkSpells
namespace Go.Proofs.YthjnbjhdepfclaaDoor
open Go.RowKit

section
variable {w w' : World} {B g : Nat} {l : List UInt8} {s : Bool}
end
/-- What a reader with l before it tells of a Take of n: the bytes; what is left; is it short? -/
def rdTake (l : List UInt8) (s : Bool) (n : Int) : List UInt8 × List UInt8 × Bool := if 0 ≤ n ∧ n ≤ l.length then (l.take n.toNat, l.drop n.toNat, s) else ([], [], true)
theorem rdTake_len (l : List UInt8) (s : Bool) (n : Int) : (rdTake l s n).1.length ≤ l.length ∧ ((rdTake l s n).1.length : Int) ≤ max n 0 := by
  unfold rdTake
  by_cases hn : 0 ≤ n ∧ n ≤ l.length
  · rw [if_pos hn]
    simp only [List.length_take]
    omega
  · rw [if_neg hn]
    simp only [List.length_nil]
    omega
theorem Clone_nil (c : Nat) (w : World) : Calls Tryd.prog 22 #[.slice none 0 c] w fun e w' => e = .returned (.slice none 0 0) ∧ w = w' := by
  have hq := fun w => Lib.run_eql_slice_nil (P := Tryd.prog) w 27 5 none 0 c 0 0 Tryd.underlying27
  go_enter Tryd.func22, Tryd.ntmps22
  go_wp2_with fail
  go_ret
  exact ⟨rfl, rfl⟩
theorem own_empty (w : World) (e : Nat) : Own (w.alloc (.cells #[] e)) w.heap.size e (.slice (some ⟨w.heap.size, 0, none⟩) 0 0) [] :=
  ⟨by simp, .inr ⟨w.heap.size, 0, #[], rfl, Nat.le_refl _, heap_alloc_new w _, Nat.le_refl _, Nat.zero_le _, rfl, rfl⟩⟩
set_option maxHeartbeats 400000 in
theorem Clone_any (A : Option Addr) (n c : Nat) (l : List UInt8) (hn : n = l.length) (w : World) (h : Bytes w A l) (hl : l.length ≤ 1000000) :
    Calls Tryd.prog 22 #[.slice A n c] w (RetBytes w l) := by
  subst hn
  cases A with
  | none =>
    have hl0 : l = [] := by
      rcases l with _ | ⟨b, l⟩
      · rfl
      · obtain ⟨_, _, h2, _⟩ := h (by simp)
        cases h2
    subst hl0
    refine (Clone_nil c w).mono fun e w' hh => ?_
    obtain ⟨rfl, rfl⟩ := hh
    exact ⟨none, 0, rfl, by simp, by simp, Own.nil _ _ _, Below.refl _ _⟩
  | some ad =>
    have hq := fun w => Lib.run_eql_slice_nil (P := Tryd.prog) w 27 5 (some ad) l.length c 0 0 Tryd.underlying27
    have H0 := Lib.hid (own_empty w 5)
    have HA := Lib.hid (h.alloc (.cells #[] 5))
    clear h
    go_enter Tryd.func22, Tryd.ntmps22
    go_wp2_with (at_builtin; refine wpList_append_bytes isBytes rfl (.tmp 5) (.tmp 6) rfl w _ [] rfl H0.out _ l l.length c rfl rfl HA.out (by simp; omega) ((Below.refl _ _).alloc (Nat.le_refl _) _) ?_)
    intro v1 w1 hown1 _ hb1
    obtain ⟨A', c', rfl, f1, f2⟩ := hown1.form
    have H := Lib.hid hown1; clear hown1 H0 HA
    go_wp2
    go_ret
    exact ret_own (by simp) f1 f2 H.out hb1 (by simp)
end Go.Proofs.YthjnbjhdepfclaaDoor

/-
  The first number of a path: the program's answer and the document's.
-/
import Derived.Test.YtlgfollajodpaaaDoorCnt
namespace Go.Proofs.YtlgfollajodpaaaDoor
set_option linter.unusedVariables false
set_option linter.unusedSimpArgs false
open Go.RowKit

/-- The first number of a path that begins with a sequence. -/
def firstL (L : List Sg) : Nat × Bool := match L[0]? with
  | none => (0, false)
  | some s => if s.kind = 2 then (match s.nums[0]? with | none => (0, false) | some x => (x, true)) else (0, false)
def retFirst (p : Nat × Bool) : Value := .tuple #[.int .u32 (p.1 : Int), .bool p.2]

set_option maxHeartbeats 1600000 in
theorem First_any (A : Option Addr) (c : Nat) (L : List Sg) (w : World) (h : Segs w w.heap.size A L) :
    Calls Tryd.prog 13 #[.slice A L.length c] w fun e w' => e = .returned (retFirst (firstL L)) ∧ w = w' := by
  by_cases h0 : L.length = 0
  · obtain rfl : L = [] := List.eq_nil_of_length_eq_zero h0
    clear h0 h
    go_enter Tryd.func13, Tryd.ntmps13
    go_wp2_with fail
    exact bodyPost_ret (v := retFirst (0, false)) (by simp [results, Tryd.results13, go_sem, retFirst]) rfl ⟨rfl, rfl⟩
  · obtain ⟨s, hs⟩ : ∃ s, L[0]? = some s := ⟨_, List.getElem?_eq_getElem (by omega)⟩
    obtain ⟨b, off, rfl, hb, k1, k2, hok⟩ := h.at hs
    simp only [Nat.zero_mul, Nat.add_zero] at k1 k2
    have hl0 : ((L.length : Int) == 0) = false := by rw [beq_eq_false_iff_ne]; omega
    have hl1 : (0 : Int) < (L.length : Int) := by omega
    by_cases h2 : s.kind = 2
    · have hk : (s.kind != 2) = false := by simpa using h2
      by_cases h3 : s.nums.length = 0
      · have hn : ((s.nums.length : Int) == 0) = true := by rw [beq_iff_eq]; omega
        have HE := Lib.hid (show firstL L = (0, false) by unfold firstL; rw [hs]; simp only [h2, if_true]; rw [List.getElem?_eq_none (by omega)])
        clear hs hok h h2 h3 h0
        go_enter Tryd.func13, Tryd.ntmps13
        go_wp2_with fail
        exact bodyPost_ret (v := retFirst (0, false)) (by simp [results, Tryd.results13, go_sem, retFirst]) rfl ⟨by rw [HE.out], rfl⟩
      · have hn : ((s.nums.length : Int) == 0) = false := by rw [beq_eq_false_iff_ne]; omega
        obtain ⟨b2, off2, hA2, hb2, k3⟩ := hok.2.2.1.cell (k := 0) (by omega)
        obtain ⟨x, hx⟩ : ∃ x, s.nums[0]? = some x := ⟨_, List.getElem?_eq_getElem (by omega)⟩
        have hxe : s.nums.getD 0 0 = x := by simp [List.getD, hx]
        rw [hxe] at k3
        simp only [Nat.add_zero] at k3
        have hn1 : (0 : Int) < (s.nums.length : Int) := by omega
        have HE := Lib.hid (show firstL L = (x, true) by unfold firstL; rw [hs]; simp only [h2, if_true, hx])
        rw [hA2] at k2
        clear hs hok h h2 h3 h0 hA2 hxe hx
        go_enter Tryd.func13, Tryd.ntmps13
        go_wp2_with fail
        exact bodyPost_ret (v := retFirst (x, true)) (by simp [results, Tryd.results13, go_sem, retFirst]) rfl ⟨by rw [HE.out], rfl⟩
    · have hk : (s.kind != 2) = true := by simpa using h2
      have HE := Lib.hid (show firstL L = (0, false) by unfold firstL; rw [hs]; simp only [h2, if_false])
      clear hs hok h h2 h0
      go_enter Tryd.func13, Tryd.ntmps13
      go_wp2_with fail
      exact bodyPost_ret (v := retFirst (0, false)) (by simp [results, Tryd.results13, go_sem, retFirst]) rfl ⟨by rw [HE.out], rfl⟩

end Go.Proofs.YtlgfollajodpaaaDoor

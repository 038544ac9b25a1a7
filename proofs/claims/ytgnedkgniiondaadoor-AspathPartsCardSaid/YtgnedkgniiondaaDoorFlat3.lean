/-
  All numbers of a path: the program's answer.
-/
import Derived.Test.YtgnedkgniiondaaDoorOwnSeg
import Derived.Test.YtgnedkgniiondaaDoorCnt
namespace Go.Proofs.YtgnedkgniiondaaDoor
set_option linter.unusedVariables false
set_option linter.unusedSimpArgs false
open Go.RowKit

/-- All numbers of a path. -/
def flatN (L : List Sg) : List Nat := L.flatMap fun s => s.nums
theorem flatN_len (L : List Sg) : (flatN L).length = totN L := by
  induction L with
  | nil => rfl
  | cons s L ih => simp only [flatN, totN, List.flatMap_cons, List.length_append, List.map_cons, List.sum_cons] at ih ⊢; rw [ih]
theorem flatN_step {L : List Sg} {j : Nat} {s : Sg} (h : L[j]? = some s) : flatN (L.take (j + 1)) = flatN (L.take j) ++ s.nums := by
  have hj := (List.getElem?_eq_some_iff.1 h).1
  have e : L[j] = s := (List.getElem?_eq_some_iff.1 h).2
  rw [List.take_succ_eq_append_getElem hj, e]
  simp [flatN]
def FlatRel (w : World) (L : List Sg) (v i : Value) (wr : World) : Prop :=
  Below w.heap.size w wr ∧ ∃ j : Nat, j ≤ L.length ∧ i = .int .i64 (j : Int) ∧ Own32 wr w.heap.size v (flatN (L.take j))

set_option maxHeartbeats 1600000 in
theorem Flat_any (A : Option Addr) (c : Nat) (L : List Sg) (w : World) (h : Segs w w.heap.size A L) (hl : L.length ≤ 1000000000) (ht : totN L ≤ 35184372088832) :
    Calls Tryd.prog 20 #[.slice A L.length c] w (Ret32 w (flatN L)) := by
  have HS := Lib.hid h; clear h
  go_enter Tryd.func20, Tryd.ntmps20
  go_wp2_with fail
  go_loopw [3, 8] (fun v i wr => FlatRel w L v i wr) (fun _ i _ => L.length - (intOf i).toNat)
  case atStart => exact ⟨Below.refl _ _, 0, Nat.zero_le _, rfl, Own32.nil _ _⟩
  case round =>
    obtain ⟨hbr, j, hj, rfl, hown⟩ := hrel
    by_cases hlt : j < L.length
    · obtain ⟨s, hs⟩ : ∃ s, L[j]? = some s := ⟨_, List.getElem?_eq_getElem hlt⟩
      obtain ⟨b, off, rfl, hb, k1, k2, hok⟩ := (HS.out.below hbr (Nat.le_refl _)).at hs
      have HST := Lib.hid (flatN_step hs)
      have HSZ := Lib.hid (show ((flatN (L.take j)).length + s.nums.length) * 4 ≤ 140737488355328 by
        have h1 : totN (L.take (j + 1)) = totN (L.take j) + s.nums.length := sum_take (f := fun s => s.nums.length) hs
        have h2 : totN (L.take (j + 1)) ≤ totN L := sum_take_le (fun s => s.nums.length) L (j + 1)
        rw [flatN_len]; omega)
      have hbA := hbr.alloc hbr.size (.cells #[.int .i64 s.kind, .slice s.adr s.nums.length s.cap] 53)
      have HAT := Lib.hid (hok.2.2.1.below ((Below.refl w.heap.size wr).alloc hbr.size (.cells #[.int .i64 s.kind, .slice s.adr s.nums.length s.cap] 53)) (Nat.le_refl _))
      have c7 := cells2 (Blk.new wr 53 [.int .i64 s.kind, .slice s.adr s.nums.length s.cap])
      have HOW := Lib.hid (hown.alloc (.cells #[.int .i64 s.kind, .slice s.adr s.nums.length s.cap] 53))
      have HBA := Lib.hid hbA; have HJ := Lib.hid hlt
      clear hs hok hown hbA hbr
      go_wp2_with (at_builtin; go_loud (refine wpList_app isU32 rfl (.tmp 12) (.tmp 14) rfl w _ _ (cells32 (flatN (L.take j))) rfl HOW.out s.adr s.nums.length s.cap (cells32 s.nums) rfl (by simp [cells32]) HAT.out.news (cells32_one _) HSZ.out HBA.out ?_))
      intro v1 w1 hown1 hg1 hb1
      have O1 := Lib.hid (show Own32 w1 w.heap.size v1 (flatN (L.take (j + 1))) from by
        rw [HST.out]
        unfold Own32 cells32 at *
        rw [List.length_append, List.map_append]
        exact hown1)
      have HB1 := Lib.hid hb1
      clear hown1 hg1 hb1 c7
      go_wp2_with fail
      go_roundw
      case rel => exact ⟨HB1.out, j + 1, HJ.out, by go_num, O1.out⟩
      case measure => have := HJ.out; simp [intOf]; omega
    · obtain rfl : j = L.length := by omega
      rw [List.take_length] at hown
      obtain ⟨A1, c1, rfl, f1, f2⟩ := hown.form
      have HAT := Lib.hid hown; have HBR := Lib.hid hbr
      clear hown hbr
      go_wp2_with fail
      go_ret
      exact ⟨_, _, rfl, f1, f2, HAT.out, HBR.out⟩
end Go.Proofs.YtgnedkgniiondaaDoor

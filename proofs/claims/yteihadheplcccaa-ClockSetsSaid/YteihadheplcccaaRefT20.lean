/-
  The document's clock: a time is set; a tick later; whether two lists are the same.
-/
import Derived.Test.YteihadheplcccaaPass20
import Derived.BigQuiet
import Derived.Deep.QuietTactic
namespace Go.Proofs.Yteihadheplcccaa
set_option linter.unusedVariables false
set_option linter.unusedSimpArgs false
open Go.RowKit

theorem box3 (w : World) (x y z u v t p q r : Value) (T T2 T3 : Nat) :
    Below w.heap.size w (((w.alloc (.cells #[x, y, z] T)).alloc (.cells #[u, v, t] T2)).alloc (.cells #[p, q, r] T3)) ∧ Blk (((w.alloc (.cells #[x, y, z] T)).alloc (.cells #[u, v, t] T2)).alloc (.cells #[p, q, r] T3)) w.heap.size T [x, y, z] ∧ Blk (((w.alloc (.cells #[x, y, z] T)).alloc (.cells #[u, v, t] T2)).alloc (.cells #[p, q, r] T3)) (w.heap.size + 1) T2 [u, v, t] ∧ Blk (((w.alloc (.cells #[x, y, z] T)).alloc (.cells #[u, v, t] T2)).alloc (.cells #[p, q, r] T3)) (w.heap.size + 2) T3 [p, q, r] ∧ (((w.alloc (.cells #[x, y, z] T)).alloc (.cells #[u, v, t] T2)).alloc (.cells #[p, q, r] T3)).heap.size = w.heap.size + 3 := by
  obtain ⟨h0, k1, k2, hz⟩ := box2 w x y z u v t T T2
  have k3 := Blk.new ((w.alloc (.cells #[x, y, z] T)).alloc (.cells #[u, v, t] T2)) T3 [p, q, r]
  rw [hz] at k3
  have ha := (Below.refl ((w.alloc (.cells #[x, y, z] T)).alloc (.cells #[u, v, t] T2)).heap.size _).alloc (Nat.le_refl _) (.cells #[p, q, r] T3)
  exact ⟨h0.alloc h0.size _, k1.below ha k1.lt, k2.below ha k2.lt, k3, by simp⟩
/-- The first i times, with one set. -/
def setN (k v : Int) (t : Tri) : Nat → Tri
  | 0 => t
  | i + 1 => if (i : Int) = k then (setN k v t i).set i v else setN k v t i
def RSetRel (w : World) (k v a b c : Int) (i : Value) (wr : World) : Prop :=
  Below w.heap.size w wr ∧ ∃ j : Nat, j ≤ 3 ∧ i = .int .i64 (j : Int) ∧ Blk wr (w.heap.size + 1) 22 [.int .i64 0, .int .i64 0, .int .i64 0] ∧ Blk wr (w.heap.size + 2) 22 (triL (setN k v ⟨a, b, c⟩ j))
def TriPost (w : World) (t : Tri) (e : Ending) (w' : World) : Prop := e = .returned (.agg #[.int .i64 t.a, .int .i64 t.b, .int .i64 t.c]) ∧ Below w.heap.size w w'
theorem tri_eta (t : Tri) : ∃ x y z, t = ⟨x, y, z⟩ := ⟨t.a, t.b, t.c, rfl⟩
set_option maxRecDepth 100000 in
set_option maxHeartbeats 6400000 in
theorem RefSet_neg (a b c k n : Int) (w : World) (hn : n < 0) :
    Calls Try.prog 8 #[.agg #[.int .i64 a, .int .i64 b, .int .i64 c], .int .i64 k, .int .i64 n] w (TriPost w (setN k 0 ⟨a, b, c⟩ 3)) := by
  obtain ⟨hb0, k1, k2, k3, hz⟩ := box3 w (.int .i64 a) (.int .i64 b) (.int .i64 c) (.int .i64 0) (.int .i64 0) (.int .i64 0) (.int .i64 a) (.int .i64 b) (.int .i64 c) 22 22 22
  have HB := Lib.hid hb0; have K1 := Lib.hid k1; have K2 := Lib.hid k2; have K3 := Lib.hid k3; have HZ := Lib.hid hz
  clear hb0 k1 k2 k3 hz
  go_enter Try.func8, Try.ntmps8
  go_wp2_with fail
  go_loopw [8] (fun i wr => RSetRel w k 0 a b c i wr) (fun i _ => 3 - (intOf i).toNat)
  case atStart => exact ⟨HB.out, 0, by omega, rfl, K2.out, K3.out⟩
  case round =>
    clear HB K1 K2 K3
    obtain ⟨hbr, j, hj, rfl, k2, k3⟩ := hrel
    rcases (show j = 0 ∨ j = 1 ∨ j = 2 ∨ j = 3 by omega) with rfl | rfl | rfl | rfl
    · obtain ⟨x, y, z, hT⟩ := tri_eta (setN k 0 ⟨a, b, c⟩ 0)
      rw [hT] at k3
      replace k3 : Blk wr (w.heap.size + 2) 22 [.int .i64 x, .int .i64 y, .int .i64 z] := k3
      have HB := Lib.hid hbr; have K2 := Lib.hid k2; have K3 := Lib.hid k3
      have f3 := free3 k3; have c3 := cells3 k3
      clear hbr k2 k3
      by_cases hk : (0 : Int) = k
      · have HT := Lib.hid (show setN k 0 ⟨a, b, c⟩ 1 = ⟨0, y, z⟩ by
          show (if ((0 : Nat) : Int) = k then (setN k 0 ⟨a, b, c⟩ 0).set 0 0 else _) = _
          rw [if_pos (show ((0 : Nat) : Int) = k from hk), hT]; rfl)
        have d1 : ((0 : Int) == k) = true := by simpa using hk
        clear hk hT
        go_wp2_with fail
        go_roundw
        case rel => exact ⟨(HB.out.setCell (p := ⟨w.heap.size + 2, 0, none⟩) (by simp) (.int .i64 n)).setCell (p := ⟨w.heap.size + 2, 0, none⟩) (by simp) (.int .i64 0), 1, by omega, by go_num, (K2.out.other (i := 0) (u := .int .i64 n) (show w.heap.size + 1 ≠ w.heap.size + 2 by omega)).other (i := 0) (u := .int .i64 0) (show w.heap.size + 1 ≠ w.heap.size + 2 by omega), by rw [HT.out]; exact (K3.out.set 0 (.int .i64 n)).set 0 (.int .i64 0)⟩
        case measure => simp [intOf]
      · have HT := Lib.hid (show setN k 0 ⟨a, b, c⟩ 1 = ⟨x, y, z⟩ by
          show (if ((0 : Nat) : Int) = k then (setN k 0 ⟨a, b, c⟩ 0).set 0 0 else _) = _
          rw [if_neg (show ¬ ((0 : Nat) : Int) = k from hk), hT])
        have d1 : ((0 : Int) == k) = false := by simpa using hk
        clear hk hT
        go_wp2_with fail
        go_roundw
        case rel => exact ⟨HB.out, 1, by omega, by go_num, K2.out, by rw [HT.out]; exact K3.out⟩
        case measure => simp [intOf]
    · obtain ⟨x, y, z, hT⟩ := tri_eta (setN k 0 ⟨a, b, c⟩ 1)
      rw [hT] at k3
      replace k3 : Blk wr (w.heap.size + 2) 22 [.int .i64 x, .int .i64 y, .int .i64 z] := k3
      have HB := Lib.hid hbr; have K2 := Lib.hid k2; have K3 := Lib.hid k3
      have f3 := free3 k3; have c3 := cells3 k3
      clear hbr k2 k3
      by_cases hk : (1 : Int) = k
      · have HT := Lib.hid (show setN k 0 ⟨a, b, c⟩ 2 = ⟨x, 0, z⟩ by
          show (if ((1 : Nat) : Int) = k then (setN k 0 ⟨a, b, c⟩ 1).set 1 0 else _) = _
          rw [if_pos (show ((1 : Nat) : Int) = k from hk), hT]; rfl)
        have d1 : ((1 : Int) == k) = true := by simpa using hk
        clear hk hT
        go_wp2_with fail
        go_roundw
        case rel => exact ⟨(HB.out.setCell (p := ⟨w.heap.size + 2, 1, none⟩) (by simp) (.int .i64 n)).setCell (p := ⟨w.heap.size + 2, 1, none⟩) (by simp) (.int .i64 0), 2, by omega, by go_num, (K2.out.other (i := 1) (u := .int .i64 n) (show w.heap.size + 1 ≠ w.heap.size + 2 by omega)).other (i := 1) (u := .int .i64 0) (show w.heap.size + 1 ≠ w.heap.size + 2 by omega), by rw [HT.out]; exact (K3.out.set 1 (.int .i64 n)).set 1 (.int .i64 0)⟩
        case measure => simp [intOf]
      · have HT := Lib.hid (show setN k 0 ⟨a, b, c⟩ 2 = ⟨x, y, z⟩ by
          show (if ((1 : Nat) : Int) = k then (setN k 0 ⟨a, b, c⟩ 1).set 1 0 else _) = _
          rw [if_neg (show ¬ ((1 : Nat) : Int) = k from hk), hT])
        have d1 : ((1 : Int) == k) = false := by simpa using hk
        clear hk hT
        go_wp2_with fail
        go_roundw
        case rel => exact ⟨HB.out, 2, by omega, by go_num, K2.out, by rw [HT.out]; exact K3.out⟩
        case measure => simp [intOf]
    · obtain ⟨x, y, z, hT⟩ := tri_eta (setN k 0 ⟨a, b, c⟩ 2)
      rw [hT] at k3
      replace k3 : Blk wr (w.heap.size + 2) 22 [.int .i64 x, .int .i64 y, .int .i64 z] := k3
      have HB := Lib.hid hbr; have K2 := Lib.hid k2; have K3 := Lib.hid k3
      have f3 := free3 k3; have c3 := cells3 k3
      clear hbr k2 k3
      by_cases hk : (2 : Int) = k
      · have HT := Lib.hid (show setN k 0 ⟨a, b, c⟩ 3 = ⟨x, y, 0⟩ by
          show (if ((2 : Nat) : Int) = k then (setN k 0 ⟨a, b, c⟩ 2).set 2 0 else _) = _
          rw [if_pos (show ((2 : Nat) : Int) = k from hk), hT]; rfl)
        have d1 : ((2 : Int) == k) = true := by simpa using hk
        clear hk hT
        go_wp2_with fail
        go_roundw
        case rel => exact ⟨(HB.out.setCell (p := ⟨w.heap.size + 2, 2, none⟩) (by simp) (.int .i64 n)).setCell (p := ⟨w.heap.size + 2, 2, none⟩) (by simp) (.int .i64 0), 3, by omega, by go_num, (K2.out.other (i := 2) (u := .int .i64 n) (show w.heap.size + 1 ≠ w.heap.size + 2 by omega)).other (i := 2) (u := .int .i64 0) (show w.heap.size + 1 ≠ w.heap.size + 2 by omega), by rw [HT.out]; exact (K3.out.set 2 (.int .i64 n)).set 2 (.int .i64 0)⟩
        case measure => simp [intOf]
      · have HT := Lib.hid (show setN k 0 ⟨a, b, c⟩ 3 = ⟨x, y, z⟩ by
          show (if ((2 : Nat) : Int) = k then (setN k 0 ⟨a, b, c⟩ 2).set 2 0 else _) = _
          rw [if_neg (show ¬ ((2 : Nat) : Int) = k from hk), hT])
        have d1 : ((2 : Int) == k) = false := by simpa using hk
        clear hk hT
        go_wp2_with fail
        go_roundw
        case rel => exact ⟨HB.out, 3, by omega, by go_num, K2.out, by rw [HT.out]; exact K3.out⟩
        case measure => simp [intOf]
    · obtain ⟨x, y, z, hT⟩ := tri_eta (setN k 0 ⟨a, b, c⟩ 3)
      have HT := Lib.hid hT
      rw [hT] at k3
      replace k3 : Blk wr (w.heap.size + 2) 22 [.int .i64 x, .int .i64 y, .int .i64 z] := k3
      have f2 := free3 k2; have c2 := cells3 k2; have c3 := cells3 k3
      have r2 := res3 (.int .i64 x) (.int .i64 y) (.int .i64 z) k2
      have HB := Lib.hid hbr
      clear hbr k2 k3 hT
      go_wp2_with fail
      refine bodyPost_ret (v := .agg #[.int .i64 x, .int .i64 y, .int .i64 z]) (by simp [results, Try.results8, go_sem, r2.1, r2.2.1, r2.2.2]) rfl ?_
      rw [HT.out]
      exact ⟨rfl, below_set3' HB.out (Nat.le_succ _)⟩
set_option maxRecDepth 100000 in
set_option maxHeartbeats 6400000 in
theorem RefSet_pos (a b c k n : Int) (w : World) (hn : ¬ n < 0) :
    Calls Try.prog 8 #[.agg #[.int .i64 a, .int .i64 b, .int .i64 c], .int .i64 k, .int .i64 n] w (TriPost w (setN k n ⟨a, b, c⟩ 3)) := by
  obtain ⟨hb0, k1, k2, k3, hz⟩ := box3 w (.int .i64 a) (.int .i64 b) (.int .i64 c) (.int .i64 0) (.int .i64 0) (.int .i64 0) (.int .i64 a) (.int .i64 b) (.int .i64 c) 22 22 22
  have HB := Lib.hid hb0; have K1 := Lib.hid k1; have K2 := Lib.hid k2; have K3 := Lib.hid k3; have HZ := Lib.hid hz
  clear hb0 k1 k2 k3 hz
  go_enter Try.func8, Try.ntmps8
  go_wp2_with fail
  go_loopw [8] (fun i wr => RSetRel w k n a b c i wr) (fun i _ => 3 - (intOf i).toNat)
  case atStart => exact ⟨HB.out, 0, by omega, rfl, K2.out, K3.out⟩
  case round =>
    clear HB K1 K2 K3
    obtain ⟨hbr, j, hj, rfl, k2, k3⟩ := hrel
    rcases (show j = 0 ∨ j = 1 ∨ j = 2 ∨ j = 3 by omega) with rfl | rfl | rfl | rfl
    · obtain ⟨x, y, z, hT⟩ := tri_eta (setN k n ⟨a, b, c⟩ 0)
      rw [hT] at k3
      replace k3 : Blk wr (w.heap.size + 2) 22 [.int .i64 x, .int .i64 y, .int .i64 z] := k3
      have HB := Lib.hid hbr; have K2 := Lib.hid k2; have K3 := Lib.hid k3
      have f3 := free3 k3; have c3 := cells3 k3
      clear hbr k2 k3
      by_cases hk : (0 : Int) = k
      · have HT := Lib.hid (show setN k n ⟨a, b, c⟩ 1 = ⟨n, y, z⟩ by
          show (if ((0 : Nat) : Int) = k then (setN k n ⟨a, b, c⟩ 0).set 0 n else _) = _
          rw [if_pos (show ((0 : Nat) : Int) = k from hk), hT]; rfl)
        have d1 : ((0 : Int) == k) = true := by simpa using hk
        clear hk hT
        go_wp2_with fail
        go_roundw
        case rel => exact ⟨HB.out.setCell (p := ⟨w.heap.size + 2, 0, none⟩) (by simp) (.int .i64 n), 1, by omega, by go_num, K2.out.other (i := 0) (u := .int .i64 n) (show w.heap.size + 1 ≠ w.heap.size + 2 by omega), by rw [HT.out]; exact K3.out.set 0 (.int .i64 n)⟩
        case measure => simp [intOf]
      · have HT := Lib.hid (show setN k n ⟨a, b, c⟩ 1 = ⟨x, y, z⟩ by
          show (if ((0 : Nat) : Int) = k then (setN k n ⟨a, b, c⟩ 0).set 0 n else _) = _
          rw [if_neg (show ¬ ((0 : Nat) : Int) = k from hk), hT])
        have d1 : ((0 : Int) == k) = false := by simpa using hk
        clear hk hT
        go_wp2_with fail
        go_roundw
        case rel => exact ⟨HB.out, 1, by omega, by go_num, K2.out, by rw [HT.out]; exact K3.out⟩
        case measure => simp [intOf]
    · obtain ⟨x, y, z, hT⟩ := tri_eta (setN k n ⟨a, b, c⟩ 1)
      rw [hT] at k3
      replace k3 : Blk wr (w.heap.size + 2) 22 [.int .i64 x, .int .i64 y, .int .i64 z] := k3
      have HB := Lib.hid hbr; have K2 := Lib.hid k2; have K3 := Lib.hid k3
      have f3 := free3 k3; have c3 := cells3 k3
      clear hbr k2 k3
      by_cases hk : (1 : Int) = k
      · have HT := Lib.hid (show setN k n ⟨a, b, c⟩ 2 = ⟨x, n, z⟩ by
          show (if ((1 : Nat) : Int) = k then (setN k n ⟨a, b, c⟩ 1).set 1 n else _) = _
          rw [if_pos (show ((1 : Nat) : Int) = k from hk), hT]; rfl)
        have d1 : ((1 : Int) == k) = true := by simpa using hk
        clear hk hT
        go_wp2_with fail
        go_roundw
        case rel => exact ⟨HB.out.setCell (p := ⟨w.heap.size + 2, 1, none⟩) (by simp) (.int .i64 n), 2, by omega, by go_num, K2.out.other (i := 1) (u := .int .i64 n) (show w.heap.size + 1 ≠ w.heap.size + 2 by omega), by rw [HT.out]; exact K3.out.set 1 (.int .i64 n)⟩
        case measure => simp [intOf]
      · have HT := Lib.hid (show setN k n ⟨a, b, c⟩ 2 = ⟨x, y, z⟩ by
          show (if ((1 : Nat) : Int) = k then (setN k n ⟨a, b, c⟩ 1).set 1 n else _) = _
          rw [if_neg (show ¬ ((1 : Nat) : Int) = k from hk), hT])
        have d1 : ((1 : Int) == k) = false := by simpa using hk
        clear hk hT
        go_wp2_with fail
        go_roundw
        case rel => exact ⟨HB.out, 2, by omega, by go_num, K2.out, by rw [HT.out]; exact K3.out⟩
        case measure => simp [intOf]
    · obtain ⟨x, y, z, hT⟩ := tri_eta (setN k n ⟨a, b, c⟩ 2)
      rw [hT] at k3
      replace k3 : Blk wr (w.heap.size + 2) 22 [.int .i64 x, .int .i64 y, .int .i64 z] := k3
      have HB := Lib.hid hbr; have K2 := Lib.hid k2; have K3 := Lib.hid k3
      have f3 := free3 k3; have c3 := cells3 k3
      clear hbr k2 k3
      by_cases hk : (2 : Int) = k
      · have HT := Lib.hid (show setN k n ⟨a, b, c⟩ 3 = ⟨x, y, n⟩ by
          show (if ((2 : Nat) : Int) = k then (setN k n ⟨a, b, c⟩ 2).set 2 n else _) = _
          rw [if_pos (show ((2 : Nat) : Int) = k from hk), hT]; rfl)
        have d1 : ((2 : Int) == k) = true := by simpa using hk
        clear hk hT
        go_wp2_with fail
        go_roundw
        case rel => exact ⟨HB.out.setCell (p := ⟨w.heap.size + 2, 2, none⟩) (by simp) (.int .i64 n), 3, by omega, by go_num, K2.out.other (i := 2) (u := .int .i64 n) (show w.heap.size + 1 ≠ w.heap.size + 2 by omega), by rw [HT.out]; exact K3.out.set 2 (.int .i64 n)⟩
        case measure => simp [intOf]
      · have HT := Lib.hid (show setN k n ⟨a, b, c⟩ 3 = ⟨x, y, z⟩ by
          show (if ((2 : Nat) : Int) = k then (setN k n ⟨a, b, c⟩ 2).set 2 n else _) = _
          rw [if_neg (show ¬ ((2 : Nat) : Int) = k from hk), hT])
        have d1 : ((2 : Int) == k) = false := by simpa using hk
        clear hk hT
        go_wp2_with fail
        go_roundw
        case rel => exact ⟨HB.out, 3, by omega, by go_num, K2.out, by rw [HT.out]; exact K3.out⟩
        case measure => simp [intOf]
    · obtain ⟨x, y, z, hT⟩ := tri_eta (setN k n ⟨a, b, c⟩ 3)
      have HT := Lib.hid hT
      rw [hT] at k3
      replace k3 : Blk wr (w.heap.size + 2) 22 [.int .i64 x, .int .i64 y, .int .i64 z] := k3
      have f2 := free3 k2; have c2 := cells3 k2; have c3 := cells3 k3
      have r2 := res3 (.int .i64 x) (.int .i64 y) (.int .i64 z) k2
      have HB := Lib.hid hbr
      clear hbr k2 k3 hT
      go_wp2_with fail
      refine bodyPost_ret (v := .agg #[.int .i64 x, .int .i64 y, .int .i64 z]) (by simp [results, Try.results8, go_sem, r2.1, r2.2.1, r2.2.2]) rfl ?_
      rw [HT.out]
      exact ⟨rfl, below_set3' HB.out (Nat.le_succ _)⟩
def RTickRel (w : World) (a b c : Int) (v i : Value) (wr : World) : Prop :=
  Below w.heap.size w wr ∧ ∃ j : Nat, j ≤ 3 ∧ i = .int .i64 (j : Int) ∧ Blk wr w.heap.size 22 [.int .i64 a, .int .i64 b, .int .i64 c] ∧ Blk wr (w.heap.size + 1) 22 [.int .i64 0, .int .i64 0, .int .i64 0] ∧ Blk wr (w.heap.size + 2) 22 (triL (passN 1 ⟨a, b, c⟩ j)) ∧ OwnI wr (w.heap.size + 3) v (endN 1 ⟨a, b, c⟩ j)
set_option maxRecDepth 100000 in
set_option maxHeartbeats 12800000 in
theorem RefTick_any (a b c : Int) (w : World) (ht : (⟨a, b, c⟩ : Tri).I64) :
    Calls Try.prog 12 #[.agg #[.int .i64 a, .int .i64 b, .int .i64 c]] w (PassPost w (passN 1 ⟨a, b, c⟩ 3) (endN 1 ⟨a, b, c⟩ 3)) := by
  obtain ⟨⟨_, ha⟩, ⟨_, hb⟩, ⟨_, hc⟩⟩ := ht
  have HWa := Lib.hid (fun (h : 0 < a) => show IntKind.i64.wrap (a - 1) = a - 1 from IntWalk.i64_in _ ⟨by dsimp at *; omega, by dsimp at *; omega⟩)
  have HWb := Lib.hid (fun (h : 0 < b) => show IntKind.i64.wrap (b - 1) = b - 1 from IntWalk.i64_in _ ⟨by dsimp at *; omega, by dsimp at *; omega⟩)
  have HWc := Lib.hid (fun (h : 0 < c) => show IntKind.i64.wrap (c - 1) = c - 1 from IntWalk.i64_in _ ⟨by dsimp at *; omega, by dsimp at *; omega⟩)
  obtain ⟨hb0, k1, k2, k3, hz⟩ := box3 w (.int .i64 a) (.int .i64 b) (.int .i64 c) (.int .i64 0) (.int .i64 0) (.int .i64 0) (.int .i64 a) (.int .i64 b) (.int .i64 c) 22 22 22
  have HB := Lib.hid hb0; have K1 := Lib.hid k1; have K2 := Lib.hid k2; have K3 := Lib.hid k3; have HZ := Lib.hid hz
  clear hb0 k1 k2 k3 hz
  have HN0 := Lib.hid (OwnI.nil (((w.alloc (.cells #[.int .i64 a, .int .i64 b, .int .i64 c] 22)).alloc (.cells #[.int .i64 0, .int .i64 0, .int .i64 0] 22)).alloc (.cells #[.int .i64 a, .int .i64 b, .int .i64 c] 22)) (w.heap.size + 3))
  clear ha hb hc
  go_enter Try.func12, Try.ntmps12
  go_wp2_with fail
  go_loopw [5, 6] (fun v i wr => RTickRel w a b c v i wr) (fun _ i _ => 3 - (intOf i).toNat)
  case atStart => exact ⟨HB.out, 0, by omega, rfl, K1.out, K2.out, K3.out, HN0.out⟩
  case round =>
    clear HB K1 K2 K3 HN0
    obtain ⟨hbr, j, hj, rfl, k1, k2, k3, hown⟩ := hrel
    rcases (show j = 0 ∨ j = 1 ∨ j = 2 ∨ j = 3 by omega) with rfl | rfl | rfl | rfl
    · obtain ⟨z, hzz⟩ : ∃ z, z = endN 1 ⟨a, b, c⟩ 0 := ⟨_, rfl⟩
      have HZL := Lib.hid (show z.length ≤ 0 by rw [hzz]; exact endN_len _ _ _)
      have HT := Lib.hid (show triL (passN 1 ⟨a, b, c⟩ 1) = [.int .i64 (less 1 a), .int .i64 b, .int .i64 c] by rfl)
      have HE := Lib.hid (show endN 1 ⟨a, b, c⟩ 1 = z ++ end1 1 a 0 by rw [hzz]; rfl)
      replace k3 : Blk wr (w.heap.size + 2) 22 [.int .i64 a, .int .i64 b, .int .i64 c] := by exact k3
      rw [← hzz] at hown
      have c1 := cells3 k1; have f3 := free3 k3
      have HB := Lib.hid hbr; have K1 := Lib.hid k1; have K2 := Lib.hid k2; have K3 := Lib.hid k3; have HO := Lib.hid hown
      have c3 := cells3 k3
      clear hbr k1 k2 k3 hown hzz 
      by_cases h0 : 0 < a
      · obtain ⟨y1, hy1⟩ : ∃ n, n = a - 1 := ⟨_, rfl⟩
        have w1 : IntKind.i64.wrap (a - 1) = y1 := by rw [hy1]; exact HWa.out h0
        have HY := Lib.hid (show less 1 a = y1 by unfold less; rw [if_pos h0, hy1])
        have d0 : decide (0 < a) = true := by simpa using h0
        have K1' := Lib.hid (K1.out.other (i := 0) (u := .int .i64 y1) (show w.heap.size ≠ w.heap.size + 2 by omega))
        have K2' := Lib.hid (K2.out.other (i := 0) (u := .int .i64 y1) (show w.heap.size + 1 ≠ w.heap.size + 2 by omega))
        have K3' := Lib.hid (show Blk (wr.setCell ⟨w.heap.size + 2, 0, none⟩ (.int .i64 y1)) (w.heap.size + 2) 22 [.int .i64 y1, .int .i64 b, .int .i64 c] from K3.out.set 0 (.int .i64 y1))
        have HO' := Lib.hid (HO.out.setBelow (g := w.heap.size + 2) (i := 0) (by omega) (.int .i64 y1))
        have HB' := Lib.hid (HB.out.setCell (p := ⟨w.heap.size + 2, 0, none⟩) (by simp) (.int .i64 y1))
        by_cases hkx : a = 1
        · have d1 : (y1 == 0) = true := by rw [hy1, hkx]; rfl
          have HV := Lib.hid (show end1 1 a 0 = [(0 : Int)] by unfold end1; rw [if_pos ⟨h0, hkx⟩]; rfl)
          have HSZ := Lib.hid (show w.heap.size + 3 ≤ (wr.setCell ⟨w.heap.size + 2, 0, none⟩ (.int .i64 y1)).heap.size from K3'.out.lt)
          clear hkx hy1
          go_wp2_with (at_builtin; refine wpList_appI _ (wr.setCell ⟨w.heap.size + 2, 0, none⟩ (.int .i64 y1)) (0 : Int) rfl rfl (.tmp 26) (.tmp 28) rfl (w.heap.size + 3) _ z rfl HO'.out HSZ.out (by change Value.slice (some ⟨wr.heap.size, 0, none⟩) 1 1 = _; simp) (by have := HZL.out; omega) ?_)
          intro v4 w4 ho4 hg4 hb4 _
          have HO4 := Lib.hid ho4
          have K14 := Lib.hid (K1'.out.below hb4 (by omega)); have K24 := Lib.hid (K2'.out.below hb4 (by omega)); have K34 := Lib.hid (K3'.out.below hb4 (by omega))
          have HB4 := Lib.hid (HB'.out.trans (hb4.mono (by omega)))
          clear ho4 hg4 hb4 c1 f3 c3 HO' K1' K2' K3' HB' HB K1 K2 K3 HO w1
          go_wp2_with fail
          go_roundw
          case rel => exact ⟨HB4.out, 1, by omega, by go_num, K14.out, K24.out, by rw [HT.out, HY.out]; exact K34.out, by rw [HE.out, HV.out]; exact HO4.out⟩
          case measure => simp [intOf]
        · have d1 : (y1 == 0) = false := by rw [hy1]; simpa using (show ¬ a - 1 = 0 by omega)
          have HV := Lib.hid (show end1 1 a 0 = [] by unfold end1; rw [if_neg (fun q => hkx q.2)])
          clear hkx hy1
          go_wp2_with fail
          go_roundw
          case rel => exact ⟨HB'.out, 1, by omega, by go_num, K1'.out, K2'.out, by rw [HT.out, HY.out]; exact K3'.out, by rw [HE.out, HV.out, List.append_nil]; exact HO'.out⟩
          case measure => simp [intOf]
      · have d0 : decide (0 < a) = false := by simpa using h0
        have HY := Lib.hid (show less 1 a = a by unfold less; rw [if_neg h0])
        have HV := Lib.hid (show end1 1 a 0 = [] by unfold end1; rw [if_neg (fun q => h0 q.1)])
        go_wp2_with fail
        go_roundw
        case rel => exact ⟨HB.out, 1, by omega, by go_num, K1.out, K2.out, by rw [HT.out, HY.out]; exact K3.out, by rw [HE.out, HV.out, List.append_nil]; exact HO.out⟩
        case measure => simp [intOf]
    · obtain ⟨z, hzz⟩ : ∃ z, z = endN 1 ⟨a, b, c⟩ 1 := ⟨_, rfl⟩
      have HZL := Lib.hid (show z.length ≤ 1 by rw [hzz]; exact endN_len _ _ _)
      obtain ⟨x, hx⟩ : ∃ n, n = less 1 a := ⟨_, rfl⟩
      have HT := Lib.hid (show triL (passN 1 ⟨a, b, c⟩ 2) = [.int .i64 x, .int .i64 (less 1 b), .int .i64 c] by subst hx; rfl)
      have HE := Lib.hid (show endN 1 ⟨a, b, c⟩ 2 = z ++ end1 1 b 1 by rw [hzz]; rfl)
      replace k3 : Blk wr (w.heap.size + 2) 22 [.int .i64 x, .int .i64 b, .int .i64 c] := by subst hx; exact k3
      rw [← hzz] at hown
      have c1 := cells3 k1; have f3 := free3 k3
      have HB := Lib.hid hbr; have K1 := Lib.hid k1; have K2 := Lib.hid k2; have K3 := Lib.hid k3; have HO := Lib.hid hown
      have c3 := cells3 k3
      clear hbr k1 k2 k3 hown hzz hx
      by_cases h0 : 0 < b
      · obtain ⟨y1, hy1⟩ : ∃ n, n = b - 1 := ⟨_, rfl⟩
        have w1 : IntKind.i64.wrap (b - 1) = y1 := by rw [hy1]; exact HWb.out h0
        have HY := Lib.hid (show less 1 b = y1 by unfold less; rw [if_pos h0, hy1])
        have d0 : decide (0 < b) = true := by simpa using h0
        have K1' := Lib.hid (K1.out.other (i := 1) (u := .int .i64 y1) (show w.heap.size ≠ w.heap.size + 2 by omega))
        have K2' := Lib.hid (K2.out.other (i := 1) (u := .int .i64 y1) (show w.heap.size + 1 ≠ w.heap.size + 2 by omega))
        have K3' := Lib.hid (show Blk (wr.setCell ⟨w.heap.size + 2, 1, none⟩ (.int .i64 y1)) (w.heap.size + 2) 22 [.int .i64 x, .int .i64 y1, .int .i64 c] from K3.out.set 1 (.int .i64 y1))
        have HO' := Lib.hid (HO.out.setBelow (g := w.heap.size + 2) (i := 1) (by omega) (.int .i64 y1))
        have HB' := Lib.hid (HB.out.setCell (p := ⟨w.heap.size + 2, 1, none⟩) (by simp) (.int .i64 y1))
        by_cases hkx : b = 1
        · have d1 : (y1 == 0) = true := by rw [hy1, hkx]; rfl
          have HV := Lib.hid (show end1 1 b 1 = [(1 : Int)] by unfold end1; rw [if_pos ⟨h0, hkx⟩]; rfl)
          have HSZ := Lib.hid (show w.heap.size + 3 ≤ (wr.setCell ⟨w.heap.size + 2, 1, none⟩ (.int .i64 y1)).heap.size from K3'.out.lt)
          clear hkx hy1
          go_wp2_with (at_builtin; refine wpList_appI _ (wr.setCell ⟨w.heap.size + 2, 1, none⟩ (.int .i64 y1)) (1 : Int) rfl rfl (.tmp 26) (.tmp 28) rfl (w.heap.size + 3) _ z rfl HO'.out HSZ.out (by change Value.slice (some ⟨wr.heap.size, 0, none⟩) 1 1 = _; simp) (by have := HZL.out; omega) ?_)
          intro v4 w4 ho4 hg4 hb4 _
          have HO4 := Lib.hid ho4
          have K14 := Lib.hid (K1'.out.below hb4 (by omega)); have K24 := Lib.hid (K2'.out.below hb4 (by omega)); have K34 := Lib.hid (K3'.out.below hb4 (by omega))
          have HB4 := Lib.hid (HB'.out.trans (hb4.mono (by omega)))
          clear ho4 hg4 hb4 c1 f3 c3 HO' K1' K2' K3' HB' HB K1 K2 K3 HO w1
          go_wp2_with fail
          go_roundw
          case rel => exact ⟨HB4.out, 2, by omega, by go_num, K14.out, K24.out, by rw [HT.out, HY.out]; exact K34.out, by rw [HE.out, HV.out]; exact HO4.out⟩
          case measure => simp [intOf]
        · have d1 : (y1 == 0) = false := by rw [hy1]; simpa using (show ¬ b - 1 = 0 by omega)
          have HV := Lib.hid (show end1 1 b 1 = [] by unfold end1; rw [if_neg (fun q => hkx q.2)])
          clear hkx hy1
          go_wp2_with fail
          go_roundw
          case rel => exact ⟨HB'.out, 2, by omega, by go_num, K1'.out, K2'.out, by rw [HT.out, HY.out]; exact K3'.out, by rw [HE.out, HV.out, List.append_nil]; exact HO'.out⟩
          case measure => simp [intOf]
      · have d0 : decide (0 < b) = false := by simpa using h0
        have HY := Lib.hid (show less 1 b = b by unfold less; rw [if_neg h0])
        have HV := Lib.hid (show end1 1 b 1 = [] by unfold end1; rw [if_neg (fun q => h0 q.1)])
        go_wp2_with fail
        go_roundw
        case rel => exact ⟨HB.out, 2, by omega, by go_num, K1.out, K2.out, by rw [HT.out, HY.out]; exact K3.out, by rw [HE.out, HV.out, List.append_nil]; exact HO.out⟩
        case measure => simp [intOf]
    · obtain ⟨z, hzz⟩ : ∃ z, z = endN 1 ⟨a, b, c⟩ 2 := ⟨_, rfl⟩
      have HZL := Lib.hid (show z.length ≤ 2 by rw [hzz]; exact endN_len _ _ _)
      obtain ⟨x, hx⟩ : ∃ n, n = less 1 a := ⟨_, rfl⟩
      obtain ⟨y, hy⟩ : ∃ n, n = less 1 b := ⟨_, rfl⟩
      have HT := Lib.hid (show triL (passN 1 ⟨a, b, c⟩ 3) = [.int .i64 x, .int .i64 y, .int .i64 (less 1 c)] by subst hx hy; rfl)
      have HE := Lib.hid (show endN 1 ⟨a, b, c⟩ 3 = z ++ end1 1 c 2 by rw [hzz]; rfl)
      replace k3 : Blk wr (w.heap.size + 2) 22 [.int .i64 x, .int .i64 y, .int .i64 c] := by subst hx hy; exact k3
      rw [← hzz] at hown
      have c1 := cells3 k1; have f3 := free3 k3
      have HB := Lib.hid hbr; have K1 := Lib.hid k1; have K2 := Lib.hid k2; have K3 := Lib.hid k3; have HO := Lib.hid hown
      have c3 := cells3 k3
      clear hbr k1 k2 k3 hown hzz hx hy
      by_cases h0 : 0 < c
      · obtain ⟨y1, hy1⟩ : ∃ n, n = c - 1 := ⟨_, rfl⟩
        have w1 : IntKind.i64.wrap (c - 1) = y1 := by rw [hy1]; exact HWc.out h0
        have HY := Lib.hid (show less 1 c = y1 by unfold less; rw [if_pos h0, hy1])
        have d0 : decide (0 < c) = true := by simpa using h0
        have K1' := Lib.hid (K1.out.other (i := 2) (u := .int .i64 y1) (show w.heap.size ≠ w.heap.size + 2 by omega))
        have K2' := Lib.hid (K2.out.other (i := 2) (u := .int .i64 y1) (show w.heap.size + 1 ≠ w.heap.size + 2 by omega))
        have K3' := Lib.hid (show Blk (wr.setCell ⟨w.heap.size + 2, 2, none⟩ (.int .i64 y1)) (w.heap.size + 2) 22 [.int .i64 x, .int .i64 y, .int .i64 y1] from K3.out.set 2 (.int .i64 y1))
        have HO' := Lib.hid (HO.out.setBelow (g := w.heap.size + 2) (i := 2) (by omega) (.int .i64 y1))
        have HB' := Lib.hid (HB.out.setCell (p := ⟨w.heap.size + 2, 2, none⟩) (by simp) (.int .i64 y1))
        by_cases hkx : c = 1
        · have d1 : (y1 == 0) = true := by rw [hy1, hkx]; rfl
          have HV := Lib.hid (show end1 1 c 2 = [(2 : Int)] by unfold end1; rw [if_pos ⟨h0, hkx⟩]; rfl)
          have HSZ := Lib.hid (show w.heap.size + 3 ≤ (wr.setCell ⟨w.heap.size + 2, 2, none⟩ (.int .i64 y1)).heap.size from K3'.out.lt)
          clear hkx hy1
          go_wp2_with (at_builtin; refine wpList_appI _ (wr.setCell ⟨w.heap.size + 2, 2, none⟩ (.int .i64 y1)) (2 : Int) rfl rfl (.tmp 26) (.tmp 28) rfl (w.heap.size + 3) _ z rfl HO'.out HSZ.out (by change Value.slice (some ⟨wr.heap.size, 0, none⟩) 1 1 = _; simp) (by have := HZL.out; omega) ?_)
          intro v4 w4 ho4 hg4 hb4 _
          have HO4 := Lib.hid ho4
          have K14 := Lib.hid (K1'.out.below hb4 (by omega)); have K24 := Lib.hid (K2'.out.below hb4 (by omega)); have K34 := Lib.hid (K3'.out.below hb4 (by omega))
          have HB4 := Lib.hid (HB'.out.trans (hb4.mono (by omega)))
          clear ho4 hg4 hb4 c1 f3 c3 HO' K1' K2' K3' HB' HB K1 K2 K3 HO w1
          go_wp2_with fail
          go_roundw
          case rel => exact ⟨HB4.out, 3, by omega, by go_num, K14.out, K24.out, by rw [HT.out, HY.out]; exact K34.out, by rw [HE.out, HV.out]; exact HO4.out⟩
          case measure => simp [intOf]
        · have d1 : (y1 == 0) = false := by rw [hy1]; simpa using (show ¬ c - 1 = 0 by omega)
          have HV := Lib.hid (show end1 1 c 2 = [] by unfold end1; rw [if_neg (fun q => hkx q.2)])
          clear hkx hy1
          go_wp2_with fail
          go_roundw
          case rel => exact ⟨HB'.out, 3, by omega, by go_num, K1'.out, K2'.out, by rw [HT.out, HY.out]; exact K3'.out, by rw [HE.out, HV.out, List.append_nil]; exact HO'.out⟩
          case measure => simp [intOf]
      · have d0 : decide (0 < c) = false := by simpa using h0
        have HY := Lib.hid (show less 1 c = c by unfold less; rw [if_neg h0])
        have HV := Lib.hid (show end1 1 c 2 = [] by unfold end1; rw [if_neg (fun q => h0 q.1)])
        go_wp2_with fail
        go_roundw
        case rel => exact ⟨HB.out, 3, by omega, by go_num, K1.out, K2.out, by rw [HT.out, HY.out]; exact K3.out, by rw [HE.out, HV.out, List.append_nil]; exact HO.out⟩
        case measure => simp [intOf]
    · obtain ⟨⟨x, y, t⟩, hT⟩ : ∃ t, t = passN 1 ⟨a, b, c⟩ 3 := ⟨_, rfl⟩
      obtain ⟨z, hzz⟩ : ∃ z, z = endN 1 ⟨a, b, c⟩ 3 := ⟨_, rfl⟩
      rw [← hT] at k3
      rw [← hzz] at hown
      have HTT := Lib.hid hT; have HZZ := Lib.hid hzz
      replace k3 : Blk wr (w.heap.size + 2) 22 [.int .i64 x, .int .i64 y, .int .i64 t] := k3
      obtain ⟨A1, c1, rfl, p1, p2⟩ := hown.form
      have e3 := cells3 k3; have e2 := cells3 k2; have f2 := free3 k2
      have r2 := res3 (.int .i64 x) (.int .i64 y) (.int .i64 t) k2
      have HB := Lib.hid hbr
      have HO := Lib.hid (show OwnI (((wr.setCell ⟨w.heap.size + 1, 0, none⟩ (.int .i64 x)).setCell ⟨w.heap.size + 1, 1, none⟩ (.int .i64 y)).setCell ⟨w.heap.size + 1, 2, none⟩ (.int .i64 t)) _ _ z from ((hown.setBelow (g := w.heap.size + 1) (i := 0) (by omega) (.int .i64 x)).setBelow (g := w.heap.size + 1) (i := 1) (by omega) (.int .i64 y)).setBelow (g := w.heap.size + 1) (i := 2) (by omega) (.int .i64 t))
      clear hT hzz k1 k2 k3 hown hbr p1 p2
      go_wp2_with fail
      refine bodyPost_ret (v := .tuple #[.agg #[.int .i64 x, .int .i64 y, .int .i64 t], .slice A1 z.length c1]) (by simp [results, Try.results12, go_sem, r2.1, r2.2.1, r2.2.2]) rfl ?_
      rw [← HTT.out, ← HZZ.out]
      exact ⟨A1, c1, rfl, HO.out.lower (by omega), below_set3' HB.out (Nat.le_succ _)⟩
set_option maxHeartbeats 3200000 in
/-- Two lists that are the same. -/
theorem Same20_any (A A' : Option Addr) (c c' : Nat) (z : List Int) (w : World) (hz : z.length ≤ 1000000) (h : IntsAt w w.heap.size A z) (h' : IntsAt w w.heap.size A' z) :
    Calls Try.prog 13 #[.slice A z.length c, .slice A' z.length c'] w fun e w' => e = .returned (.bool true) ∧ ∃ n, w' = w.drewN n := by
  have HI := Lib.hid h; have HJ := Lib.hid h'
  have d0 : ((z.length : Int) != (z.length : Int)) = false := by simp
  clear h h'
  go_enter Try.func13, Try.ntmps13
  go_wp2_with fail
  go_loopw [5] (fun i wr => (∃ n, wr = w.drewN n) ∧ ∃ j : Nat, j ≤ z.length ∧ i = .int .i64 (j : Int)) (fun i _ => z.length - (intOf i).toNat)
  case atStart => exact ⟨⟨0, rfl⟩, 0, Nat.zero_le _, rfl⟩
  case round =>
    obtain ⟨⟨n, rfl⟩, j, hj, rfl⟩ := hrel
    by_cases hlt : j < z.length
    · obtain ⟨u, hu⟩ : ∃ u, z[j]? = some u := ⟨_, List.getElem?_eq_getElem hlt⟩
      obtain ⟨b1, o1, rfl, hb1, hc1⟩ := HI.out.at hu
      obtain ⟨b2, o2, rfl, hb2, hc2⟩ := HJ.out.at hu
      have e1 : (w.drewN n).cell? ⟨b1, o1 + j, none⟩ = some (.int .i64 u) := hc1 j u hu
      have e2 : (w.drewN n).cell? ⟨b2, o2 + j, none⟩ = some (.int .i64 u) := hc2 j u hu
      have d1 : (u != u) = false := by simp
      obtain ⟨W, hW⟩ : ∃ W, W = w.drewN n := ⟨_, rfl⟩
      rw [← hW] at e1 e2 ⊢
      have HW := Lib.hid hW
      clear hu hc1 hc2 hW hb1 hb2
      go_wp2_with fail
      go_quiet (fail)
      go_wp2_with fail
      go_roundw
      case rel => exact ⟨⟨_, by rw [HW.out]; exact World.drewN_drewN _ _ _⟩, j + 1, by omega, by go_num⟩
      case measure => simp [intOf]; omega
    · obtain rfl : j = z.length := by omega
      go_wp2_with fail
      go_ret
      exact ⟨rfl, n, rfl⟩
end Go.Proofs.Yteihadheplcccaa

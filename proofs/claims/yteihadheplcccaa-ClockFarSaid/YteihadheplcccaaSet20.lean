/-
  A time is set; whether one runs.
-/
import Derived.Test.YteihadheplcccaaBase
import Derived.Test.YteihadheplcccaaSeat
import Derived.Test.YteihadheplcccaaClk20
import Derived.Test.YteihadheplcccaaStr7
namespace Go.Proofs.Yteihadheplcccaa
set_option linter.unusedVariables false
set_option linter.unusedSimpArgs false
open Go.RowKit

theorem box2 (w : World) (x y z u v t : Value) (T T2 : Nat) :
    Below w.heap.size w ((w.alloc (.cells #[x, y, z] T)).alloc (.cells #[u, v, t] T2)) ∧ Blk ((w.alloc (.cells #[x, y, z] T)).alloc (.cells #[u, v, t] T2)) w.heap.size T [x, y, z] ∧ Blk ((w.alloc (.cells #[x, y, z] T)).alloc (.cells #[u, v, t] T2)) (w.heap.size + 1) T2 [u, v, t] ∧ ((w.alloc (.cells #[x, y, z] T)).alloc (.cells #[u, v, t] T2)).heap.size = w.heap.size + 2 := by
  have hz : (w.alloc (.cells #[x, y, z] T)).heap.size = w.heap.size + 1 := by simp
  have k2 := Blk.new (w.alloc (.cells #[x, y, z] T)) T2 [u, v, t]
  rw [hz] at k2
  refine ⟨((Below.refl _ _).alloc (Nat.le_refl _) _).alloc (by simp) _, ?_, k2, by simp⟩
  exact (Blk.new w T [x, y, z]).below ((Below.refl _ _).alloc (Nat.le_refl _) _) (by simp)
theorem Blk.other {w : World} {g g' T i : Nat} {cs : List Value} {u : Value} (h : Blk w g T cs) (hg : g ≠ g') : Blk (w.setCell ⟨g', i, none⟩ u) g T cs :=
  h.grown (grown_setCell (grown_refl w (some g')) i u) hg

theorem index3_0 (x y z : Value) (w : World) : (Instr.index 22 (.agg #[x, y, z]) (.int .i64 0)).run Try.prog w = .ok x w := by kernel_rfl
theorem index3_1 (x y z : Value) (w : World) : (Instr.index 22 (.agg #[x, y, z]) (.int .i64 1)).run Try.prog w = .ok y w := by kernel_rfl
theorem index3_2 (x y z : Value) (w : World) : (Instr.index 22 (.agg #[x, y, z]) (.int .i64 2)).run Try.prog w = .ok z w := by kernel_rfl
theorem has_yes (a b c n : Int) (w : World) (h0 : 0 ≤ n) (h3 : n < 3) :
    Calls Try.prog 17 #[.agg #[.int .i64 a, .int .i64 b, .int .i64 c], .int .i64 n] w fun e w' => e = .returned (.bool true) ∧ Below w.heap.size w w' := by
  go_enter Try.func17, Try.ntmps17
  go_wp2_with fail
  go_ret
  exact ⟨rfl, (Below.refl _ _).alloc (Nat.le_refl _) _⟩
theorem has_neg (a b c n : Int) (w : World) (h : n < 0) :
    Calls Try.prog 17 #[.agg #[.int .i64 a, .int .i64 b, .int .i64 c], .int .i64 n] w fun e w' => e = .returned (.bool false) ∧ Below w.heap.size w w' := by
  have h0 : ¬ 0 ≤ n := by omega
  go_enter Try.func17, Try.ntmps17
  go_wp2_with fail
  go_ret
  exact ⟨rfl, (Below.refl _ _).alloc (Nat.le_refl _) _⟩
theorem has_big (a b c n : Int) (w : World) (h : 3 ≤ n) :
    Calls Try.prog 17 #[.agg #[.int .i64 a, .int .i64 b, .int .i64 c], .int .i64 n] w fun e w' => e = .returned (.bool false) ∧ Below w.heap.size w w' := by
  have h0 : 0 ≤ n := by omega
  have h3 : decide (n < 3) = false := by simpa using h
  go_enter Try.func17, Try.ntmps17
  go_wp2_with fail
  go_ret
  exact ⟨rfl, (Below.refl _ _).alloc (Nat.le_refl _) _⟩
theorem has_no (a b c n : Int) (w : World) (h : n < 0 ∨ 3 ≤ n) :
    Calls Try.prog 17 #[.agg #[.int .i64 a, .int .i64 b, .int .i64 c], .int .i64 n] w fun e w' => e = .returned (.bool false) ∧ Below w.heap.size w w' := h.elim (has_neg a b c n w) (has_big a b c n w)
set_option maxHeartbeats 1600000 in
theorem Set_0neg (a b c n : Int) (w : World) (hn : n < 0) :
    Calls Try.prog 7 #[.agg #[.int .i64 a, .int .i64 b, .int .i64 c], .int .i64 0, .int .i64 n] w fun e w' => e = .returned (.agg #[.int .i64 0, .int .i64 b, .int .i64 c]) ∧ Below w.heap.size w w' := by
  have Q := Lib.hid (fun w => has_yes a b c 0 w (by omega) (by omega))
  obtain ⟨hb, k1, k2, hz⟩ := box2 w (.int .i64 a) (.int .i64 b) (.int .i64 c) (.int .i64 0) (.int .i64 0) (.int .i64 0) 24 24
  have HB := Lib.hid hb; have K1 := Lib.hid k1; have K2 := Lib.hid k2
  have c0 := cells3 k1
  clear hb k1 k2 hz
  go_enter Try.func7, Try.ntmps7
  go_wp2_with fail
  refine (Q.out _).mono ?_
  rintro e w1 ⟨rfl, hb1⟩
  have k1 := K1.out.below hb1 K1.out.lt
  have k2 := K2.out.below hb1 K2.out.lt
  have c1 := cells3 k1; have f1 := free3 k1; have c2 := cells3 k2; have f2 := free3 k2
  have r2 := res3 (.int .i64 0) (.int .i64 b) (.int .i64 c) (k2.other (i := 0) (u := .int .i64 0) (Nat.succ_ne_self w.heap.size))
  have HB1 := Lib.hid (HB.out.trans (hb1.mono HB.out.size))
  clear hb1 k1 k2 c0
  go_wp2_with fail
  refine bodyPost_ret (v := .agg #[.int .i64 0, .int .i64 b, .int .i64 c]) (by simp [results, Try.results7, go_sem, r2.1, r2.2.1, r2.2.2]) rfl ?_
  exact ⟨rfl, below_set3' (HB1.out.setCell (p := ⟨w.heap.size, 0, none⟩) (Nat.le_refl _) _) (Nat.le_succ _)⟩
set_option maxHeartbeats 1600000 in
theorem Set_0pos (a b c n : Int) (w : World) (hn : ¬ n < 0) :
    Calls Try.prog 7 #[.agg #[.int .i64 a, .int .i64 b, .int .i64 c], .int .i64 0, .int .i64 n] w fun e w' => e = .returned (.agg #[.int .i64 n, .int .i64 b, .int .i64 c]) ∧ Below w.heap.size w w' := by
  have Q := Lib.hid (fun w => has_yes a b c 0 w (by omega) (by omega))
  obtain ⟨hb, k1, k2, hz⟩ := box2 w (.int .i64 a) (.int .i64 b) (.int .i64 c) (.int .i64 0) (.int .i64 0) (.int .i64 0) 24 24
  have HB := Lib.hid hb; have K1 := Lib.hid k1; have K2 := Lib.hid k2
  have c0 := cells3 k1
  clear hb k1 k2 hz
  go_enter Try.func7, Try.ntmps7
  go_wp2_with fail
  refine (Q.out _).mono ?_
  rintro e w1 ⟨rfl, hb1⟩
  have k1 := K1.out.below hb1 K1.out.lt
  have k2 := K2.out.below hb1 K2.out.lt
  have c1 := cells3 k1; have f1 := free3 k1; have c2 := cells3 k2; have f2 := free3 k2
  have r2 := res3 (.int .i64 n) (.int .i64 b) (.int .i64 c) (k2.other (i := 0) (u := .int .i64 n) (Nat.succ_ne_self w.heap.size))
  have HB1 := Lib.hid (HB.out.trans (hb1.mono HB.out.size))
  clear hb1 k1 k2 c0
  go_wp2_with fail
  refine bodyPost_ret (v := .agg #[.int .i64 n, .int .i64 b, .int .i64 c]) (by simp [results, Try.results7, go_sem, r2.1, r2.2.1, r2.2.2]) rfl ?_
  exact ⟨rfl, below_set3' (HB1.out.setCell (p := ⟨w.heap.size, 0, none⟩) (Nat.le_refl _) _) (Nat.le_succ _)⟩
set_option maxHeartbeats 1600000 in
theorem Set_1neg (a b c n : Int) (w : World) (hn : n < 0) :
    Calls Try.prog 7 #[.agg #[.int .i64 a, .int .i64 b, .int .i64 c], .int .i64 1, .int .i64 n] w fun e w' => e = .returned (.agg #[.int .i64 a, .int .i64 0, .int .i64 c]) ∧ Below w.heap.size w w' := by
  have Q := Lib.hid (fun w => has_yes a b c 1 w (by omega) (by omega))
  obtain ⟨hb, k1, k2, hz⟩ := box2 w (.int .i64 a) (.int .i64 b) (.int .i64 c) (.int .i64 0) (.int .i64 0) (.int .i64 0) 24 24
  have HB := Lib.hid hb; have K1 := Lib.hid k1; have K2 := Lib.hid k2
  have c0 := cells3 k1
  clear hb k1 k2 hz
  go_enter Try.func7, Try.ntmps7
  go_wp2_with fail
  refine (Q.out _).mono ?_
  rintro e w1 ⟨rfl, hb1⟩
  have k1 := K1.out.below hb1 K1.out.lt
  have k2 := K2.out.below hb1 K2.out.lt
  have c1 := cells3 k1; have f1 := free3 k1; have c2 := cells3 k2; have f2 := free3 k2
  have r2 := res3 (.int .i64 a) (.int .i64 0) (.int .i64 c) (k2.other (i := 1) (u := .int .i64 0) (Nat.succ_ne_self w.heap.size))
  have HB1 := Lib.hid (HB.out.trans (hb1.mono HB.out.size))
  clear hb1 k1 k2 c0
  go_wp2_with fail
  refine bodyPost_ret (v := .agg #[.int .i64 a, .int .i64 0, .int .i64 c]) (by simp [results, Try.results7, go_sem, r2.1, r2.2.1, r2.2.2]) rfl ?_
  exact ⟨rfl, below_set3' (HB1.out.setCell (p := ⟨w.heap.size, 1, none⟩) (Nat.le_refl _) _) (Nat.le_succ _)⟩
set_option maxHeartbeats 1600000 in
theorem Set_1pos (a b c n : Int) (w : World) (hn : ¬ n < 0) :
    Calls Try.prog 7 #[.agg #[.int .i64 a, .int .i64 b, .int .i64 c], .int .i64 1, .int .i64 n] w fun e w' => e = .returned (.agg #[.int .i64 a, .int .i64 n, .int .i64 c]) ∧ Below w.heap.size w w' := by
  have Q := Lib.hid (fun w => has_yes a b c 1 w (by omega) (by omega))
  obtain ⟨hb, k1, k2, hz⟩ := box2 w (.int .i64 a) (.int .i64 b) (.int .i64 c) (.int .i64 0) (.int .i64 0) (.int .i64 0) 24 24
  have HB := Lib.hid hb; have K1 := Lib.hid k1; have K2 := Lib.hid k2
  have c0 := cells3 k1
  clear hb k1 k2 hz
  go_enter Try.func7, Try.ntmps7
  go_wp2_with fail
  refine (Q.out _).mono ?_
  rintro e w1 ⟨rfl, hb1⟩
  have k1 := K1.out.below hb1 K1.out.lt
  have k2 := K2.out.below hb1 K2.out.lt
  have c1 := cells3 k1; have f1 := free3 k1; have c2 := cells3 k2; have f2 := free3 k2
  have r2 := res3 (.int .i64 a) (.int .i64 n) (.int .i64 c) (k2.other (i := 1) (u := .int .i64 n) (Nat.succ_ne_self w.heap.size))
  have HB1 := Lib.hid (HB.out.trans (hb1.mono HB.out.size))
  clear hb1 k1 k2 c0
  go_wp2_with fail
  refine bodyPost_ret (v := .agg #[.int .i64 a, .int .i64 n, .int .i64 c]) (by simp [results, Try.results7, go_sem, r2.1, r2.2.1, r2.2.2]) rfl ?_
  exact ⟨rfl, below_set3' (HB1.out.setCell (p := ⟨w.heap.size, 1, none⟩) (Nat.le_refl _) _) (Nat.le_succ _)⟩
set_option maxHeartbeats 1600000 in
theorem Set_2neg (a b c n : Int) (w : World) (hn : n < 0) :
    Calls Try.prog 7 #[.agg #[.int .i64 a, .int .i64 b, .int .i64 c], .int .i64 2, .int .i64 n] w fun e w' => e = .returned (.agg #[.int .i64 a, .int .i64 b, .int .i64 0]) ∧ Below w.heap.size w w' := by
  have Q := Lib.hid (fun w => has_yes a b c 2 w (by omega) (by omega))
  obtain ⟨hb, k1, k2, hz⟩ := box2 w (.int .i64 a) (.int .i64 b) (.int .i64 c) (.int .i64 0) (.int .i64 0) (.int .i64 0) 24 24
  have HB := Lib.hid hb; have K1 := Lib.hid k1; have K2 := Lib.hid k2
  have c0 := cells3 k1
  clear hb k1 k2 hz
  go_enter Try.func7, Try.ntmps7
  go_wp2_with fail
  refine (Q.out _).mono ?_
  rintro e w1 ⟨rfl, hb1⟩
  have k1 := K1.out.below hb1 K1.out.lt
  have k2 := K2.out.below hb1 K2.out.lt
  have c1 := cells3 k1; have f1 := free3 k1; have c2 := cells3 k2; have f2 := free3 k2
  have r2 := res3 (.int .i64 a) (.int .i64 b) (.int .i64 0) (k2.other (i := 2) (u := .int .i64 0) (Nat.succ_ne_self w.heap.size))
  have HB1 := Lib.hid (HB.out.trans (hb1.mono HB.out.size))
  clear hb1 k1 k2 c0
  go_wp2_with fail
  refine bodyPost_ret (v := .agg #[.int .i64 a, .int .i64 b, .int .i64 0]) (by simp [results, Try.results7, go_sem, r2.1, r2.2.1, r2.2.2]) rfl ?_
  exact ⟨rfl, below_set3' (HB1.out.setCell (p := ⟨w.heap.size, 2, none⟩) (Nat.le_refl _) _) (Nat.le_succ _)⟩
set_option maxHeartbeats 1600000 in
theorem Set_2pos (a b c n : Int) (w : World) (hn : ¬ n < 0) :
    Calls Try.prog 7 #[.agg #[.int .i64 a, .int .i64 b, .int .i64 c], .int .i64 2, .int .i64 n] w fun e w' => e = .returned (.agg #[.int .i64 a, .int .i64 b, .int .i64 n]) ∧ Below w.heap.size w w' := by
  have Q := Lib.hid (fun w => has_yes a b c 2 w (by omega) (by omega))
  obtain ⟨hb, k1, k2, hz⟩ := box2 w (.int .i64 a) (.int .i64 b) (.int .i64 c) (.int .i64 0) (.int .i64 0) (.int .i64 0) 24 24
  have HB := Lib.hid hb; have K1 := Lib.hid k1; have K2 := Lib.hid k2
  have c0 := cells3 k1
  clear hb k1 k2 hz
  go_enter Try.func7, Try.ntmps7
  go_wp2_with fail
  refine (Q.out _).mono ?_
  rintro e w1 ⟨rfl, hb1⟩
  have k1 := K1.out.below hb1 K1.out.lt
  have k2 := K2.out.below hb1 K2.out.lt
  have c1 := cells3 k1; have f1 := free3 k1; have c2 := cells3 k2; have f2 := free3 k2
  have r2 := res3 (.int .i64 a) (.int .i64 b) (.int .i64 n) (k2.other (i := 2) (u := .int .i64 n) (Nat.succ_ne_self w.heap.size))
  have HB1 := Lib.hid (HB.out.trans (hb1.mono HB.out.size))
  clear hb1 k1 k2 c0
  go_wp2_with fail
  refine bodyPost_ret (v := .agg #[.int .i64 a, .int .i64 b, .int .i64 n]) (by simp [results, Try.results7, go_sem, r2.1, r2.2.1, r2.2.2]) rfl ?_
  exact ⟨rfl, below_set3' (HB1.out.setCell (p := ⟨w.heap.size, 2, none⟩) (Nat.le_refl _) _) (Nat.le_succ _)⟩
set_option maxHeartbeats 1600000 in
theorem Set_no (a b c k n : Int) (w : World) (h : k < 0 ∨ 3 ≤ k) :
    Calls Try.prog 7 #[.agg #[.int .i64 a, .int .i64 b, .int .i64 c], .int .i64 k, .int .i64 n] w fun e w' => e = .returned (.agg #[.int .i64 a, .int .i64 b, .int .i64 c]) ∧ Below w.heap.size w w' := by
  have Q := Lib.hid (fun w => has_no a b c k w h)
  obtain ⟨hb, k1, k2, hz⟩ := box2 w (.int .i64 a) (.int .i64 b) (.int .i64 c) (.int .i64 0) (.int .i64 0) (.int .i64 0) 24 24
  have HB := Lib.hid hb; have K1 := Lib.hid k1; have K2 := Lib.hid k2
  have c0 := cells3 k1
  clear hb k1 k2 hz h
  go_enter Try.func7, Try.ntmps7
  go_wp2_with fail
  refine (Q.out _).mono ?_
  rintro e w1 ⟨rfl, hb1⟩
  have k1 := K1.out.below hb1 K1.out.lt
  have k2 := K2.out.below hb1 K2.out.lt
  have c1 := cells3 k1; have f1 := free3 k1; have c2 := cells3 k2; have f2 := free3 k2
  have r2 := res3 (.int .i64 a) (.int .i64 b) (.int .i64 c) k2
  have HB1 := Lib.hid (HB.out.trans (hb1.mono HB.out.size))
  clear hb1 k1 k2 c0
  go_wp2_with fail
  refine bodyPost_ret (v := .agg #[.int .i64 a, .int .i64 b, .int .i64 c]) (by simp [results, Try.results7, go_sem, r2.1, r2.2.1, r2.2.2]) rfl ?_
  exact ⟨rfl, below_set3' HB1.out (Nat.le_succ _)⟩
set_option maxHeartbeats 1600000 in
theorem Runs_0t (a b c : Int) (w : World) (h : 0 < a) :
    Calls Try.prog 9 #[.agg #[.int .i64 a, .int .i64 b, .int .i64 c], .int .i64 0] w fun e w' => e = .returned (.bool true) ∧ Below w.heap.size w w' := by
  have Q := Lib.hid (fun w => has_yes a b c 0 w (by omega) (by omega))
  have hd : decide (0 < a) = true := by simpa using h
  have HB := Lib.hid (show Below w.heap.size w (w.alloc (.cells #[.int .i64 a, .int .i64 b, .int .i64 c] 24)) from (Below.refl _ _).alloc (Nat.le_refl _) _)
  have k1 := Blk.new w 24 [.int .i64 a, .int .i64 b, .int .i64 c]
  have c0 := cells3 k1
  have K1 := Lib.hid k1
  clear k1 h
  go_enter Try.func9, Try.ntmps9
  go_wp2_with fail
  refine (Q.out _).mono ?_
  rintro e w1 ⟨rfl, hb1⟩
  have k1 := K1.out.below hb1 K1.out.lt
  have c1 := cells3 k1
  have HB1 := Lib.hid (HB.out.trans (hb1.mono HB.out.size))
  clear hb1 k1 c0
  go_wp2_with fail
  go_ret
  exact ⟨by first | rfl | exact congrArg (fun b => Ending.returned (.bool b)) hd, HB1.out⟩
set_option maxHeartbeats 1600000 in
theorem Runs_0f (a b c : Int) (w : World) (h : ¬ 0 < a) :
    Calls Try.prog 9 #[.agg #[.int .i64 a, .int .i64 b, .int .i64 c], .int .i64 0] w fun e w' => e = .returned (.bool false) ∧ Below w.heap.size w w' := by
  have Q := Lib.hid (fun w => has_yes a b c 0 w (by omega) (by omega))
  have hd : decide (0 < a) = false := by simpa using h
  have HB := Lib.hid (show Below w.heap.size w (w.alloc (.cells #[.int .i64 a, .int .i64 b, .int .i64 c] 24)) from (Below.refl _ _).alloc (Nat.le_refl _) _)
  have k1 := Blk.new w 24 [.int .i64 a, .int .i64 b, .int .i64 c]
  have c0 := cells3 k1
  have K1 := Lib.hid k1
  clear k1 h
  go_enter Try.func9, Try.ntmps9
  go_wp2_with fail
  refine (Q.out _).mono ?_
  rintro e w1 ⟨rfl, hb1⟩
  have k1 := K1.out.below hb1 K1.out.lt
  have c1 := cells3 k1
  have HB1 := Lib.hid (HB.out.trans (hb1.mono HB.out.size))
  clear hb1 k1 c0
  go_wp2_with fail
  go_ret
  exact ⟨by first | rfl | exact congrArg (fun b => Ending.returned (.bool b)) hd, HB1.out⟩
set_option maxHeartbeats 1600000 in
theorem Runs_1t (a b c : Int) (w : World) (h : 0 < b) :
    Calls Try.prog 9 #[.agg #[.int .i64 a, .int .i64 b, .int .i64 c], .int .i64 1] w fun e w' => e = .returned (.bool true) ∧ Below w.heap.size w w' := by
  have Q := Lib.hid (fun w => has_yes a b c 1 w (by omega) (by omega))
  have hd : decide (0 < b) = true := by simpa using h
  have HB := Lib.hid (show Below w.heap.size w (w.alloc (.cells #[.int .i64 a, .int .i64 b, .int .i64 c] 24)) from (Below.refl _ _).alloc (Nat.le_refl _) _)
  have k1 := Blk.new w 24 [.int .i64 a, .int .i64 b, .int .i64 c]
  have c0 := cells3 k1
  have K1 := Lib.hid k1
  clear k1 h
  go_enter Try.func9, Try.ntmps9
  go_wp2_with fail
  refine (Q.out _).mono ?_
  rintro e w1 ⟨rfl, hb1⟩
  have k1 := K1.out.below hb1 K1.out.lt
  have c1 := cells3 k1
  have HB1 := Lib.hid (HB.out.trans (hb1.mono HB.out.size))
  clear hb1 k1 c0
  go_wp2_with fail
  go_ret
  exact ⟨by first | rfl | exact congrArg (fun b => Ending.returned (.bool b)) hd, HB1.out⟩
set_option maxHeartbeats 1600000 in
theorem Runs_1f (a b c : Int) (w : World) (h : ¬ 0 < b) :
    Calls Try.prog 9 #[.agg #[.int .i64 a, .int .i64 b, .int .i64 c], .int .i64 1] w fun e w' => e = .returned (.bool false) ∧ Below w.heap.size w w' := by
  have Q := Lib.hid (fun w => has_yes a b c 1 w (by omega) (by omega))
  have hd : decide (0 < b) = false := by simpa using h
  have HB := Lib.hid (show Below w.heap.size w (w.alloc (.cells #[.int .i64 a, .int .i64 b, .int .i64 c] 24)) from (Below.refl _ _).alloc (Nat.le_refl _) _)
  have k1 := Blk.new w 24 [.int .i64 a, .int .i64 b, .int .i64 c]
  have c0 := cells3 k1
  have K1 := Lib.hid k1
  clear k1 h
  go_enter Try.func9, Try.ntmps9
  go_wp2_with fail
  refine (Q.out _).mono ?_
  rintro e w1 ⟨rfl, hb1⟩
  have k1 := K1.out.below hb1 K1.out.lt
  have c1 := cells3 k1
  have HB1 := Lib.hid (HB.out.trans (hb1.mono HB.out.size))
  clear hb1 k1 c0
  go_wp2_with fail
  go_ret
  exact ⟨by first | rfl | exact congrArg (fun b => Ending.returned (.bool b)) hd, HB1.out⟩
set_option maxHeartbeats 1600000 in
theorem Runs_2t (a b c : Int) (w : World) (h : 0 < c) :
    Calls Try.prog 9 #[.agg #[.int .i64 a, .int .i64 b, .int .i64 c], .int .i64 2] w fun e w' => e = .returned (.bool true) ∧ Below w.heap.size w w' := by
  have Q := Lib.hid (fun w => has_yes a b c 2 w (by omega) (by omega))
  have hd : decide (0 < c) = true := by simpa using h
  have HB := Lib.hid (show Below w.heap.size w (w.alloc (.cells #[.int .i64 a, .int .i64 b, .int .i64 c] 24)) from (Below.refl _ _).alloc (Nat.le_refl _) _)
  have k1 := Blk.new w 24 [.int .i64 a, .int .i64 b, .int .i64 c]
  have c0 := cells3 k1
  have K1 := Lib.hid k1
  clear k1 h
  go_enter Try.func9, Try.ntmps9
  go_wp2_with fail
  refine (Q.out _).mono ?_
  rintro e w1 ⟨rfl, hb1⟩
  have k1 := K1.out.below hb1 K1.out.lt
  have c1 := cells3 k1
  have HB1 := Lib.hid (HB.out.trans (hb1.mono HB.out.size))
  clear hb1 k1 c0
  go_wp2_with fail
  go_ret
  exact ⟨by first | rfl | exact congrArg (fun b => Ending.returned (.bool b)) hd, HB1.out⟩
set_option maxHeartbeats 1600000 in
theorem Runs_2f (a b c : Int) (w : World) (h : ¬ 0 < c) :
    Calls Try.prog 9 #[.agg #[.int .i64 a, .int .i64 b, .int .i64 c], .int .i64 2] w fun e w' => e = .returned (.bool false) ∧ Below w.heap.size w w' := by
  have Q := Lib.hid (fun w => has_yes a b c 2 w (by omega) (by omega))
  have hd : decide (0 < c) = false := by simpa using h
  have HB := Lib.hid (show Below w.heap.size w (w.alloc (.cells #[.int .i64 a, .int .i64 b, .int .i64 c] 24)) from (Below.refl _ _).alloc (Nat.le_refl _) _)
  have k1 := Blk.new w 24 [.int .i64 a, .int .i64 b, .int .i64 c]
  have c0 := cells3 k1
  have K1 := Lib.hid k1
  clear k1 h
  go_enter Try.func9, Try.ntmps9
  go_wp2_with fail
  refine (Q.out _).mono ?_
  rintro e w1 ⟨rfl, hb1⟩
  have k1 := K1.out.below hb1 K1.out.lt
  have c1 := cells3 k1
  have HB1 := Lib.hid (HB.out.trans (hb1.mono HB.out.size))
  clear hb1 k1 c0
  go_wp2_with fail
  go_ret
  exact ⟨by first | rfl | exact congrArg (fun b => Ending.returned (.bool b)) hd, HB1.out⟩
set_option maxHeartbeats 1600000 in
theorem Runs_no (a b c k : Int) (w : World) (h : k < 0 ∨ 3 ≤ k) :
    Calls Try.prog 9 #[.agg #[.int .i64 a, .int .i64 b, .int .i64 c], .int .i64 k] w fun e w' => e = .returned (.bool false) ∧ Below w.heap.size w w' := by
  have Q := Lib.hid (fun w => has_no a b c k w h)
  have HB := Lib.hid (show Below w.heap.size w (w.alloc (.cells #[.int .i64 a, .int .i64 b, .int .i64 c] 24)) from (Below.refl _ _).alloc (Nat.le_refl _) _)
  have c0 := cells3 (Blk.new w 24 [.int .i64 a, .int .i64 b, .int .i64 c])
  clear h
  go_enter Try.func9, Try.ntmps9
  go_wp2_with fail
  refine (Q.out _).mono ?_
  rintro e w1 ⟨rfl, hb1⟩
  have HB1 := Lib.hid (HB.out.trans (hb1.mono HB.out.size))
  clear hb1 c0
  go_wp2_with fail
  go_ret
  exact ⟨rfl, HB1.out⟩
end Go.Proofs.Yteihadheplcccaa

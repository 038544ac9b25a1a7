/-
  What a NOTIFICATION says, by the program and by the document; whether two faults are the same.
-/
import Derived.Test.YthjnbjhdepfclaaDoorRefS21
import Derived.Test.YthjnbjhdepfclaaDoorRead
import Derived.Test.YthjnbjhdepfclaaDoorStr7
import Derived.Test.YthjnbjhdepfclaaDoorSame
import Derived.Test.YthjnbjhdepfclaaDoorSameRaw4
namespace Go.Proofs.YthjnbjhdepfclaaDoor
set_option linter.unusedVariables false
set_option linter.unusedSimpArgs false
open Go.RowKit

/-- What a fault's Code, Sub and bytes are, by the event. -/
def fC (e C : Int) : Int := if e = 8 ∨ e = 9 ∨ e = 14 then C else if e = 5 then 4 else if e = 1 ∨ e = 10 ∨ e = 15 then 6 else 5
def fS (e S : Int) : Int := if e = 8 ∨ e = 9 ∨ e = 14 then S else if e = 1 then 2 else if e = 10 then 7 else if e = 15 then 1 else 0
def fL (e : Int) (l : List UInt8) : List UInt8 := if e = 8 ∨ e = 9 ∨ e = 14 then l else []
/-- A fault that a call returned. -/
def RetF (w : World) (C S : Int) (l : List UInt8) (e : Ending) (w' : World) : Prop :=
  Below w.heap.size w w' ∧ ∃ A c, e = .returned (.agg #[.int .i64 C, .int .i64 S, .slice A l.length c]) ∧ l.length ≤ c ∧ c ≤ maxLen ∧ Bytes w' A l
theorem box2f (w : World) (x y z u v t : Value) (T T2 : Nat) :
    Below w.heap.size w ((w.alloc (.cells #[x, y, z] T)).alloc (.cells #[u, v, t] T2)) ∧ Blk ((w.alloc (.cells #[x, y, z] T)).alloc (.cells #[u, v, t] T2)) w.heap.size T [x, y, z] ∧ Blk ((w.alloc (.cells #[x, y, z] T)).alloc (.cells #[u, v, t] T2)) (w.heap.size + 1) T2 [u, v, t] ∧ ((w.alloc (.cells #[x, y, z] T)).alloc (.cells #[u, v, t] T2)).heap.size = w.heap.size + 2 := by
  have hz : (w.alloc (.cells #[x, y, z] T)).heap.size = w.heap.size + 1 := by simp
  have k2 := Blk.new (w.alloc (.cells #[x, y, z] T)) T2 [u, v, t]
  rw [hz] at k2
  refine ⟨((Below.refl _ _).alloc (Nat.le_refl _) _).alloc (by simp) _, ?_, k2, by simp⟩
  exact (Blk.new w T [x, y, z]).below ((Below.refl _ _).alloc (Nat.le_refl _) _) (by simp)
theorem Blk.otherf {w : World} {g g' T i : Nat} {cs : List Value} {u : Value} (h : Blk w g T cs) (hg : g ≠ g') : Blk (w.setCell ⟨g', i, none⟩ u) g T cs :=
  h.grown (grown_setCell (grown_refl w (some g')) i u) hg
theorem Cease_any (n : Int) (w : World) : Calls Tryd.prog 23 #[.int .i64 n] w fun e w' => e = .returned (.agg #[.int .i64 6, .int .i64 n, .slice none 0 0]) ∧ Below w.heap.size w w' := by
  have k := Blk.new w 29 [.int .i64 0, .int .i64 0, .slice none 0 0]
  have c := cells3 k; have f := free3 k
  have r := res3 (.int .i64 6) (.int .i64 n) (.slice none 0 0) k
  have HB := Lib.hid (show Below w.heap.size w (w.alloc (.cells #[.int .i64 6, .int .i64 n, .slice none 0 0] 29)) from (Below.refl _ _).alloc (Nat.le_refl _) _)
  clear k
  go_enter Tryd.func23, Tryd.ntmps23
  go_wp2_with fail
  refine bodyPost_ret (v := .agg #[.int .i64 6, .int .i64 n, .slice none 0 0]) (by simp [results, Tryd.results23, go_sem, r.1, r.2.1, r.2.2]) rfl ?_
  exact ⟨rfl, HB.out⟩
set_option maxHeartbeats 3200000 in
theorem Fault_8 (C S : Int) (A : Option Addr) (c : Nat) (l : List UInt8) (w : World) (h : Bytes w A l) (hl : l.length ≤ 1000000) : Calls Tryd.prog 13 #[.int .i64 8, .agg #[.int .i64 C, .int .i64 S, .slice A l.length c]] w (RetF w C S l) := by
  obtain ⟨hb, k1, k2, hz⟩ := box2f w (.int .i64 C) (.int .i64 S) (.slice A l.length c) (.int .i64 0) (.int .i64 0) (.slice none 0 0) 29 29
  have HB := Lib.hid hb; have K1 := Lib.hid k1; have K2 := Lib.hid k2; have HZ := Lib.hid hz
  have Q := Lib.hid (Clone_any A l.length c l rfl _ (At.lift (At.below h hb (Nat.le_refl _)) hb.size) hl)
  have c1 := cells3 k1
  clear hb k1 k2 hz h
  go_enter Tryd.func13, Tryd.ntmps13
  go_wp2_with fail
  refine Q.out.mono ?_
  rintro e w1 ⟨A1, d1, rfl, p1, p2, ho, hb1⟩
  have k1 := K1.out.below hb1 K1.out.lt
  have k2 := K2.out.below hb1 K2.out.lt
  have c1 := cells3 k1; have f1 := free3 k1; have c2 := cells3 k2; have f2 := free3 k2
  have k2a := k2.otherf (i := 2) (u := .slice A1 l.length d1) (Nat.succ_ne_self w.heap.size)
  have r2 := res3 (.int .i64 C) (.int .i64 S) (.slice A1 l.length d1) k2a
  have HB1 := Lib.hid (HB.out.trans (hb1.mono HB.out.size))
  have hz1 := hb1.size
  have HO := Lib.hid (show Own ((((w1.setCell ⟨w.heap.size, 2, none⟩ (.slice A1 l.length d1)).setCell ⟨w.heap.size + 1, 0, none⟩ (.int .i64 C)).setCell ⟨w.heap.size + 1, 1, none⟩ (.int .i64 S)).setCell ⟨w.heap.size + 1, 2, none⟩ (.slice A1 l.length d1)) _ _ _ _ from (((ho.beside (grown_setCell (grown_refl w1 (some w.heap.size)) 2 (.slice A1 l.length d1)) (by have := HZ.out; omega)).beside (grown_setCell (grown_refl _ (some (w.heap.size + 1))) 0 (.int .i64 C)) (by have := HZ.out; omega)).beside (grown_setCell (grown_refl _ (some (w.heap.size + 1))) 1 (.int .i64 S)) (by have := HZ.out; omega)).beside (grown_setCell (grown_refl _ (some (w.heap.size + 1))) 2 (.slice A1 l.length d1)) (by have := HZ.out; omega))
  have HP := Lib.hid (And.intro p1 p2)
  clear hb1 k1 k2 k2a ho p1 p2
  go_wp2_with fail
  refine bodyPost_ret (v := .agg #[.int .i64 C, .int .i64 S, .slice A1 l.length d1]) (by simp [results, Tryd.results13, go_sem, r2.1, r2.2.1, r2.2.2]) rfl ?_
  exact ⟨below_set3' (HB1.out.setCell (p := ⟨w.heap.size, 2, none⟩) (Nat.le_refl _) _) (Nat.le_succ _), A1, d1, rfl, HP.out.1, HP.out.2, HO.out.bytes⟩
set_option maxHeartbeats 3200000 in
theorem Fault_9 (C S : Int) (A : Option Addr) (c : Nat) (l : List UInt8) (w : World) (h : Bytes w A l) (hl : l.length ≤ 1000000) : Calls Tryd.prog 13 #[.int .i64 9, .agg #[.int .i64 C, .int .i64 S, .slice A l.length c]] w (RetF w C S l) := by
  obtain ⟨hb, k1, k2, hz⟩ := box2f w (.int .i64 C) (.int .i64 S) (.slice A l.length c) (.int .i64 0) (.int .i64 0) (.slice none 0 0) 29 29
  have HB := Lib.hid hb; have K1 := Lib.hid k1; have K2 := Lib.hid k2; have HZ := Lib.hid hz
  have Q := Lib.hid (Clone_any A l.length c l rfl _ (At.lift (At.below h hb (Nat.le_refl _)) hb.size) hl)
  have c1 := cells3 k1
  clear hb k1 k2 hz h
  go_enter Tryd.func13, Tryd.ntmps13
  go_wp2_with fail
  refine Q.out.mono ?_
  rintro e w1 ⟨A1, d1, rfl, p1, p2, ho, hb1⟩
  have k1 := K1.out.below hb1 K1.out.lt
  have k2 := K2.out.below hb1 K2.out.lt
  have c1 := cells3 k1; have f1 := free3 k1; have c2 := cells3 k2; have f2 := free3 k2
  have k2a := k2.otherf (i := 2) (u := .slice A1 l.length d1) (Nat.succ_ne_self w.heap.size)
  have r2 := res3 (.int .i64 C) (.int .i64 S) (.slice A1 l.length d1) k2a
  have HB1 := Lib.hid (HB.out.trans (hb1.mono HB.out.size))
  have hz1 := hb1.size
  have HO := Lib.hid (show Own ((((w1.setCell ⟨w.heap.size, 2, none⟩ (.slice A1 l.length d1)).setCell ⟨w.heap.size + 1, 0, none⟩ (.int .i64 C)).setCell ⟨w.heap.size + 1, 1, none⟩ (.int .i64 S)).setCell ⟨w.heap.size + 1, 2, none⟩ (.slice A1 l.length d1)) _ _ _ _ from (((ho.beside (grown_setCell (grown_refl w1 (some w.heap.size)) 2 (.slice A1 l.length d1)) (by have := HZ.out; omega)).beside (grown_setCell (grown_refl _ (some (w.heap.size + 1))) 0 (.int .i64 C)) (by have := HZ.out; omega)).beside (grown_setCell (grown_refl _ (some (w.heap.size + 1))) 1 (.int .i64 S)) (by have := HZ.out; omega)).beside (grown_setCell (grown_refl _ (some (w.heap.size + 1))) 2 (.slice A1 l.length d1)) (by have := HZ.out; omega))
  have HP := Lib.hid (And.intro p1 p2)
  clear hb1 k1 k2 k2a ho p1 p2
  go_wp2_with fail
  refine bodyPost_ret (v := .agg #[.int .i64 C, .int .i64 S, .slice A1 l.length d1]) (by simp [results, Tryd.results13, go_sem, r2.1, r2.2.1, r2.2.2]) rfl ?_
  exact ⟨below_set3' (HB1.out.setCell (p := ⟨w.heap.size, 2, none⟩) (Nat.le_refl _) _) (Nat.le_succ _), A1, d1, rfl, HP.out.1, HP.out.2, HO.out.bytes⟩
set_option maxHeartbeats 3200000 in
theorem Fault_14 (C S : Int) (A : Option Addr) (c : Nat) (l : List UInt8) (w : World) (h : Bytes w A l) (hl : l.length ≤ 1000000) : Calls Tryd.prog 13 #[.int .i64 14, .agg #[.int .i64 C, .int .i64 S, .slice A l.length c]] w (RetF w C S l) := by
  obtain ⟨hb, k1, k2, hz⟩ := box2f w (.int .i64 C) (.int .i64 S) (.slice A l.length c) (.int .i64 0) (.int .i64 0) (.slice none 0 0) 29 29
  have HB := Lib.hid hb; have K1 := Lib.hid k1; have K2 := Lib.hid k2; have HZ := Lib.hid hz
  have Q := Lib.hid (Clone_any A l.length c l rfl _ (At.lift (At.below h hb (Nat.le_refl _)) hb.size) hl)
  have c1 := cells3 k1
  clear hb k1 k2 hz h
  go_enter Tryd.func13, Tryd.ntmps13
  go_wp2_with fail
  refine Q.out.mono ?_
  rintro e w1 ⟨A1, d1, rfl, p1, p2, ho, hb1⟩
  have k1 := K1.out.below hb1 K1.out.lt
  have k2 := K2.out.below hb1 K2.out.lt
  have c1 := cells3 k1; have f1 := free3 k1; have c2 := cells3 k2; have f2 := free3 k2
  have k2a := k2.otherf (i := 2) (u := .slice A1 l.length d1) (Nat.succ_ne_self w.heap.size)
  have r2 := res3 (.int .i64 C) (.int .i64 S) (.slice A1 l.length d1) k2a
  have HB1 := Lib.hid (HB.out.trans (hb1.mono HB.out.size))
  have hz1 := hb1.size
  have HO := Lib.hid (show Own ((((w1.setCell ⟨w.heap.size, 2, none⟩ (.slice A1 l.length d1)).setCell ⟨w.heap.size + 1, 0, none⟩ (.int .i64 C)).setCell ⟨w.heap.size + 1, 1, none⟩ (.int .i64 S)).setCell ⟨w.heap.size + 1, 2, none⟩ (.slice A1 l.length d1)) _ _ _ _ from (((ho.beside (grown_setCell (grown_refl w1 (some w.heap.size)) 2 (.slice A1 l.length d1)) (by have := HZ.out; omega)).beside (grown_setCell (grown_refl _ (some (w.heap.size + 1))) 0 (.int .i64 C)) (by have := HZ.out; omega)).beside (grown_setCell (grown_refl _ (some (w.heap.size + 1))) 1 (.int .i64 S)) (by have := HZ.out; omega)).beside (grown_setCell (grown_refl _ (some (w.heap.size + 1))) 2 (.slice A1 l.length d1)) (by have := HZ.out; omega))
  have HP := Lib.hid (And.intro p1 p2)
  clear hb1 k1 k2 k2a ho p1 p2
  go_wp2_with fail
  refine bodyPost_ret (v := .agg #[.int .i64 C, .int .i64 S, .slice A1 l.length d1]) (by simp [results, Tryd.results13, go_sem, r2.1, r2.2.1, r2.2.2]) rfl ?_
  exact ⟨below_set3' (HB1.out.setCell (p := ⟨w.heap.size, 2, none⟩) (Nat.le_refl _) _) (Nat.le_succ _), A1, d1, rfl, HP.out.1, HP.out.2, HO.out.bytes⟩
set_option maxHeartbeats 3200000 in
theorem Fault_5 (C S : Int) (A : Option Addr) (c : Nat) (l : List UInt8) (w : World) : Calls Tryd.prog 13 #[.int .i64 5, .agg #[.int .i64 C, .int .i64 S, .slice A l.length c]] w fun r w' => r = .returned (.agg #[.int .i64 4, .int .i64 0, .slice none 0 0]) ∧ Below w.heap.size w w' := by
  obtain ⟨hb, k1, k2, hz⟩ := box2f w (.int .i64 C) (.int .i64 S) (.slice A l.length c) (.int .i64 0) (.int .i64 0) (.slice none 0 0) 29 29
  have HB := Lib.hid hb; have K1 := Lib.hid k1; have K2 := Lib.hid k2; have HZ := Lib.hid hz
  have c2 := cells3 k2; have f2 := free3 k2
  have r2 := res3 (.int .i64 4) (.int .i64 0) (.slice none 0 0) k2
  clear hb k1 k2 hz
  go_enter Tryd.func13, Tryd.ntmps13
  go_wp2_with fail
  refine bodyPost_ret (v := .agg #[.int .i64 4, .int .i64 0, .slice none 0 0]) (by simp [results, Tryd.results13, go_sem, r2.1, r2.2.1, r2.2.2]) rfl ?_
  exact ⟨rfl, by first | exact below_set3' HB.out (Nat.le_succ _) | exact ((Below.refl _ _).alloc (Nat.le_refl _) _).alloc (by simp) _⟩
set_option maxHeartbeats 3200000 in
theorem Fault_1 (C S : Int) (A : Option Addr) (c : Nat) (l : List UInt8) (w : World) : Calls Tryd.prog 13 #[.int .i64 1, .agg #[.int .i64 C, .int .i64 S, .slice A l.length c]] w fun r w' => r = .returned (.agg #[.int .i64 6, .int .i64 2, .slice none 0 0]) ∧ Below w.heap.size w w' := by
  obtain ⟨hb, k1, k2, hz⟩ := box2f w (.int .i64 C) (.int .i64 S) (.slice A l.length c) (.int .i64 0) (.int .i64 0) (.slice none 0 0) 29 29
  have HB := Lib.hid hb; have K1 := Lib.hid k1; have K2 := Lib.hid k2; have HZ := Lib.hid hz
  have Q := Lib.hid (fun W => Cease_any 2 W)
  have c2 := cells3 k2; have f2 := free3 k2
  have r2 := res3 (.int .i64 6) (.int .i64 2) (.slice none 0 0) k2
  clear hb k1 k2 hz
  go_enter Tryd.func13, Tryd.ntmps13
  go_wp2_with fail
  refine (Q.out _).mono ?_
  rintro e w1 ⟨rfl, hb1⟩
  have k2 := K2.out.below hb1 K2.out.lt
  have c2 := cells3 k2; have f2 := free3 k2
  have r2 := res3 (.int .i64 6) (.int .i64 2) (.slice none 0 0) k2
  have HB1 := Lib.hid (HB.out.trans (hb1.mono HB.out.size))
  clear hb1 k2
  go_wp2_with fail
  refine bodyPost_ret (v := .agg #[.int .i64 6, .int .i64 2, .slice none 0 0]) (by simp [results, Tryd.results13, go_sem, r2.1, r2.2.1, r2.2.2]) rfl ?_
  exact ⟨rfl, below_set3' HB1.out (Nat.le_succ _)⟩
set_option maxHeartbeats 3200000 in
theorem Fault_10 (C S : Int) (A : Option Addr) (c : Nat) (l : List UInt8) (w : World) : Calls Tryd.prog 13 #[.int .i64 10, .agg #[.int .i64 C, .int .i64 S, .slice A l.length c]] w fun r w' => r = .returned (.agg #[.int .i64 6, .int .i64 7, .slice none 0 0]) ∧ Below w.heap.size w w' := by
  obtain ⟨hb, k1, k2, hz⟩ := box2f w (.int .i64 C) (.int .i64 S) (.slice A l.length c) (.int .i64 0) (.int .i64 0) (.slice none 0 0) 29 29
  have HB := Lib.hid hb; have K1 := Lib.hid k1; have K2 := Lib.hid k2; have HZ := Lib.hid hz
  have Q := Lib.hid (fun W => Cease_any 7 W)
  have c2 := cells3 k2; have f2 := free3 k2
  have r2 := res3 (.int .i64 6) (.int .i64 7) (.slice none 0 0) k2
  clear hb k1 k2 hz
  go_enter Tryd.func13, Tryd.ntmps13
  go_wp2_with fail
  refine (Q.out _).mono ?_
  rintro e w1 ⟨rfl, hb1⟩
  have k2 := K2.out.below hb1 K2.out.lt
  have c2 := cells3 k2; have f2 := free3 k2
  have r2 := res3 (.int .i64 6) (.int .i64 7) (.slice none 0 0) k2
  have HB1 := Lib.hid (HB.out.trans (hb1.mono HB.out.size))
  clear hb1 k2
  go_wp2_with fail
  refine bodyPost_ret (v := .agg #[.int .i64 6, .int .i64 7, .slice none 0 0]) (by simp [results, Tryd.results13, go_sem, r2.1, r2.2.1, r2.2.2]) rfl ?_
  exact ⟨rfl, below_set3' HB1.out (Nat.le_succ _)⟩
set_option maxHeartbeats 3200000 in
theorem Fault_15 (C S : Int) (A : Option Addr) (c : Nat) (l : List UInt8) (w : World) : Calls Tryd.prog 13 #[.int .i64 15, .agg #[.int .i64 C, .int .i64 S, .slice A l.length c]] w fun r w' => r = .returned (.agg #[.int .i64 6, .int .i64 1, .slice none 0 0]) ∧ Below w.heap.size w w' := by
  obtain ⟨hb, k1, k2, hz⟩ := box2f w (.int .i64 C) (.int .i64 S) (.slice A l.length c) (.int .i64 0) (.int .i64 0) (.slice none 0 0) 29 29
  have HB := Lib.hid hb; have K1 := Lib.hid k1; have K2 := Lib.hid k2; have HZ := Lib.hid hz
  have Q := Lib.hid (fun W => Cease_any 1 W)
  have c2 := cells3 k2; have f2 := free3 k2
  have r2 := res3 (.int .i64 6) (.int .i64 1) (.slice none 0 0) k2
  clear hb k1 k2 hz
  go_enter Tryd.func13, Tryd.ntmps13
  go_wp2_with fail
  refine (Q.out _).mono ?_
  rintro e w1 ⟨rfl, hb1⟩
  have k2 := K2.out.below hb1 K2.out.lt
  have c2 := cells3 k2; have f2 := free3 k2
  have r2 := res3 (.int .i64 6) (.int .i64 1) (.slice none 0 0) k2
  have HB1 := Lib.hid (HB.out.trans (hb1.mono HB.out.size))
  clear hb1 k2
  go_wp2_with fail
  refine bodyPost_ret (v := .agg #[.int .i64 6, .int .i64 1, .slice none 0 0]) (by simp [results, Tryd.results13, go_sem, r2.1, r2.2.1, r2.2.2]) rfl ?_
  exact ⟨rfl, below_set3' HB1.out (Nat.le_succ _)⟩
set_option maxHeartbeats 3200000 in
theorem Fault_else (e C S : Int) (A : Option Addr) (c : Nat) (l : List UInt8) (w : World) (he : e ≠ 8 ∧ e ≠ 9 ∧ e ≠ 14 ∧ e ≠ 5 ∧ e ≠ 1 ∧ e ≠ 10 ∧ e ≠ 15) : Calls Tryd.prog 13 #[.int .i64 e, .agg #[.int .i64 C, .int .i64 S, .slice A l.length c]] w fun r w' => r = .returned (.agg #[.int .i64 5, .int .i64 0, .slice none 0 0]) ∧ Below w.heap.size w w' := by
  have b8 : (e == 8) = false := by simpa using (show ¬ e = 8 by omega)
  have b9 : (e == 9) = false := by simpa using (show ¬ e = 9 by omega)
  have b14 : (e == 14) = false := by simpa using (show ¬ e = 14 by omega)
  have b5 : (e == 5) = false := by simpa using (show ¬ e = 5 by omega)
  have b1 : (e == 1) = false := by simpa using (show ¬ e = 1 by omega)
  have b10 : (e == 10) = false := by simpa using (show ¬ e = 10 by omega)
  have b15 : (e == 15) = false := by simpa using (show ¬ e = 15 by omega)
  clear he
  obtain ⟨hb, k1, k2, hz⟩ := box2f w (.int .i64 C) (.int .i64 S) (.slice A l.length c) (.int .i64 0) (.int .i64 0) (.slice none 0 0) 29 29
  have HB := Lib.hid hb; have K1 := Lib.hid k1; have K2 := Lib.hid k2; have HZ := Lib.hid hz
  have c2 := cells3 k2; have f2 := free3 k2
  have r2 := res3 (.int .i64 5) (.int .i64 0) (.slice none 0 0) k2
  clear hb k1 k2 hz
  go_enter Tryd.func13, Tryd.ntmps13
  go_wp2_with fail
  refine bodyPost_ret (v := .agg #[.int .i64 5, .int .i64 0, .slice none 0 0]) (by simp [results, Tryd.results13, go_sem, r2.1, r2.2.1, r2.2.2]) rfl ?_
  exact ⟨rfl, by first | exact below_set3' HB.out (Nat.le_succ _) | exact ((Below.refl _ _).alloc (Nat.le_refl _) _).alloc (by simp) _⟩
set_option maxHeartbeats 3200000 in
theorem RefFault_5 (C S : Int) (A : Option Addr) (c : Nat) (l : List UInt8) (w : World) : Calls Tryd.prog 14 #[.int .i64 5, .agg #[.int .i64 C, .int .i64 S, .slice A l.length c]] w fun r w' => r = .returned (.agg #[.int .i64 4, .int .i64 0, .slice none 0 0]) ∧ Below w.heap.size w w' := by
  obtain ⟨hb, k1, k2, hz⟩ := box2f w (.int .i64 C) (.int .i64 S) (.slice A l.length c) (.int .i64 0) (.int .i64 0) (.slice none 0 0) 29 29
  have HB := Lib.hid hb; have K1 := Lib.hid k1; have K2 := Lib.hid k2; have HZ := Lib.hid hz
  have c2 := cells3 k2; have f2 := free3 k2
  have r2 := res3 (.int .i64 4) (.int .i64 0) (.slice none 0 0) k2
  clear hb k1 k2 hz
  go_enter Tryd.func14, Tryd.ntmps14
  go_wp2_with fail
  refine bodyPost_ret (v := .agg #[.int .i64 4, .int .i64 0, .slice none 0 0]) (by simp [results, Tryd.results14, go_sem, r2.1, r2.2.1, r2.2.2]) rfl ?_
  exact ⟨rfl, by first | exact below_set3' HB.out (Nat.le_succ _) | exact ((Below.refl _ _).alloc (Nat.le_refl _) _).alloc (by simp) _⟩
set_option maxHeartbeats 3200000 in
theorem RefFault_1 (C S : Int) (A : Option Addr) (c : Nat) (l : List UInt8) (w : World) : Calls Tryd.prog 14 #[.int .i64 1, .agg #[.int .i64 C, .int .i64 S, .slice A l.length c]] w fun r w' => r = .returned (.agg #[.int .i64 6, .int .i64 2, .slice none 0 0]) ∧ Below w.heap.size w w' := by
  obtain ⟨hb, k1, k2, hz⟩ := box2f w (.int .i64 C) (.int .i64 S) (.slice A l.length c) (.int .i64 0) (.int .i64 0) (.slice none 0 0) 29 29
  have HB := Lib.hid hb; have K1 := Lib.hid k1; have K2 := Lib.hid k2; have HZ := Lib.hid hz
  have c2 := cells3 k2; have f2 := free3 k2
  have r2 := res3 (.int .i64 6) (.int .i64 2) (.slice none 0 0) k2
  clear hb k1 k2 hz
  go_enter Tryd.func14, Tryd.ntmps14
  go_wp2_with fail
  refine bodyPost_ret (v := .agg #[.int .i64 6, .int .i64 2, .slice none 0 0]) (by simp [results, Tryd.results14, go_sem, r2.1, r2.2.1, r2.2.2]) rfl ?_
  exact ⟨rfl, by first | exact below_set3' HB.out (Nat.le_succ _) | exact ((Below.refl _ _).alloc (Nat.le_refl _) _).alloc (by simp) _⟩
set_option maxHeartbeats 3200000 in
theorem RefFault_10 (C S : Int) (A : Option Addr) (c : Nat) (l : List UInt8) (w : World) : Calls Tryd.prog 14 #[.int .i64 10, .agg #[.int .i64 C, .int .i64 S, .slice A l.length c]] w fun r w' => r = .returned (.agg #[.int .i64 6, .int .i64 7, .slice none 0 0]) ∧ Below w.heap.size w w' := by
  obtain ⟨hb, k1, k2, hz⟩ := box2f w (.int .i64 C) (.int .i64 S) (.slice A l.length c) (.int .i64 0) (.int .i64 0) (.slice none 0 0) 29 29
  have HB := Lib.hid hb; have K1 := Lib.hid k1; have K2 := Lib.hid k2; have HZ := Lib.hid hz
  have c2 := cells3 k2; have f2 := free3 k2
  have r2 := res3 (.int .i64 6) (.int .i64 7) (.slice none 0 0) k2
  clear hb k1 k2 hz
  go_enter Tryd.func14, Tryd.ntmps14
  go_wp2_with fail
  refine bodyPost_ret (v := .agg #[.int .i64 6, .int .i64 7, .slice none 0 0]) (by simp [results, Tryd.results14, go_sem, r2.1, r2.2.1, r2.2.2]) rfl ?_
  exact ⟨rfl, by first | exact below_set3' HB.out (Nat.le_succ _) | exact ((Below.refl _ _).alloc (Nat.le_refl _) _).alloc (by simp) _⟩
set_option maxHeartbeats 3200000 in
theorem RefFault_15 (C S : Int) (A : Option Addr) (c : Nat) (l : List UInt8) (w : World) : Calls Tryd.prog 14 #[.int .i64 15, .agg #[.int .i64 C, .int .i64 S, .slice A l.length c]] w fun r w' => r = .returned (.agg #[.int .i64 6, .int .i64 1, .slice none 0 0]) ∧ Below w.heap.size w w' := by
  obtain ⟨hb, k1, k2, hz⟩ := box2f w (.int .i64 C) (.int .i64 S) (.slice A l.length c) (.int .i64 0) (.int .i64 0) (.slice none 0 0) 29 29
  have HB := Lib.hid hb; have K1 := Lib.hid k1; have K2 := Lib.hid k2; have HZ := Lib.hid hz
  have c2 := cells3 k2; have f2 := free3 k2
  have r2 := res3 (.int .i64 6) (.int .i64 1) (.slice none 0 0) k2
  clear hb k1 k2 hz
  go_enter Tryd.func14, Tryd.ntmps14
  go_wp2_with fail
  refine bodyPost_ret (v := .agg #[.int .i64 6, .int .i64 1, .slice none 0 0]) (by simp [results, Tryd.results14, go_sem, r2.1, r2.2.1, r2.2.2]) rfl ?_
  exact ⟨rfl, by first | exact below_set3' HB.out (Nat.le_succ _) | exact ((Below.refl _ _).alloc (Nat.le_refl _) _).alloc (by simp) _⟩
set_option maxHeartbeats 3200000 in
theorem RefFault_else (e C S : Int) (A : Option Addr) (c : Nat) (l : List UInt8) (w : World) (he : e ≠ 8 ∧ e ≠ 9 ∧ e ≠ 14 ∧ e ≠ 5 ∧ e ≠ 1 ∧ e ≠ 10 ∧ e ≠ 15) : Calls Tryd.prog 14 #[.int .i64 e, .agg #[.int .i64 C, .int .i64 S, .slice A l.length c]] w fun r w' => r = .returned (.agg #[.int .i64 5, .int .i64 0, .slice none 0 0]) ∧ Below w.heap.size w w' := by
  have b8 : (e == 8) = false := by simpa using (show ¬ e = 8 by omega)
  have b9 : (e == 9) = false := by simpa using (show ¬ e = 9 by omega)
  have b14 : (e == 14) = false := by simpa using (show ¬ e = 14 by omega)
  have b5 : (e == 5) = false := by simpa using (show ¬ e = 5 by omega)
  have b1 : (e == 1) = false := by simpa using (show ¬ e = 1 by omega)
  have b10 : (e == 10) = false := by simpa using (show ¬ e = 10 by omega)
  have b15 : (e == 15) = false := by simpa using (show ¬ e = 15 by omega)
  clear he
  obtain ⟨hb, k1, k2, hz⟩ := box2f w (.int .i64 C) (.int .i64 S) (.slice A l.length c) (.int .i64 0) (.int .i64 0) (.slice none 0 0) 29 29
  have HB := Lib.hid hb; have K1 := Lib.hid k1; have K2 := Lib.hid k2; have HZ := Lib.hid hz
  have c2 := cells3 k2; have f2 := free3 k2
  have r2 := res3 (.int .i64 5) (.int .i64 0) (.slice none 0 0) k2
  clear hb k1 k2 hz
  go_enter Tryd.func14, Tryd.ntmps14
  go_wp2_with fail
  refine bodyPost_ret (v := .agg #[.int .i64 5, .int .i64 0, .slice none 0 0]) (by simp [results, Tryd.results14, go_sem, r2.1, r2.2.1, r2.2.2]) rfl ?_
  exact ⟨rfl, by first | exact below_set3' HB.out (Nat.le_succ _) | exact ((Below.refl _ _).alloc (Nat.le_refl _) _).alloc (by simp) _⟩
set_option maxHeartbeats 3200000 in
theorem RefFault_8 (C S : Int) (A : Option Addr) (c : Nat) (l : List UInt8) (w : World) (h : Bytes w A l) (hl : l.length ≤ c) (hm : c ≤ maxLen) : Calls Tryd.prog 14 #[.int .i64 8, .agg #[.int .i64 C, .int .i64 S, .slice A l.length c]] w (RetF w C S l) := by
  obtain ⟨hb, k1, k2, hz⟩ := box2f w (.int .i64 C) (.int .i64 S) (.slice A l.length c) (.int .i64 0) (.int .i64 0) (.slice none 0 0) 29 29
  have HB := Lib.hid hb; have K1 := Lib.hid k1; have K2 := Lib.hid k2; have HZ := Lib.hid hz
  have c1 := cells3 k1; have c2 := cells3 k2; have f2 := free3 k2
  have r2 := res3 (.int .i64 C) (.int .i64 S) (.slice A l.length c) k2
  have hbn := (box2f w (.int .i64 C) (.int .i64 S) (.slice A l.length c) (.int .i64 C) (.int .i64 S) (.slice A l.length c) 29 29).1
  have HBN := Lib.hid hbn
  have HBY := Lib.hid (At.lift (At.below h hbn (Nat.le_refl _)) hbn.size)
  have HM := Lib.hid hm
  clear hb k1 k2 hz h hbn hm
  go_enter Tryd.func14, Tryd.ntmps14
  go_wp2_with fail
  refine bodyPost_ret (v := .agg #[.int .i64 C, .int .i64 S, .slice A l.length c]) (by simp [results, Tryd.results14, go_sem, r2.1, r2.2.1, r2.2.2]) rfl ?_
  exact ⟨HBN.out, A, c, rfl, hl, HM.out, HBY.out⟩
set_option maxHeartbeats 3200000 in
theorem RefFault_9 (C S : Int) (A : Option Addr) (c : Nat) (l : List UInt8) (w : World) (h : Bytes w A l) (hl : l.length ≤ c) (hm : c ≤ maxLen) : Calls Tryd.prog 14 #[.int .i64 9, .agg #[.int .i64 C, .int .i64 S, .slice A l.length c]] w (RetF w C S l) := by
  obtain ⟨hb, k1, k2, hz⟩ := box2f w (.int .i64 C) (.int .i64 S) (.slice A l.length c) (.int .i64 0) (.int .i64 0) (.slice none 0 0) 29 29
  have HB := Lib.hid hb; have K1 := Lib.hid k1; have K2 := Lib.hid k2; have HZ := Lib.hid hz
  have c1 := cells3 k1; have c2 := cells3 k2; have f2 := free3 k2
  have r2 := res3 (.int .i64 C) (.int .i64 S) (.slice A l.length c) k2
  have hbn := (box2f w (.int .i64 C) (.int .i64 S) (.slice A l.length c) (.int .i64 C) (.int .i64 S) (.slice A l.length c) 29 29).1
  have HBN := Lib.hid hbn
  have HBY := Lib.hid (At.lift (At.below h hbn (Nat.le_refl _)) hbn.size)
  have HM := Lib.hid hm
  clear hb k1 k2 hz h hbn hm
  go_enter Tryd.func14, Tryd.ntmps14
  go_wp2_with fail
  refine bodyPost_ret (v := .agg #[.int .i64 C, .int .i64 S, .slice A l.length c]) (by simp [results, Tryd.results14, go_sem, r2.1, r2.2.1, r2.2.2]) rfl ?_
  exact ⟨HBN.out, A, c, rfl, hl, HM.out, HBY.out⟩
set_option maxHeartbeats 3200000 in
theorem RefFault_14 (C S : Int) (A : Option Addr) (c : Nat) (l : List UInt8) (w : World) (h : Bytes w A l) (hl : l.length ≤ c) (hm : c ≤ maxLen) : Calls Tryd.prog 14 #[.int .i64 14, .agg #[.int .i64 C, .int .i64 S, .slice A l.length c]] w (RetF w C S l) := by
  obtain ⟨hb, k1, k2, hz⟩ := box2f w (.int .i64 C) (.int .i64 S) (.slice A l.length c) (.int .i64 0) (.int .i64 0) (.slice none 0 0) 29 29
  have HB := Lib.hid hb; have K1 := Lib.hid k1; have K2 := Lib.hid k2; have HZ := Lib.hid hz
  have c1 := cells3 k1; have c2 := cells3 k2; have f2 := free3 k2
  have r2 := res3 (.int .i64 C) (.int .i64 S) (.slice A l.length c) k2
  have hbn := (box2f w (.int .i64 C) (.int .i64 S) (.slice A l.length c) (.int .i64 C) (.int .i64 S) (.slice A l.length c) 29 29).1
  have HBN := Lib.hid hbn
  have HBY := Lib.hid (At.lift (At.below h hbn (Nat.le_refl _)) hbn.size)
  have HM := Lib.hid hm
  clear hb k1 k2 hz h hbn hm
  go_enter Tryd.func14, Tryd.ntmps14
  go_wp2_with fail
  refine bodyPost_ret (v := .agg #[.int .i64 C, .int .i64 S, .slice A l.length c]) (by simp [results, Tryd.results14, go_sem, r2.1, r2.2.1, r2.2.2]) rfl ?_
  exact ⟨HBN.out, A, c, rfl, hl, HM.out, HBY.out⟩
theorem Fault_any (e C S : Int) (A : Option Addr) (c : Nat) (l : List UInt8) (w : World) (h : Bytes w A l) (hl : l.length ≤ 1000000) : Calls Tryd.prog 13 #[.int .i64 e, .agg #[.int .i64 C, .int .i64 S, .slice A l.length c]] w (RetF w (fC e C) (fS e S) (fL e l)) := by
  have hn : ∀ C S : Int, ∀ r w', (r = .returned (.agg #[.int .i64 C, .int .i64 S, .slice none 0 0]) ∧ Below w.heap.size w w') → RetF w C S [] r w' := fun C S r w' q => ⟨q.2, none, 0, q.1, Nat.le_refl _, Nat.zero_le _, Bytes.nil _ _⟩
  unfold fC fS fL
  by_cases h8 : e = 8 ∨ e = 9 ∨ e = 14
  · rw [if_pos h8, if_pos h8, if_pos h8]
    rcases h8 with rfl | rfl | rfl
    · exact Fault_8 C S A c l w h hl
    · exact Fault_9 C S A c l w h hl
    · exact Fault_14 C S A c l w h hl
  rw [if_neg h8, if_neg h8, if_neg h8]
  by_cases h5 : e = 5
  · subst h5
    exact (Fault_5 C S A c l w).mono (hn 4 0)
  by_cases h1 : e = 1
  · subst h1
    exact (Fault_1 C S A c l w).mono (hn 6 2)
  by_cases h10 : e = 10
  · subst h10
    exact (Fault_10 C S A c l w).mono (hn 6 7)
  by_cases h15 : e = 15
  · subst h15
    exact (Fault_15 C S A c l w).mono (hn 6 1)
  rw [if_neg h5, if_neg (by omega), if_neg h1, if_neg h10, if_neg h15]
  exact (Fault_else e C S A c l w (by omega)).mono (hn 5 0)
theorem RefFault_any (e C S : Int) (A : Option Addr) (c : Nat) (l : List UInt8) (w : World) (h : Bytes w A l) (hl : l.length ≤ c) (hm : c ≤ maxLen) : Calls Tryd.prog 14 #[.int .i64 e, .agg #[.int .i64 C, .int .i64 S, .slice A l.length c]] w (RetF w (fC e C) (fS e S) (fL e l)) := by
  have hn : ∀ C S : Int, ∀ r w', (r = .returned (.agg #[.int .i64 C, .int .i64 S, .slice none 0 0]) ∧ Below w.heap.size w w') → RetF w C S [] r w' := fun C S r w' q => ⟨q.2, none, 0, q.1, Nat.le_refl _, Nat.zero_le _, Bytes.nil _ _⟩
  unfold fC fS fL
  by_cases h8 : e = 8 ∨ e = 9 ∨ e = 14
  · rw [if_pos h8, if_pos h8, if_pos h8]
    rcases h8 with rfl | rfl | rfl
    · exact RefFault_8 C S A c l w h hl hm
    · exact RefFault_9 C S A c l w h hl hm
    · exact RefFault_14 C S A c l w h hl hm
  rw [if_neg h8, if_neg h8, if_neg h8]
  by_cases h5 : e = 5
  · subst h5
    exact (RefFault_5 C S A c l w).mono (hn 4 0)
  by_cases h1 : e = 1
  · subst h1
    exact (RefFault_1 C S A c l w).mono (hn 6 2)
  by_cases h10 : e = 10
  · subst h10
    exact (RefFault_10 C S A c l w).mono (hn 6 7)
  by_cases h15 : e = 15
  · subst h15
    exact (RefFault_15 C S A c l w).mono (hn 6 1)
  rw [if_neg h5, if_neg (by omega), if_neg h1, if_neg h10, if_neg h15]
  exact (RefFault_else e C S A c l w (by omega)).mono (hn 5 0)
/-- Are two faults the same? -/
def sameF (C S : Int) (l : List UInt8) (C' S' : Int) (m : List UInt8) : Bool := decide (C = C') && (decide (S = S') && (l == m))
set_option maxHeartbeats 3200000 in
theorem NSame_any (C S C' S' : Int) (A A' : Option Addr) (c c' : Nat) (l m : List UInt8) (w : World) (h : Bytes w A l) (h' : Bytes w A' m) : Calls Tryd.prog 26 #[.agg #[.int .i64 C, .int .i64 S, .slice A l.length c], .agg #[.int .i64 C', .int .i64 S', .slice A' m.length c']] w fun r w' => r = .returned (.bool (sameF C S l C' S' m)) ∧ Below w.heap.size w w' := by
  obtain ⟨hb, k1, k2, hz⟩ := box2f w (.int .i64 C) (.int .i64 S) (.slice A l.length c) (.int .i64 C') (.int .i64 S') (.slice A' m.length c') 29 29
  have HB := Lib.hid hb
  have c1 := cells3 k1; have c2 := cells3 k2
  have Q := Lib.hid (BytesEqual_any A A' c c' l m _ (At.lift (At.below h hb (Nat.le_refl _)) hb.size) (At.lift (At.below h' hb (Nat.le_refl _)) hb.size))
  clear hb k1 k2 hz h h'
  by_cases hC : C = C'
  · have d1 : (C == C') = true := by simpa using hC
    by_cases hS : S = S'
    · have d2 : (S == S') = true := by simpa using hS
      have HV := Lib.hid (show sameF C S l C' S' m = (l == m) by unfold sameF; rw [decide_eq_true hC, decide_eq_true hS]; rfl)
      obtain ⟨B, hB⟩ : ∃ B, B = (l == m) := ⟨_, rfl⟩
      rw [← hB] at HV Q
      clear hC hS hB
      go_enter Tryd.func26, Tryd.ntmps26
      go_wp2_with fail
      refine Q.out.mono ?_
      rintro r w1 ⟨rfl, rfl⟩
      go_wp2_with fail
      go_ret
      exact ⟨by rw [HV.out]; rfl, HB.out⟩
    · have d2 : (S == S') = false := by simpa using hS
      have HV := Lib.hid (show sameF C S l C' S' m = false by unfold sameF; rw [decide_eq_true hC, decide_eq_false hS]; rfl)
      clear hC hS
      go_enter Tryd.func26, Tryd.ntmps26
      go_wp2_with fail
      go_ret
      exact ⟨by rw [HV.out]; rfl, HB.out⟩
  · have d1 : (C == C') = false := by simpa using hC
    have HV := Lib.hid (show sameF C S l C' S' m = false by unfold sameF; rw [decide_eq_false hC]; rfl)
    clear hC
    go_enter Tryd.func26, Tryd.ntmps26
    go_wp2_with fail
    go_ret
    exact ⟨by rw [HV.out]; rfl, HB.out⟩
set_option maxHeartbeats 3200000 in
theorem RSame_any (C S C' S' : Int) (A A' : Option Addr) (c c' : Nat) (l m : List UInt8) (w : World) (h : Bytes w A l) (h' : Bytes w A' m) : Calls Tryd.prog 12 #[.agg #[.int .i64 C, .int .i64 S, .slice A l.length c], .agg #[.int .i64 C', .int .i64 S', .slice A' m.length c']] w fun r w' => r = .returned (.bool (sameF C S l C' S' m)) ∧ Below w.heap.size w w' := by
  obtain ⟨hb, k1, k2, hz⟩ := box2f w (.int .i64 C) (.int .i64 S) (.slice A l.length c) (.int .i64 C') (.int .i64 S') (.slice A' m.length c') 29 29
  have HB := Lib.hid hb
  have c1 := cells3 k1; have c2 := cells3 k2
  have Q := Lib.hid (Same_any A A' _ _ c c' l m rfl rfl _ (At.lift (At.below h hb (Nat.le_refl _)) hb.size) (At.lift (At.below h' hb (Nat.le_refl _)) hb.size))
  clear hb k1 k2 hz h h'
  by_cases hC : C = C'
  · have d1 : (C == C') = true := by simpa using hC
    by_cases hS : S = S'
    · have d2 : (S == S') = true := by simpa using hS
      have HV := Lib.hid (show sameF C S l C' S' m = (l == m) by unfold sameF; rw [decide_eq_true hC, decide_eq_true hS]; rfl)
      obtain ⟨B, hB⟩ : ∃ B, B = (l == m) := ⟨_, rfl⟩
      rw [← hB] at HV Q
      clear hC hS hB
      go_enter Tryd.func12, Tryd.ntmps12
      go_wp2_with fail
      refine Q.out.mono ?_
      rintro r w1 ⟨rfl, rfl⟩
      go_wp2_with fail
      go_ret
      exact ⟨by rw [HV.out]; rfl, HB.out⟩
    · have d2 : (S == S') = false := by simpa using hS
      have HV := Lib.hid (show sameF C S l C' S' m = false by unfold sameF; rw [decide_eq_true hC, decide_eq_false hS]; rfl)
      clear hC hS
      go_enter Tryd.func12, Tryd.ntmps12
      go_wp2_with fail
      go_ret
      exact ⟨by rw [HV.out]; rfl, HB.out⟩
  · have d1 : (C == C') = false := by simpa using hC
    have HV := Lib.hid (show sameF C S l C' S' m = false by unfold sameF; rw [decide_eq_false hC]; rfl)
    clear hC
    go_enter Tryd.func12, Tryd.ntmps12
    go_wp2_with fail
    go_ret
    exact ⟨by rw [HV.out]; rfl, HB.out⟩
theorem fieldF (x y z : Value) (w : World) : (Instr.field 29 (.agg #[x, y, z]) 0).run Tryd.prog w = .ok x w := by kernel_rfl
set_option maxHeartbeats 3200000 in
theorem awake21_any (w : World) (ht : TabF w) : Calls Tryd.prog 11 #[] w fun r w' => r = .returned (.bool true) ∧ Below w.heap.size w w' := by
  have Q1 := Lib.hid (Step_in 0 0 w (by omega) (by omega) ht)
  have Q2 := Lib.hid (Name_in 5 w (by omega) ht)
  have Q3 := Lib.hid (Fault_5 0 0 none 0 [] w)
  have hfi := fun W => fieldF (.int .i64 4) (.int .i64 0) (.slice none 0 0) W
  clear ht
  go_enter Tryd.func11, Tryd.ntmps11
  go_wp2_with fail
  refine Q1.out.mono ?_
  rintro r w1 ⟨rfl, rfl⟩
  have e1 : (toN 0 0 : Int) = 1 := by kernel_rfl
  have e2 : (deN 0 0 : Int) = 129 := by kernel_rfl
  rw [e1, e2]
  clear e1 e2
  go_wp2_with fail
  refine Q2.out.mono ?_
  rintro r w1 ⟨rfl, rfl⟩
  have e3 : (⟨(nameOf 5).toArray⟩ : ByteArray) = ⟨#[101, 115, 116, 97, 98, 108, 105, 115, 104, 101, 100]⟩ := by kernel_rfl
  rw [e3]
  clear e3
  go_wp2_with fail
  refine Q3.out.mono ?_
  rintro r w1 ⟨rfl, hb⟩
  have HB := Lib.hid hb
  clear hb
  go_wp2_with fail
  go_ret
  exact ⟨rfl, HB.out⟩
end Go.Proofs.YthjnbjhdepfclaaDoor

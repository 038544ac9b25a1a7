/-
  A clock a tick later, and some ticks later.
-/
import Derived.Test.YteihadheplcccaaPass20
import Derived.Test.YteihadheplcccaaFirst20
namespace Go.Proofs.Yteihadheplcccaa
set_option linter.unusedVariables false
set_option linter.unusedSimpArgs false
open Go.RowKit

set_option maxHeartbeats 3200000 in
theorem Tick_any (a b c : Int) (w : World) (ht : (⟨a, b, c⟩ : Tri).I64) :
    Calls Try.prog 11 #[.agg #[.int .i64 a, .int .i64 b, .int .i64 c]] w (PassPost w (passN 1 ⟨a, b, c⟩ 3) (endN 1 ⟨a, b, c⟩ 3)) := by
  have Q := Lib.hid (fun W => pass_any a b c 1 W ⟨by omega, fun h => h, fun h => h, fun h => h⟩ ht)
  obtain ⟨t, hT⟩ : ∃ t, t = passN 1 ⟨a, b, c⟩ 3 := ⟨_, rfl⟩
  obtain ⟨z, hzz⟩ : ∃ z, z = endN 1 ⟨a, b, c⟩ 3 := ⟨_, rfl⟩
  rw [← hT, ← hzz] at Q ⊢
  obtain ⟨hb0, k1, k2, hz⟩ := box2 w (.int .i64 a) (.int .i64 b) (.int .i64 c) (.int .i64 0) (.int .i64 0) (.int .i64 0) 24 24
  have HB := Lib.hid hb0; have K1 := Lib.hid k1; have K2 := Lib.hid k2; have HZ := Lib.hid hz
  have c0 := cells3 k1
  clear hb0 k1 k2 hz
  clear hT hzz ht
  obtain ⟨x, y, s⟩ := t
  go_enter Try.func11, Try.ntmps11
  go_wp2_with fail
  refine (Q.out _).mono ?_
  rintro e w1 ⟨A1, c1, rfl, ho, hb1⟩
  have k2 := K2.out.below hb1 K2.out.lt
  have e2 := cells3 k2; have f2 := free3 k2
  have r2 := res3 (.int .i64 x) (.int .i64 y) (.int .i64 s) k2
  have HB1 := Lib.hid (HB.out.trans (hb1.mono HB.out.size))
  have HO := Lib.hid (((((ho.lower (B' := w.heap.size + 2) (by rw [HZ.out]; exact Nat.le_refl _)).setBelow (g := w.heap.size + 1) (i := 0) (by omega) (.int .i64 x)).setBelow (g := w.heap.size + 1) (i := 1) (by omega) (.int .i64 y)).setBelow (g := w.heap.size + 1) (i := 2) (by omega) (.int .i64 s)).lower (B' := w.heap.size) (by omega))
  clear ho hb1 k2 c0
  go_wp2_with fail
  refine bodyPost_ret (v := .tuple #[.agg #[.int .i64 x, .int .i64 y, .int .i64 s], .slice A1 z.length c1]) (by simp [results, Try.results11, go_sem, r2.1, r2.2.1, r2.2.2]) rfl ?_
  exact ⟨A1, c1, rfl, HO.out, below_set3' HB1.out (Nat.le_succ _)⟩

/-- How many ticks a skip is. -/
def skipK (f n : Int) : Int := if 0 < f then (if f < (if n < 0 then 0 else n) then f else (if n < 0 then 0 else n)) else (if n < 0 then 0 else n)
/-- What a skip leaves. -/
def SkipPost (w : World) (t : Tri) (z : List Int) (k : Int) (e : Ending) (w' : World) : Prop :=
  ∃ A n, e = .returned (.tuple #[.agg #[.int .i64 t.a, .int .i64 t.b, .int .i64 t.c], .slice A z.length n, .int .i64 k]) ∧ OwnI w' w.heap.size (.slice A z.length n) z ∧ Below w.heap.size w w'
theorem first_fits (t : Tri) : 0 ≤ fstN t 3 ∧ (0 < fstN t 3 → Fits (fstN t 3) t) ∧ (fstN t 3 = 0 → t.a ≤ 0 ∧ t.b ≤ 0 ∧ t.c ≤ 0) := by
  obtain ⟨a, b, c⟩ := t
  show 0 ≤ fst2 (fst2 (fst2 0 a) b) c ∧ (0 < fst2 (fst2 (fst2 0 a) b) c → Fits (fst2 (fst2 (fst2 0 a) b) c) ⟨a, b, c⟩) ∧ (fst2 (fst2 (fst2 0 a) b) c = 0 → a ≤ 0 ∧ b ≤ 0 ∧ c ≤ 0)
  unfold Fits
  dsimp only
  rcases fst2_cases 0 a with ⟨e1, p1⟩ | ⟨e1, p1⟩ <;> rw [e1]
  all_goals
    first
    | rcases fst2_cases a b with ⟨e2, p2⟩ | ⟨e2, p2⟩ <;> rw [e2] <;> first
        | (rcases fst2_cases a c with ⟨e3, p3⟩ | ⟨e3, p3⟩ <;> rw [e3] <;> omega)
        | (rcases fst2_cases b c with ⟨e3, p3⟩ | ⟨e3, p3⟩ <;> rw [e3] <;> omega)
    | rcases fst2_cases 0 b with ⟨e2, p2⟩ | ⟨e2, p2⟩ <;> rw [e2] <;> first
        | (rcases fst2_cases 0 c with ⟨e3, p3⟩ | ⟨e3, p3⟩ <;> rw [e3] <;> omega)
        | (rcases fst2_cases b c with ⟨e3, p3⟩ | ⟨e3, p3⟩ <;> rw [e3] <;> omega)
theorem skip_fits (t : Tri) (n : Int) : Fits (skipK (fstN t 3) n) t := by
  obtain ⟨h0, h1, h2⟩ := first_fits t
  unfold skipK
  by_cases hp : 0 < fstN t 3
  · rw [if_pos hp]
    obtain ⟨q0, q1, q2, q3⟩ := h1 hp
    by_cases hl : fstN t 3 < (if n < 0 then 0 else n)
    · rw [if_pos hl]
      exact ⟨q0, q1, q2, q3⟩
    · rw [if_neg hl]
      have hm : 0 ≤ (if n < 0 then 0 else n) := by split <;> omega
      exact ⟨hm, fun h => by have := q1 h; omega, fun h => by have := q2 h; omega, fun h => by have := q3 h; omega⟩
  · rw [if_neg hp]
    obtain ⟨r1, r2, r3⟩ := h2 (by omega)
    have hm : 0 ≤ (if n < 0 then 0 else n) := by split <;> omega
    exact ⟨hm, fun h => by omega, fun h => by omega, fun h => by omega⟩
set_option maxHeartbeats 3200000 in
theorem Skip_nlt (a b c n f : Int) (w : World) (ht : (⟨a, b, c⟩ : Tri).I64) (hF : fstN ⟨a, b, c⟩ 3 = f) (hfit : Fits (0) ⟨a, b, c⟩) (hn : n < 0) (hf : 0 < f) (hl : ¬ f < 0) :
    Calls Try.prog 15 #[.agg #[.int .i64 a, .int .i64 b, .int .i64 c], .int .i64 n] w (SkipPost w (passN (0) ⟨a, b, c⟩ 3) (endN (0) ⟨a, b, c⟩ 3) (0)) := by
  have QP := Lib.hid (fun W => pass_any a b c (0) W hfit ht)
  have QF := Lib.hid (fun W => First_any a b c W)
  rw [hF] at QF
  obtain ⟨t, hT⟩ : ∃ t, t = passN (0) ⟨a, b, c⟩ 3 := ⟨_, rfl⟩
  obtain ⟨z, hzz⟩ : ∃ z, z = endN (0) ⟨a, b, c⟩ 3 := ⟨_, rfl⟩
  rw [← hT, ← hzz] at QP ⊢
  obtain ⟨hb0, k1, k2, hz⟩ := box2 w (.int .i64 a) (.int .i64 b) (.int .i64 c) (.int .i64 0) (.int .i64 0) (.int .i64 0) 24 24
  have HB := Lib.hid hb0; have K1 := Lib.hid k1; have K2 := Lib.hid k2; have HZ := Lib.hid hz
  have c0 := cells3 k1
  clear hb0 k1 k2 hz
  clear hT hzz ht hF hfit
  obtain ⟨x, y, s⟩ := t
  have hd : decide (0 < f) = true := by simpa using hf
  go_enter Try.func15, Try.ntmps15
  go_wp2_with fail
  refine (QF.out _).mono ?_
  rintro e w0 ⟨rfl, hb0⟩
  have k1 := K1.out.below hb0 K1.out.lt
  have k2 := K2.out.below hb0 K2.out.lt
  have e1 := cells3 k1
  have HB0 := Lib.hid (HB.out.trans (hb0.mono HB.out.size))
  have HZ0 := Lib.hid (show w.heap.size + 2 ≤ w0.heap.size by rw [← HZ.out]; exact hb0.size)
  have K20 := Lib.hid k2
  clear hb0 k1 k2 c0 K1 K2 HB
  go_wp2_with fail
  refine (QP.out _).mono ?_
  rintro e w1 ⟨A1, c1, rfl, ho, hb1⟩
  have k2 := K20.out.below hb1 K20.out.lt
  have e2 := cells3 k2; have f2 := free3 k2
  have HK2 := Lib.hid k2
  have HB1 := Lib.hid (HB0.out.trans (hb1.mono HB0.out.size))
  have HZ1 := Lib.hid (show w.heap.size + 2 ≤ w1.heap.size by have := HZ0.out; have := hb1.size; omega)
  have hn1 : w.heap.size + 1 < w1.heap.size := by have := HZ1.out; omega
  have k3 := Blk.set3 (.int .i64 x) (.int .i64 y) (.int .i64 s) k2
  have r2 := cells3 (k3.below ((Below.refl _ _).alloc (Nat.le_refl _) (.cells #[.int .i64 x, .int .i64 y, .int .i64 s] 24)) k3.lt)
  have HO := Lib.hid ((((((ho.lower (B' := w.heap.size + 2) HZ0.out).setBelow (g := w.heap.size + 1) (i := 0) (by omega) (.int .i64 x)).setBelow (g := w.heap.size + 1) (i := 1) (by omega) (.int .i64 y)).setBelow (g := w.heap.size + 1) (i := 2) (by omega) (.int .i64 s)).alloc (.cells #[.int .i64 x, .int .i64 y, .int .i64 s] 24)).lower (B' := w.heap.size) (by omega))
  have HB3 := Lib.hid (show Below w.heap.size w _ from (below_set3' (u := .int .i64 x) (v := .int .i64 y) (x := .int .i64 s) HB1.out (Nat.le_succ w.heap.size)).alloc (below_set3' (u := .int .i64 x) (v := .int .i64 y) (x := .int .i64 s) HB1.out (Nat.le_succ w.heap.size)).size (.cells #[.int .i64 x, .int .i64 y, .int .i64 s] 24))
  clear ho hb1 k2 k3 e1
  go_wp2_with fail
  refine bodyPost_ret (v := .tuple #[.agg #[.int .i64 x, .int .i64 y, .int .i64 s], .slice A1 z.length c1, .int .i64 (0)]) (by simp [results, Try.results15, go_sem, r2.1, r2.2.1, r2.2.2]) rfl ?_
  exact ⟨A1, c1, rfl, HO.out, HB3.out⟩
set_option maxHeartbeats 3200000 in
theorem Skip_nnone (a b c n f : Int) (w : World) (ht : (⟨a, b, c⟩ : Tri).I64) (hF : fstN ⟨a, b, c⟩ 3 = f) (hfit : Fits (0) ⟨a, b, c⟩) (hn : n < 0) (hf : ¬ 0 < f) :
    Calls Try.prog 15 #[.agg #[.int .i64 a, .int .i64 b, .int .i64 c], .int .i64 n] w (SkipPost w (passN (0) ⟨a, b, c⟩ 3) (endN (0) ⟨a, b, c⟩ 3) (0)) := by
  have QP := Lib.hid (fun W => pass_any a b c (0) W hfit ht)
  have QF := Lib.hid (fun W => First_any a b c W)
  rw [hF] at QF
  obtain ⟨t, hT⟩ : ∃ t, t = passN (0) ⟨a, b, c⟩ 3 := ⟨_, rfl⟩
  obtain ⟨z, hzz⟩ : ∃ z, z = endN (0) ⟨a, b, c⟩ 3 := ⟨_, rfl⟩
  rw [← hT, ← hzz] at QP ⊢
  obtain ⟨hb0, k1, k2, hz⟩ := box2 w (.int .i64 a) (.int .i64 b) (.int .i64 c) (.int .i64 0) (.int .i64 0) (.int .i64 0) 24 24
  have HB := Lib.hid hb0; have K1 := Lib.hid k1; have K2 := Lib.hid k2; have HZ := Lib.hid hz
  have c0 := cells3 k1
  clear hb0 k1 k2 hz
  clear hT hzz ht hF hfit
  obtain ⟨x, y, s⟩ := t
  have hd : decide (0 < f) = false := by simpa using hf
  go_enter Try.func15, Try.ntmps15
  go_wp2_with fail
  refine (QF.out _).mono ?_
  rintro e w0 ⟨rfl, hb0⟩
  have k1 := K1.out.below hb0 K1.out.lt
  have k2 := K2.out.below hb0 K2.out.lt
  have e1 := cells3 k1
  have HB0 := Lib.hid (HB.out.trans (hb0.mono HB.out.size))
  have HZ0 := Lib.hid (show w.heap.size + 2 ≤ w0.heap.size by rw [← HZ.out]; exact hb0.size)
  have K20 := Lib.hid k2
  clear hb0 k1 k2 c0 K1 K2 HB
  go_wp2_with fail
  refine (QP.out _).mono ?_
  rintro e w1 ⟨A1, c1, rfl, ho, hb1⟩
  have k2 := K20.out.below hb1 K20.out.lt
  have e2 := cells3 k2; have f2 := free3 k2
  have HK2 := Lib.hid k2
  have HB1 := Lib.hid (HB0.out.trans (hb1.mono HB0.out.size))
  have HZ1 := Lib.hid (show w.heap.size + 2 ≤ w1.heap.size by have := HZ0.out; have := hb1.size; omega)
  have hn1 : w.heap.size + 1 < w1.heap.size := by have := HZ1.out; omega
  have k3 := Blk.set3 (.int .i64 x) (.int .i64 y) (.int .i64 s) k2
  have r2 := cells3 (k3.below ((Below.refl _ _).alloc (Nat.le_refl _) (.cells #[.int .i64 x, .int .i64 y, .int .i64 s] 24)) k3.lt)
  have HO := Lib.hid ((((((ho.lower (B' := w.heap.size + 2) HZ0.out).setBelow (g := w.heap.size + 1) (i := 0) (by omega) (.int .i64 x)).setBelow (g := w.heap.size + 1) (i := 1) (by omega) (.int .i64 y)).setBelow (g := w.heap.size + 1) (i := 2) (by omega) (.int .i64 s)).alloc (.cells #[.int .i64 x, .int .i64 y, .int .i64 s] 24)).lower (B' := w.heap.size) (by omega))
  have HB3 := Lib.hid (show Below w.heap.size w _ from (below_set3' (u := .int .i64 x) (v := .int .i64 y) (x := .int .i64 s) HB1.out (Nat.le_succ w.heap.size)).alloc (below_set3' (u := .int .i64 x) (v := .int .i64 y) (x := .int .i64 s) HB1.out (Nat.le_succ w.heap.size)).size (.cells #[.int .i64 x, .int .i64 y, .int .i64 s] 24))
  clear ho hb1 k2 k3 e1
  go_wp2_with fail
  refine bodyPost_ret (v := .tuple #[.agg #[.int .i64 x, .int .i64 y, .int .i64 s], .slice A1 z.length c1, .int .i64 (0)]) (by simp [results, Try.results15, go_sem, r2.1, r2.2.1, r2.2.2]) rfl ?_
  exact ⟨A1, c1, rfl, HO.out, HB3.out⟩
set_option maxHeartbeats 3200000 in
theorem Skip_plt (a b c n f : Int) (w : World) (ht : (⟨a, b, c⟩ : Tri).I64) (hF : fstN ⟨a, b, c⟩ 3 = f) (hfit : Fits (n) ⟨a, b, c⟩) (hn : ¬ n < 0) (hf : 0 < f) (hl : ¬ f < n) :
    Calls Try.prog 15 #[.agg #[.int .i64 a, .int .i64 b, .int .i64 c], .int .i64 n] w (SkipPost w (passN (n) ⟨a, b, c⟩ 3) (endN (n) ⟨a, b, c⟩ 3) (n)) := by
  have QP := Lib.hid (fun W => pass_any a b c (n) W hfit ht)
  have QF := Lib.hid (fun W => First_any a b c W)
  rw [hF] at QF
  obtain ⟨t, hT⟩ : ∃ t, t = passN (n) ⟨a, b, c⟩ 3 := ⟨_, rfl⟩
  obtain ⟨z, hzz⟩ : ∃ z, z = endN (n) ⟨a, b, c⟩ 3 := ⟨_, rfl⟩
  rw [← hT, ← hzz] at QP ⊢
  obtain ⟨hb0, k1, k2, hz⟩ := box2 w (.int .i64 a) (.int .i64 b) (.int .i64 c) (.int .i64 0) (.int .i64 0) (.int .i64 0) 24 24
  have HB := Lib.hid hb0; have K1 := Lib.hid k1; have K2 := Lib.hid k2; have HZ := Lib.hid hz
  have c0 := cells3 k1
  clear hb0 k1 k2 hz
  clear hT hzz ht hF hfit
  obtain ⟨x, y, s⟩ := t
  have hd : decide (0 < f) = true := by simpa using hf
  go_enter Try.func15, Try.ntmps15
  go_wp2_with fail
  refine (QF.out _).mono ?_
  rintro e w0 ⟨rfl, hb0⟩
  have k1 := K1.out.below hb0 K1.out.lt
  have k2 := K2.out.below hb0 K2.out.lt
  have e1 := cells3 k1
  have HB0 := Lib.hid (HB.out.trans (hb0.mono HB.out.size))
  have HZ0 := Lib.hid (show w.heap.size + 2 ≤ w0.heap.size by rw [← HZ.out]; exact hb0.size)
  have K20 := Lib.hid k2
  clear hb0 k1 k2 c0 K1 K2 HB
  go_wp2_with fail
  refine (QP.out _).mono ?_
  rintro e w1 ⟨A1, c1, rfl, ho, hb1⟩
  have k2 := K20.out.below hb1 K20.out.lt
  have e2 := cells3 k2; have f2 := free3 k2
  have HK2 := Lib.hid k2
  have HB1 := Lib.hid (HB0.out.trans (hb1.mono HB0.out.size))
  have HZ1 := Lib.hid (show w.heap.size + 2 ≤ w1.heap.size by have := HZ0.out; have := hb1.size; omega)
  have hn1 : w.heap.size + 1 < w1.heap.size := by have := HZ1.out; omega
  have k3 := Blk.set3 (.int .i64 x) (.int .i64 y) (.int .i64 s) k2
  have r2 := cells3 (k3.below ((Below.refl _ _).alloc (Nat.le_refl _) (.cells #[.int .i64 x, .int .i64 y, .int .i64 s] 24)) k3.lt)
  have HO := Lib.hid ((((((ho.lower (B' := w.heap.size + 2) HZ0.out).setBelow (g := w.heap.size + 1) (i := 0) (by omega) (.int .i64 x)).setBelow (g := w.heap.size + 1) (i := 1) (by omega) (.int .i64 y)).setBelow (g := w.heap.size + 1) (i := 2) (by omega) (.int .i64 s)).alloc (.cells #[.int .i64 x, .int .i64 y, .int .i64 s] 24)).lower (B' := w.heap.size) (by omega))
  have HB3 := Lib.hid (show Below w.heap.size w _ from (below_set3' (u := .int .i64 x) (v := .int .i64 y) (x := .int .i64 s) HB1.out (Nat.le_succ w.heap.size)).alloc (below_set3' (u := .int .i64 x) (v := .int .i64 y) (x := .int .i64 s) HB1.out (Nat.le_succ w.heap.size)).size (.cells #[.int .i64 x, .int .i64 y, .int .i64 s] 24))
  clear ho hb1 k2 k3 e1
  go_wp2_with fail
  refine bodyPost_ret (v := .tuple #[.agg #[.int .i64 x, .int .i64 y, .int .i64 s], .slice A1 z.length c1, .int .i64 (n)]) (by simp [results, Try.results15, go_sem, r2.1, r2.2.1, r2.2.2]) rfl ?_
  exact ⟨A1, c1, rfl, HO.out, HB3.out⟩
set_option maxHeartbeats 3200000 in
theorem Skip_pge (a b c n f : Int) (w : World) (ht : (⟨a, b, c⟩ : Tri).I64) (hF : fstN ⟨a, b, c⟩ 3 = f) (hfit : Fits (f) ⟨a, b, c⟩) (hn : ¬ n < 0) (hf : 0 < f) (hl : f < n) :
    Calls Try.prog 15 #[.agg #[.int .i64 a, .int .i64 b, .int .i64 c], .int .i64 n] w (SkipPost w (passN (f) ⟨a, b, c⟩ 3) (endN (f) ⟨a, b, c⟩ 3) (f)) := by
  have QP := Lib.hid (fun W => pass_any a b c (f) W hfit ht)
  have QF := Lib.hid (fun W => First_any a b c W)
  rw [hF] at QF
  obtain ⟨t, hT⟩ : ∃ t, t = passN (f) ⟨a, b, c⟩ 3 := ⟨_, rfl⟩
  obtain ⟨z, hzz⟩ : ∃ z, z = endN (f) ⟨a, b, c⟩ 3 := ⟨_, rfl⟩
  rw [← hT, ← hzz] at QP ⊢
  obtain ⟨hb0, k1, k2, hz⟩ := box2 w (.int .i64 a) (.int .i64 b) (.int .i64 c) (.int .i64 0) (.int .i64 0) (.int .i64 0) 24 24
  have HB := Lib.hid hb0; have K1 := Lib.hid k1; have K2 := Lib.hid k2; have HZ := Lib.hid hz
  have c0 := cells3 k1
  clear hb0 k1 k2 hz
  clear hT hzz ht hF hfit
  obtain ⟨x, y, s⟩ := t
  have hd : decide (0 < f) = true := by simpa using hf
  go_enter Try.func15, Try.ntmps15
  go_wp2_with fail
  refine (QF.out _).mono ?_
  rintro e w0 ⟨rfl, hb0⟩
  have k1 := K1.out.below hb0 K1.out.lt
  have k2 := K2.out.below hb0 K2.out.lt
  have e1 := cells3 k1
  have HB0 := Lib.hid (HB.out.trans (hb0.mono HB.out.size))
  have HZ0 := Lib.hid (show w.heap.size + 2 ≤ w0.heap.size by rw [← HZ.out]; exact hb0.size)
  have K20 := Lib.hid k2
  clear hb0 k1 k2 c0 K1 K2 HB
  go_wp2_with fail
  refine (QP.out _).mono ?_
  rintro e w1 ⟨A1, c1, rfl, ho, hb1⟩
  have k2 := K20.out.below hb1 K20.out.lt
  have e2 := cells3 k2; have f2 := free3 k2
  have HK2 := Lib.hid k2
  have HB1 := Lib.hid (HB0.out.trans (hb1.mono HB0.out.size))
  have HZ1 := Lib.hid (show w.heap.size + 2 ≤ w1.heap.size by have := HZ0.out; have := hb1.size; omega)
  have hn1 : w.heap.size + 1 < w1.heap.size := by have := HZ1.out; omega
  have k3 := Blk.set3 (.int .i64 x) (.int .i64 y) (.int .i64 s) k2
  have r2 := cells3 (k3.below ((Below.refl _ _).alloc (Nat.le_refl _) (.cells #[.int .i64 x, .int .i64 y, .int .i64 s] 24)) k3.lt)
  have HO := Lib.hid ((((((ho.lower (B' := w.heap.size + 2) HZ0.out).setBelow (g := w.heap.size + 1) (i := 0) (by omega) (.int .i64 x)).setBelow (g := w.heap.size + 1) (i := 1) (by omega) (.int .i64 y)).setBelow (g := w.heap.size + 1) (i := 2) (by omega) (.int .i64 s)).alloc (.cells #[.int .i64 x, .int .i64 y, .int .i64 s] 24)).lower (B' := w.heap.size) (by omega))
  have HB3 := Lib.hid (show Below w.heap.size w _ from (below_set3' (u := .int .i64 x) (v := .int .i64 y) (x := .int .i64 s) HB1.out (Nat.le_succ w.heap.size)).alloc (below_set3' (u := .int .i64 x) (v := .int .i64 y) (x := .int .i64 s) HB1.out (Nat.le_succ w.heap.size)).size (.cells #[.int .i64 x, .int .i64 y, .int .i64 s] 24))
  clear ho hb1 k2 k3 e1
  go_wp2_with fail
  refine bodyPost_ret (v := .tuple #[.agg #[.int .i64 x, .int .i64 y, .int .i64 s], .slice A1 z.length c1, .int .i64 (f)]) (by simp [results, Try.results15, go_sem, r2.1, r2.2.1, r2.2.2]) rfl ?_
  exact ⟨A1, c1, rfl, HO.out, HB3.out⟩
set_option maxHeartbeats 3200000 in
theorem Skip_pnone (a b c n f : Int) (w : World) (ht : (⟨a, b, c⟩ : Tri).I64) (hF : fstN ⟨a, b, c⟩ 3 = f) (hfit : Fits (n) ⟨a, b, c⟩) (hn : ¬ n < 0) (hf : ¬ 0 < f) :
    Calls Try.prog 15 #[.agg #[.int .i64 a, .int .i64 b, .int .i64 c], .int .i64 n] w (SkipPost w (passN (n) ⟨a, b, c⟩ 3) (endN (n) ⟨a, b, c⟩ 3) (n)) := by
  have QP := Lib.hid (fun W => pass_any a b c (n) W hfit ht)
  have QF := Lib.hid (fun W => First_any a b c W)
  rw [hF] at QF
  obtain ⟨t, hT⟩ : ∃ t, t = passN (n) ⟨a, b, c⟩ 3 := ⟨_, rfl⟩
  obtain ⟨z, hzz⟩ : ∃ z, z = endN (n) ⟨a, b, c⟩ 3 := ⟨_, rfl⟩
  rw [← hT, ← hzz] at QP ⊢
  obtain ⟨hb0, k1, k2, hz⟩ := box2 w (.int .i64 a) (.int .i64 b) (.int .i64 c) (.int .i64 0) (.int .i64 0) (.int .i64 0) 24 24
  have HB := Lib.hid hb0; have K1 := Lib.hid k1; have K2 := Lib.hid k2; have HZ := Lib.hid hz
  have c0 := cells3 k1
  clear hb0 k1 k2 hz
  clear hT hzz ht hF hfit
  obtain ⟨x, y, s⟩ := t
  have hd : decide (0 < f) = false := by simpa using hf
  go_enter Try.func15, Try.ntmps15
  go_wp2_with fail
  refine (QF.out _).mono ?_
  rintro e w0 ⟨rfl, hb0⟩
  have k1 := K1.out.below hb0 K1.out.lt
  have k2 := K2.out.below hb0 K2.out.lt
  have e1 := cells3 k1
  have HB0 := Lib.hid (HB.out.trans (hb0.mono HB.out.size))
  have HZ0 := Lib.hid (show w.heap.size + 2 ≤ w0.heap.size by rw [← HZ.out]; exact hb0.size)
  have K20 := Lib.hid k2
  clear hb0 k1 k2 c0 K1 K2 HB
  go_wp2_with fail
  refine (QP.out _).mono ?_
  rintro e w1 ⟨A1, c1, rfl, ho, hb1⟩
  have k2 := K20.out.below hb1 K20.out.lt
  have e2 := cells3 k2; have f2 := free3 k2
  have HK2 := Lib.hid k2
  have HB1 := Lib.hid (HB0.out.trans (hb1.mono HB0.out.size))
  have HZ1 := Lib.hid (show w.heap.size + 2 ≤ w1.heap.size by have := HZ0.out; have := hb1.size; omega)
  have hn1 : w.heap.size + 1 < w1.heap.size := by have := HZ1.out; omega
  have k3 := Blk.set3 (.int .i64 x) (.int .i64 y) (.int .i64 s) k2
  have r2 := cells3 (k3.below ((Below.refl _ _).alloc (Nat.le_refl _) (.cells #[.int .i64 x, .int .i64 y, .int .i64 s] 24)) k3.lt)
  have HO := Lib.hid ((((((ho.lower (B' := w.heap.size + 2) HZ0.out).setBelow (g := w.heap.size + 1) (i := 0) (by omega) (.int .i64 x)).setBelow (g := w.heap.size + 1) (i := 1) (by omega) (.int .i64 y)).setBelow (g := w.heap.size + 1) (i := 2) (by omega) (.int .i64 s)).alloc (.cells #[.int .i64 x, .int .i64 y, .int .i64 s] 24)).lower (B' := w.heap.size) (by omega))
  have HB3 := Lib.hid (show Below w.heap.size w _ from (below_set3' (u := .int .i64 x) (v := .int .i64 y) (x := .int .i64 s) HB1.out (Nat.le_succ w.heap.size)).alloc (below_set3' (u := .int .i64 x) (v := .int .i64 y) (x := .int .i64 s) HB1.out (Nat.le_succ w.heap.size)).size (.cells #[.int .i64 x, .int .i64 y, .int .i64 s] 24))
  clear ho hb1 k2 k3 e1
  go_wp2_with fail
  refine bodyPost_ret (v := .tuple #[.agg #[.int .i64 x, .int .i64 y, .int .i64 s], .slice A1 z.length c1, .int .i64 (n)]) (by simp [results, Try.results15, go_sem, r2.1, r2.2.1, r2.2.2]) rfl ?_
  exact ⟨A1, c1, rfl, HO.out, HB3.out⟩
theorem Skip_any (a b c n : Int) (w : World) (ht : (⟨a, b, c⟩ : Tri).I64) :
    Calls Try.prog 15 #[.agg #[.int .i64 a, .int .i64 b, .int .i64 c], .int .i64 n] w (SkipPost w (passN (skipK (fstN ⟨a, b, c⟩ 3) n) ⟨a, b, c⟩ 3) (endN (skipK (fstN ⟨a, b, c⟩ 3) n) ⟨a, b, c⟩ 3) (skipK (fstN ⟨a, b, c⟩ 3) n)) := by
  have hfit := skip_fits ⟨a, b, c⟩ n
  obtain ⟨f, hF⟩ : ∃ f, fstN ⟨a, b, c⟩ 3 = f := ⟨_, rfl⟩
  rw [hF] at hfit ⊢
  unfold skipK at hfit ⊢
  by_cases hn : n < 0
  · rw [if_pos hn] at hfit ⊢
    by_cases hf : 0 < f
    · rw [if_pos hf, if_neg (show ¬ f < 0 by omega)] at hfit ⊢
      exact Skip_nlt a b c n f w ht hF hfit hn hf (by omega)
    · rw [if_neg hf] at hfit ⊢
      exact Skip_nnone a b c n f w ht hF hfit hn hf
  · rw [if_neg hn] at hfit ⊢
    by_cases hf : 0 < f
    · rw [if_pos hf] at hfit ⊢
      by_cases hl : f < n
      · rw [if_pos hl] at hfit ⊢
        exact Skip_pge a b c n f w ht hF hfit hn hf hl
      · rw [if_neg hl] at hfit ⊢
        exact Skip_plt a b c n f w ht hF hfit hn hf hl
    · rw [if_neg hf] at hfit ⊢
      exact Skip_pnone a b c n f w ht hF hfit hn hf
end Go.Proofs.Yteihadheplcccaa

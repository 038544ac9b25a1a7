/-
  P20.1: any clock with any time set, and which times run: the walk.
-/
import Derived.Test.YteihadheplcccaaAwake20
import Derived.Test.YteihadheplcccaaRefT20
import Derived.Test.YteihadheplcccaaEq20
import Derived.Deep.RegionHeld3
namespace Go.Proofs.Yteihadheplcccaa.ClockSets
set_option linter.unusedVariables false
set_option linter.unusedSimpArgs false
open Go.RowKit

theorem set_no {k : Int} (v : Int) (t : Tri) (s : Tri) (h : k < 0 ∨ 3 ≤ k) : setN k v t 3 = t := by
  show (if ((2 : Nat) : Int) = k then (if ((1 : Nat) : Int) = k then (if ((0 : Nat) : Int) = k then t.set 0 v else t).set 1 v else (if ((0 : Nat) : Int) = k then t.set 0 v else t)).set 2 v else (if ((1 : Nat) : Int) = k then (if ((0 : Nat) : Int) = k then t.set 0 v else t).set 1 v else (if ((0 : Nat) : Int) = k then t.set 0 v else t))) = t
  rw [if_neg (show ¬ ((2 : Nat) : Int) = k by omega), if_neg (show ¬ ((1 : Nat) : Int) = k by omega), if_neg (show ¬ ((0 : Nat) : Int) = k by omega)]
set_option maxRecDepth 100000 in
set_option maxHeartbeats 6400000 in
theorem w_0negt (a b c n : Int) (w : World) (hn : n < 0) (hr : 0 < a) :
    Calls Try.prog 3 #[.agg #[.int .i64 a, .int .i64 b, .int .i64 c], .int .i64 0, .int .i64 n] w fun e w' => e = .returned (.bool true) ∧ Below w.heap.size w w' := by
  have Q1 := Lib.hid (fun W => Set_0neg a b c n W hn)
  have Q2 := Lib.hid (fun W => RefSet_neg a b c 0 n W hn)
  have Q3 := Lib.hid (fun W => Runs_0t a b c W hr)
  have Q4 := Lib.hid (fun W => awake20_any W)
  have hset : setN 0 0 ⟨a, b, c⟩ 3 = ⟨0, b, c⟩ := by kernel_rfl
  rw [hset] at Q2
  unfold TriPost at Q2
  dsimp only at Q2
  obtain ⟨hb0, k1, k2, hz⟩ := box2 w (.int .i64 a) (.int .i64 b) (.int .i64 c) (.int .i64 a) (.int .i64 b) (.int .i64 c) 22 24
  obtain ⟨W0, hW0⟩ : ∃ W0, W0 = (w.alloc (.cells #[.int .i64 a, .int .i64 b, .int .i64 c] 22)).alloc (.cells #[.int .i64 a, .int .i64 b, .int .i64 c] 24) := ⟨_, rfl⟩
  rw [← hW0] at hb0 k1 k2
  have HS := Lib.hid (fun W (h : Below W0.heap.size W0 W) => And.intro (cells3 (k1.below h k1.lt)) (cells3 (k2.below h k2.lt)))
  have HBW := Lib.hid (fun W (h : Below W0.heap.size W0 W) => hb0.trans (h.mono hb0.size))
  have hbc : Below W0.heap.size W0 W0.drew := (Below.refl _ _).drew
  have HC := HS.out _ hbc
  have hq1 := fun W => eq3 0 b c W
  have hq2 := fun W => eq3 a b c W
  have hfi := fun W => field20 (.int .i64 0) (.int .i64 b) (.int .i64 c) W
  have hd : decide (0 < a) = true := by simpa using hr
  subst hW0
  clear hset hb0 k1 k2 hz hn hr
  go_enter Try.func3, Try.ntmps3
  go_wp2_with fail
  go_region_held3 (fun w' => (w'.cell? ⟨w.heap.size, 0, none⟩ = some (.int .i64 a) ∧ w'.cell? ⟨w.heap.size, 1, none⟩ = some (.int .i64 b) ∧ w'.cell? ⟨w.heap.size, 2, none⟩ = some (.int .i64 c)) ∧ w'.cell? ⟨w.heap.size + 1, 0, none⟩ = some (.int .i64 a) ∧ w'.cell? ⟨w.heap.size + 1, 1, none⟩ = some (.int .i64 b) ∧ w'.cell? ⟨w.heap.size + 1, 2, none⟩ = some (.int .i64 c)) (exact HS.out _ hbc) ((first
    | (go_at_call 7; refine (Q1.out _).mono ?_; rintro e wx ⟨rfl, hg⟩; replace hbc := hbc.trans (hg.mono hbc.size); clear hg)
    | (go_at_call 8; refine (Q2.out _).mono ?_; rintro e wx ⟨rfl, hg⟩; replace hbc := hbc.trans (hg.mono hbc.size); clear hg)
    | (go_at_call 9; refine (Q3.out _).mono ?_; rintro e wx ⟨rfl, hg⟩; replace hbc := hbc.trans (hg.mono hbc.size); clear hg)
    | (go_at_call 10; refine (Q4.out _).mono ?_; rintro e wx ⟨rfl, hg⟩; replace hbc := hbc.trans (hg.mono hbc.size); clear hg)))
  go_wp2_with fail
  go_ret
  exact ⟨rfl, HBW.out _ hbc⟩
set_option maxRecDepth 100000 in
set_option maxHeartbeats 6400000 in
theorem w_0negf (a b c n : Int) (w : World) (hn : n < 0) (hr : ¬ 0 < a) :
    Calls Try.prog 3 #[.agg #[.int .i64 a, .int .i64 b, .int .i64 c], .int .i64 0, .int .i64 n] w fun e w' => e = .returned (.bool true) ∧ Below w.heap.size w w' := by
  have Q1 := Lib.hid (fun W => Set_0neg a b c n W hn)
  have Q2 := Lib.hid (fun W => RefSet_neg a b c 0 n W hn)
  have Q3 := Lib.hid (fun W => Runs_0f a b c W hr)
  have Q4 := Lib.hid (fun W => awake20_any W)
  have hset : setN 0 0 ⟨a, b, c⟩ 3 = ⟨0, b, c⟩ := by kernel_rfl
  rw [hset] at Q2
  unfold TriPost at Q2
  dsimp only at Q2
  obtain ⟨hb0, k1, k2, hz⟩ := box2 w (.int .i64 a) (.int .i64 b) (.int .i64 c) (.int .i64 a) (.int .i64 b) (.int .i64 c) 22 24
  obtain ⟨W0, hW0⟩ : ∃ W0, W0 = (w.alloc (.cells #[.int .i64 a, .int .i64 b, .int .i64 c] 22)).alloc (.cells #[.int .i64 a, .int .i64 b, .int .i64 c] 24) := ⟨_, rfl⟩
  rw [← hW0] at hb0 k1 k2
  have HS := Lib.hid (fun W (h : Below W0.heap.size W0 W) => And.intro (cells3 (k1.below h k1.lt)) (cells3 (k2.below h k2.lt)))
  have HBW := Lib.hid (fun W (h : Below W0.heap.size W0 W) => hb0.trans (h.mono hb0.size))
  have hbc : Below W0.heap.size W0 W0.drew := (Below.refl _ _).drew
  have HC := HS.out _ hbc
  have hq1 := fun W => eq3 0 b c W
  have hq2 := fun W => eq3 a b c W
  have hfi := fun W => field20 (.int .i64 0) (.int .i64 b) (.int .i64 c) W
  have hd : decide (0 < a) = false := by simpa using hr
  subst hW0
  clear hset hb0 k1 k2 hz hn hr
  go_enter Try.func3, Try.ntmps3
  go_wp2_with fail
  go_region_held3 (fun w' => (w'.cell? ⟨w.heap.size, 0, none⟩ = some (.int .i64 a) ∧ w'.cell? ⟨w.heap.size, 1, none⟩ = some (.int .i64 b) ∧ w'.cell? ⟨w.heap.size, 2, none⟩ = some (.int .i64 c)) ∧ w'.cell? ⟨w.heap.size + 1, 0, none⟩ = some (.int .i64 a) ∧ w'.cell? ⟨w.heap.size + 1, 1, none⟩ = some (.int .i64 b) ∧ w'.cell? ⟨w.heap.size + 1, 2, none⟩ = some (.int .i64 c)) (exact HS.out _ hbc) ((first
    | (go_at_call 7; refine (Q1.out _).mono ?_; rintro e wx ⟨rfl, hg⟩; replace hbc := hbc.trans (hg.mono hbc.size); clear hg)
    | (go_at_call 8; refine (Q2.out _).mono ?_; rintro e wx ⟨rfl, hg⟩; replace hbc := hbc.trans (hg.mono hbc.size); clear hg)
    | (go_at_call 9; refine (Q3.out _).mono ?_; rintro e wx ⟨rfl, hg⟩; replace hbc := hbc.trans (hg.mono hbc.size); clear hg)
    | (go_at_call 10; refine (Q4.out _).mono ?_; rintro e wx ⟨rfl, hg⟩; replace hbc := hbc.trans (hg.mono hbc.size); clear hg)))
  go_wp2_with fail
  go_ret
  exact ⟨rfl, HBW.out _ hbc⟩
set_option maxRecDepth 100000 in
set_option maxHeartbeats 6400000 in
theorem w_0post (a b c n : Int) (w : World) (hn : ¬ n < 0) (hr : 0 < a) :
    Calls Try.prog 3 #[.agg #[.int .i64 a, .int .i64 b, .int .i64 c], .int .i64 0, .int .i64 n] w fun e w' => e = .returned (.bool true) ∧ Below w.heap.size w w' := by
  have Q1 := Lib.hid (fun W => Set_0pos a b c n W hn)
  have Q2 := Lib.hid (fun W => RefSet_pos a b c 0 n W hn)
  have Q3 := Lib.hid (fun W => Runs_0t a b c W hr)
  have Q4 := Lib.hid (fun W => awake20_any W)
  have hset : setN 0 n ⟨a, b, c⟩ 3 = ⟨n, b, c⟩ := by kernel_rfl
  rw [hset] at Q2
  unfold TriPost at Q2
  dsimp only at Q2
  obtain ⟨hb0, k1, k2, hz⟩ := box2 w (.int .i64 a) (.int .i64 b) (.int .i64 c) (.int .i64 a) (.int .i64 b) (.int .i64 c) 22 24
  obtain ⟨W0, hW0⟩ : ∃ W0, W0 = (w.alloc (.cells #[.int .i64 a, .int .i64 b, .int .i64 c] 22)).alloc (.cells #[.int .i64 a, .int .i64 b, .int .i64 c] 24) := ⟨_, rfl⟩
  rw [← hW0] at hb0 k1 k2
  have HS := Lib.hid (fun W (h : Below W0.heap.size W0 W) => And.intro (cells3 (k1.below h k1.lt)) (cells3 (k2.below h k2.lt)))
  have HBW := Lib.hid (fun W (h : Below W0.heap.size W0 W) => hb0.trans (h.mono hb0.size))
  have hbc : Below W0.heap.size W0 W0.drew := (Below.refl _ _).drew
  have HC := HS.out _ hbc
  have hq1 := fun W => eq3 n b c W
  have hq2 := fun W => eq3 a b c W
  have hfi := fun W => field20 (.int .i64 n) (.int .i64 b) (.int .i64 c) W
  have hd : decide (0 < a) = true := by simpa using hr
  subst hW0
  clear hset hb0 k1 k2 hz hn hr
  go_enter Try.func3, Try.ntmps3
  go_wp2_with fail
  go_region_held3 (fun w' => (w'.cell? ⟨w.heap.size, 0, none⟩ = some (.int .i64 a) ∧ w'.cell? ⟨w.heap.size, 1, none⟩ = some (.int .i64 b) ∧ w'.cell? ⟨w.heap.size, 2, none⟩ = some (.int .i64 c)) ∧ w'.cell? ⟨w.heap.size + 1, 0, none⟩ = some (.int .i64 a) ∧ w'.cell? ⟨w.heap.size + 1, 1, none⟩ = some (.int .i64 b) ∧ w'.cell? ⟨w.heap.size + 1, 2, none⟩ = some (.int .i64 c)) (exact HS.out _ hbc) ((first
    | (go_at_call 7; refine (Q1.out _).mono ?_; rintro e wx ⟨rfl, hg⟩; replace hbc := hbc.trans (hg.mono hbc.size); clear hg)
    | (go_at_call 8; refine (Q2.out _).mono ?_; rintro e wx ⟨rfl, hg⟩; replace hbc := hbc.trans (hg.mono hbc.size); clear hg)
    | (go_at_call 9; refine (Q3.out _).mono ?_; rintro e wx ⟨rfl, hg⟩; replace hbc := hbc.trans (hg.mono hbc.size); clear hg)
    | (go_at_call 10; refine (Q4.out _).mono ?_; rintro e wx ⟨rfl, hg⟩; replace hbc := hbc.trans (hg.mono hbc.size); clear hg)))
  go_wp2_with fail
  go_ret
  exact ⟨rfl, HBW.out _ hbc⟩
set_option maxRecDepth 100000 in
set_option maxHeartbeats 6400000 in
theorem w_0posf (a b c n : Int) (w : World) (hn : ¬ n < 0) (hr : ¬ 0 < a) :
    Calls Try.prog 3 #[.agg #[.int .i64 a, .int .i64 b, .int .i64 c], .int .i64 0, .int .i64 n] w fun e w' => e = .returned (.bool true) ∧ Below w.heap.size w w' := by
  have Q1 := Lib.hid (fun W => Set_0pos a b c n W hn)
  have Q2 := Lib.hid (fun W => RefSet_pos a b c 0 n W hn)
  have Q3 := Lib.hid (fun W => Runs_0f a b c W hr)
  have Q4 := Lib.hid (fun W => awake20_any W)
  have hset : setN 0 n ⟨a, b, c⟩ 3 = ⟨n, b, c⟩ := by kernel_rfl
  rw [hset] at Q2
  unfold TriPost at Q2
  dsimp only at Q2
  obtain ⟨hb0, k1, k2, hz⟩ := box2 w (.int .i64 a) (.int .i64 b) (.int .i64 c) (.int .i64 a) (.int .i64 b) (.int .i64 c) 22 24
  obtain ⟨W0, hW0⟩ : ∃ W0, W0 = (w.alloc (.cells #[.int .i64 a, .int .i64 b, .int .i64 c] 22)).alloc (.cells #[.int .i64 a, .int .i64 b, .int .i64 c] 24) := ⟨_, rfl⟩
  rw [← hW0] at hb0 k1 k2
  have HS := Lib.hid (fun W (h : Below W0.heap.size W0 W) => And.intro (cells3 (k1.below h k1.lt)) (cells3 (k2.below h k2.lt)))
  have HBW := Lib.hid (fun W (h : Below W0.heap.size W0 W) => hb0.trans (h.mono hb0.size))
  have hbc : Below W0.heap.size W0 W0.drew := (Below.refl _ _).drew
  have HC := HS.out _ hbc
  have hq1 := fun W => eq3 n b c W
  have hq2 := fun W => eq3 a b c W
  have hfi := fun W => field20 (.int .i64 n) (.int .i64 b) (.int .i64 c) W
  have hd : decide (0 < a) = false := by simpa using hr
  subst hW0
  clear hset hb0 k1 k2 hz hn hr
  go_enter Try.func3, Try.ntmps3
  go_wp2_with fail
  go_region_held3 (fun w' => (w'.cell? ⟨w.heap.size, 0, none⟩ = some (.int .i64 a) ∧ w'.cell? ⟨w.heap.size, 1, none⟩ = some (.int .i64 b) ∧ w'.cell? ⟨w.heap.size, 2, none⟩ = some (.int .i64 c)) ∧ w'.cell? ⟨w.heap.size + 1, 0, none⟩ = some (.int .i64 a) ∧ w'.cell? ⟨w.heap.size + 1, 1, none⟩ = some (.int .i64 b) ∧ w'.cell? ⟨w.heap.size + 1, 2, none⟩ = some (.int .i64 c)) (exact HS.out _ hbc) ((first
    | (go_at_call 7; refine (Q1.out _).mono ?_; rintro e wx ⟨rfl, hg⟩; replace hbc := hbc.trans (hg.mono hbc.size); clear hg)
    | (go_at_call 8; refine (Q2.out _).mono ?_; rintro e wx ⟨rfl, hg⟩; replace hbc := hbc.trans (hg.mono hbc.size); clear hg)
    | (go_at_call 9; refine (Q3.out _).mono ?_; rintro e wx ⟨rfl, hg⟩; replace hbc := hbc.trans (hg.mono hbc.size); clear hg)
    | (go_at_call 10; refine (Q4.out _).mono ?_; rintro e wx ⟨rfl, hg⟩; replace hbc := hbc.trans (hg.mono hbc.size); clear hg)))
  go_wp2_with fail
  go_ret
  exact ⟨rfl, HBW.out _ hbc⟩
set_option maxRecDepth 100000 in
set_option maxHeartbeats 6400000 in
theorem w_1negt (a b c n : Int) (w : World) (hn : n < 0) (hr : 0 < b) :
    Calls Try.prog 3 #[.agg #[.int .i64 a, .int .i64 b, .int .i64 c], .int .i64 1, .int .i64 n] w fun e w' => e = .returned (.bool true) ∧ Below w.heap.size w w' := by
  have Q1 := Lib.hid (fun W => Set_1neg a b c n W hn)
  have Q2 := Lib.hid (fun W => RefSet_neg a b c 1 n W hn)
  have Q3 := Lib.hid (fun W => Runs_1t a b c W hr)
  have Q4 := Lib.hid (fun W => awake20_any W)
  have hset : setN 1 0 ⟨a, b, c⟩ 3 = ⟨a, 0, c⟩ := by kernel_rfl
  rw [hset] at Q2
  unfold TriPost at Q2
  dsimp only at Q2
  obtain ⟨hb0, k1, k2, hz⟩ := box2 w (.int .i64 a) (.int .i64 b) (.int .i64 c) (.int .i64 a) (.int .i64 b) (.int .i64 c) 22 24
  obtain ⟨W0, hW0⟩ : ∃ W0, W0 = (w.alloc (.cells #[.int .i64 a, .int .i64 b, .int .i64 c] 22)).alloc (.cells #[.int .i64 a, .int .i64 b, .int .i64 c] 24) := ⟨_, rfl⟩
  rw [← hW0] at hb0 k1 k2
  have HS := Lib.hid (fun W (h : Below W0.heap.size W0 W) => And.intro (cells3 (k1.below h k1.lt)) (cells3 (k2.below h k2.lt)))
  have HBW := Lib.hid (fun W (h : Below W0.heap.size W0 W) => hb0.trans (h.mono hb0.size))
  have hbc : Below W0.heap.size W0 W0.drew := (Below.refl _ _).drew
  have HC := HS.out _ hbc
  have hq1 := fun W => eq3 a 0 c W
  have hq2 := fun W => eq3 a b c W
  have hfi := fun W => field20 (.int .i64 a) (.int .i64 0) (.int .i64 c) W
  have hd : decide (0 < b) = true := by simpa using hr
  subst hW0
  clear hset hb0 k1 k2 hz hn hr
  go_enter Try.func3, Try.ntmps3
  go_wp2_with fail
  go_region_held3 (fun w' => (w'.cell? ⟨w.heap.size, 0, none⟩ = some (.int .i64 a) ∧ w'.cell? ⟨w.heap.size, 1, none⟩ = some (.int .i64 b) ∧ w'.cell? ⟨w.heap.size, 2, none⟩ = some (.int .i64 c)) ∧ w'.cell? ⟨w.heap.size + 1, 0, none⟩ = some (.int .i64 a) ∧ w'.cell? ⟨w.heap.size + 1, 1, none⟩ = some (.int .i64 b) ∧ w'.cell? ⟨w.heap.size + 1, 2, none⟩ = some (.int .i64 c)) (exact HS.out _ hbc) ((first
    | (go_at_call 7; refine (Q1.out _).mono ?_; rintro e wx ⟨rfl, hg⟩; replace hbc := hbc.trans (hg.mono hbc.size); clear hg)
    | (go_at_call 8; refine (Q2.out _).mono ?_; rintro e wx ⟨rfl, hg⟩; replace hbc := hbc.trans (hg.mono hbc.size); clear hg)
    | (go_at_call 9; refine (Q3.out _).mono ?_; rintro e wx ⟨rfl, hg⟩; replace hbc := hbc.trans (hg.mono hbc.size); clear hg)
    | (go_at_call 10; refine (Q4.out _).mono ?_; rintro e wx ⟨rfl, hg⟩; replace hbc := hbc.trans (hg.mono hbc.size); clear hg)))
  go_wp2_with fail
  go_ret
  exact ⟨rfl, HBW.out _ hbc⟩
set_option maxRecDepth 100000 in
set_option maxHeartbeats 6400000 in
theorem w_1negf (a b c n : Int) (w : World) (hn : n < 0) (hr : ¬ 0 < b) :
    Calls Try.prog 3 #[.agg #[.int .i64 a, .int .i64 b, .int .i64 c], .int .i64 1, .int .i64 n] w fun e w' => e = .returned (.bool true) ∧ Below w.heap.size w w' := by
  have Q1 := Lib.hid (fun W => Set_1neg a b c n W hn)
  have Q2 := Lib.hid (fun W => RefSet_neg a b c 1 n W hn)
  have Q3 := Lib.hid (fun W => Runs_1f a b c W hr)
  have Q4 := Lib.hid (fun W => awake20_any W)
  have hset : setN 1 0 ⟨a, b, c⟩ 3 = ⟨a, 0, c⟩ := by kernel_rfl
  rw [hset] at Q2
  unfold TriPost at Q2
  dsimp only at Q2
  obtain ⟨hb0, k1, k2, hz⟩ := box2 w (.int .i64 a) (.int .i64 b) (.int .i64 c) (.int .i64 a) (.int .i64 b) (.int .i64 c) 22 24
  obtain ⟨W0, hW0⟩ : ∃ W0, W0 = (w.alloc (.cells #[.int .i64 a, .int .i64 b, .int .i64 c] 22)).alloc (.cells #[.int .i64 a, .int .i64 b, .int .i64 c] 24) := ⟨_, rfl⟩
  rw [← hW0] at hb0 k1 k2
  have HS := Lib.hid (fun W (h : Below W0.heap.size W0 W) => And.intro (cells3 (k1.below h k1.lt)) (cells3 (k2.below h k2.lt)))
  have HBW := Lib.hid (fun W (h : Below W0.heap.size W0 W) => hb0.trans (h.mono hb0.size))
  have hbc : Below W0.heap.size W0 W0.drew := (Below.refl _ _).drew
  have HC := HS.out _ hbc
  have hq1 := fun W => eq3 a 0 c W
  have hq2 := fun W => eq3 a b c W
  have hfi := fun W => field20 (.int .i64 a) (.int .i64 0) (.int .i64 c) W
  have hd : decide (0 < b) = false := by simpa using hr
  subst hW0
  clear hset hb0 k1 k2 hz hn hr
  go_enter Try.func3, Try.ntmps3
  go_wp2_with fail
  go_region_held3 (fun w' => (w'.cell? ⟨w.heap.size, 0, none⟩ = some (.int .i64 a) ∧ w'.cell? ⟨w.heap.size, 1, none⟩ = some (.int .i64 b) ∧ w'.cell? ⟨w.heap.size, 2, none⟩ = some (.int .i64 c)) ∧ w'.cell? ⟨w.heap.size + 1, 0, none⟩ = some (.int .i64 a) ∧ w'.cell? ⟨w.heap.size + 1, 1, none⟩ = some (.int .i64 b) ∧ w'.cell? ⟨w.heap.size + 1, 2, none⟩ = some (.int .i64 c)) (exact HS.out _ hbc) ((first
    | (go_at_call 7; refine (Q1.out _).mono ?_; rintro e wx ⟨rfl, hg⟩; replace hbc := hbc.trans (hg.mono hbc.size); clear hg)
    | (go_at_call 8; refine (Q2.out _).mono ?_; rintro e wx ⟨rfl, hg⟩; replace hbc := hbc.trans (hg.mono hbc.size); clear hg)
    | (go_at_call 9; refine (Q3.out _).mono ?_; rintro e wx ⟨rfl, hg⟩; replace hbc := hbc.trans (hg.mono hbc.size); clear hg)
    | (go_at_call 10; refine (Q4.out _).mono ?_; rintro e wx ⟨rfl, hg⟩; replace hbc := hbc.trans (hg.mono hbc.size); clear hg)))
  go_wp2_with fail
  go_ret
  exact ⟨rfl, HBW.out _ hbc⟩
set_option maxRecDepth 100000 in
set_option maxHeartbeats 6400000 in
theorem w_1post (a b c n : Int) (w : World) (hn : ¬ n < 0) (hr : 0 < b) :
    Calls Try.prog 3 #[.agg #[.int .i64 a, .int .i64 b, .int .i64 c], .int .i64 1, .int .i64 n] w fun e w' => e = .returned (.bool true) ∧ Below w.heap.size w w' := by
  have Q1 := Lib.hid (fun W => Set_1pos a b c n W hn)
  have Q2 := Lib.hid (fun W => RefSet_pos a b c 1 n W hn)
  have Q3 := Lib.hid (fun W => Runs_1t a b c W hr)
  have Q4 := Lib.hid (fun W => awake20_any W)
  have hset : setN 1 n ⟨a, b, c⟩ 3 = ⟨a, n, c⟩ := by kernel_rfl
  rw [hset] at Q2
  unfold TriPost at Q2
  dsimp only at Q2
  obtain ⟨hb0, k1, k2, hz⟩ := box2 w (.int .i64 a) (.int .i64 b) (.int .i64 c) (.int .i64 a) (.int .i64 b) (.int .i64 c) 22 24
  obtain ⟨W0, hW0⟩ : ∃ W0, W0 = (w.alloc (.cells #[.int .i64 a, .int .i64 b, .int .i64 c] 22)).alloc (.cells #[.int .i64 a, .int .i64 b, .int .i64 c] 24) := ⟨_, rfl⟩
  rw [← hW0] at hb0 k1 k2
  have HS := Lib.hid (fun W (h : Below W0.heap.size W0 W) => And.intro (cells3 (k1.below h k1.lt)) (cells3 (k2.below h k2.lt)))
  have HBW := Lib.hid (fun W (h : Below W0.heap.size W0 W) => hb0.trans (h.mono hb0.size))
  have hbc : Below W0.heap.size W0 W0.drew := (Below.refl _ _).drew
  have HC := HS.out _ hbc
  have hq1 := fun W => eq3 a n c W
  have hq2 := fun W => eq3 a b c W
  have hfi := fun W => field20 (.int .i64 a) (.int .i64 n) (.int .i64 c) W
  have hd : decide (0 < b) = true := by simpa using hr
  subst hW0
  clear hset hb0 k1 k2 hz hn hr
  go_enter Try.func3, Try.ntmps3
  go_wp2_with fail
  go_region_held3 (fun w' => (w'.cell? ⟨w.heap.size, 0, none⟩ = some (.int .i64 a) ∧ w'.cell? ⟨w.heap.size, 1, none⟩ = some (.int .i64 b) ∧ w'.cell? ⟨w.heap.size, 2, none⟩ = some (.int .i64 c)) ∧ w'.cell? ⟨w.heap.size + 1, 0, none⟩ = some (.int .i64 a) ∧ w'.cell? ⟨w.heap.size + 1, 1, none⟩ = some (.int .i64 b) ∧ w'.cell? ⟨w.heap.size + 1, 2, none⟩ = some (.int .i64 c)) (exact HS.out _ hbc) ((first
    | (go_at_call 7; refine (Q1.out _).mono ?_; rintro e wx ⟨rfl, hg⟩; replace hbc := hbc.trans (hg.mono hbc.size); clear hg)
    | (go_at_call 8; refine (Q2.out _).mono ?_; rintro e wx ⟨rfl, hg⟩; replace hbc := hbc.trans (hg.mono hbc.size); clear hg)
    | (go_at_call 9; refine (Q3.out _).mono ?_; rintro e wx ⟨rfl, hg⟩; replace hbc := hbc.trans (hg.mono hbc.size); clear hg)
    | (go_at_call 10; refine (Q4.out _).mono ?_; rintro e wx ⟨rfl, hg⟩; replace hbc := hbc.trans (hg.mono hbc.size); clear hg)))
  go_wp2_with fail
  go_ret
  exact ⟨rfl, HBW.out _ hbc⟩
set_option maxRecDepth 100000 in
set_option maxHeartbeats 6400000 in
theorem w_1posf (a b c n : Int) (w : World) (hn : ¬ n < 0) (hr : ¬ 0 < b) :
    Calls Try.prog 3 #[.agg #[.int .i64 a, .int .i64 b, .int .i64 c], .int .i64 1, .int .i64 n] w fun e w' => e = .returned (.bool true) ∧ Below w.heap.size w w' := by
  have Q1 := Lib.hid (fun W => Set_1pos a b c n W hn)
  have Q2 := Lib.hid (fun W => RefSet_pos a b c 1 n W hn)
  have Q3 := Lib.hid (fun W => Runs_1f a b c W hr)
  have Q4 := Lib.hid (fun W => awake20_any W)
  have hset : setN 1 n ⟨a, b, c⟩ 3 = ⟨a, n, c⟩ := by kernel_rfl
  rw [hset] at Q2
  unfold TriPost at Q2
  dsimp only at Q2
  obtain ⟨hb0, k1, k2, hz⟩ := box2 w (.int .i64 a) (.int .i64 b) (.int .i64 c) (.int .i64 a) (.int .i64 b) (.int .i64 c) 22 24
  obtain ⟨W0, hW0⟩ : ∃ W0, W0 = (w.alloc (.cells #[.int .i64 a, .int .i64 b, .int .i64 c] 22)).alloc (.cells #[.int .i64 a, .int .i64 b, .int .i64 c] 24) := ⟨_, rfl⟩
  rw [← hW0] at hb0 k1 k2
  have HS := Lib.hid (fun W (h : Below W0.heap.size W0 W) => And.intro (cells3 (k1.below h k1.lt)) (cells3 (k2.below h k2.lt)))
  have HBW := Lib.hid (fun W (h : Below W0.heap.size W0 W) => hb0.trans (h.mono hb0.size))
  have hbc : Below W0.heap.size W0 W0.drew := (Below.refl _ _).drew
  have HC := HS.out _ hbc
  have hq1 := fun W => eq3 a n c W
  have hq2 := fun W => eq3 a b c W
  have hfi := fun W => field20 (.int .i64 a) (.int .i64 n) (.int .i64 c) W
  have hd : decide (0 < b) = false := by simpa using hr
  subst hW0
  clear hset hb0 k1 k2 hz hn hr
  go_enter Try.func3, Try.ntmps3
  go_wp2_with fail
  go_region_held3 (fun w' => (w'.cell? ⟨w.heap.size, 0, none⟩ = some (.int .i64 a) ∧ w'.cell? ⟨w.heap.size, 1, none⟩ = some (.int .i64 b) ∧ w'.cell? ⟨w.heap.size, 2, none⟩ = some (.int .i64 c)) ∧ w'.cell? ⟨w.heap.size + 1, 0, none⟩ = some (.int .i64 a) ∧ w'.cell? ⟨w.heap.size + 1, 1, none⟩ = some (.int .i64 b) ∧ w'.cell? ⟨w.heap.size + 1, 2, none⟩ = some (.int .i64 c)) (exact HS.out _ hbc) ((first
    | (go_at_call 7; refine (Q1.out _).mono ?_; rintro e wx ⟨rfl, hg⟩; replace hbc := hbc.trans (hg.mono hbc.size); clear hg)
    | (go_at_call 8; refine (Q2.out _).mono ?_; rintro e wx ⟨rfl, hg⟩; replace hbc := hbc.trans (hg.mono hbc.size); clear hg)
    | (go_at_call 9; refine (Q3.out _).mono ?_; rintro e wx ⟨rfl, hg⟩; replace hbc := hbc.trans (hg.mono hbc.size); clear hg)
    | (go_at_call 10; refine (Q4.out _).mono ?_; rintro e wx ⟨rfl, hg⟩; replace hbc := hbc.trans (hg.mono hbc.size); clear hg)))
  go_wp2_with fail
  go_ret
  exact ⟨rfl, HBW.out _ hbc⟩
set_option maxRecDepth 100000 in
set_option maxHeartbeats 6400000 in
theorem w_2negt (a b c n : Int) (w : World) (hn : n < 0) (hr : 0 < c) :
    Calls Try.prog 3 #[.agg #[.int .i64 a, .int .i64 b, .int .i64 c], .int .i64 2, .int .i64 n] w fun e w' => e = .returned (.bool true) ∧ Below w.heap.size w w' := by
  have Q1 := Lib.hid (fun W => Set_2neg a b c n W hn)
  have Q2 := Lib.hid (fun W => RefSet_neg a b c 2 n W hn)
  have Q3 := Lib.hid (fun W => Runs_2t a b c W hr)
  have Q4 := Lib.hid (fun W => awake20_any W)
  have hset : setN 2 0 ⟨a, b, c⟩ 3 = ⟨a, b, 0⟩ := by kernel_rfl
  rw [hset] at Q2
  unfold TriPost at Q2
  dsimp only at Q2
  obtain ⟨hb0, k1, k2, hz⟩ := box2 w (.int .i64 a) (.int .i64 b) (.int .i64 c) (.int .i64 a) (.int .i64 b) (.int .i64 c) 22 24
  obtain ⟨W0, hW0⟩ : ∃ W0, W0 = (w.alloc (.cells #[.int .i64 a, .int .i64 b, .int .i64 c] 22)).alloc (.cells #[.int .i64 a, .int .i64 b, .int .i64 c] 24) := ⟨_, rfl⟩
  rw [← hW0] at hb0 k1 k2
  have HS := Lib.hid (fun W (h : Below W0.heap.size W0 W) => And.intro (cells3 (k1.below h k1.lt)) (cells3 (k2.below h k2.lt)))
  have HBW := Lib.hid (fun W (h : Below W0.heap.size W0 W) => hb0.trans (h.mono hb0.size))
  have hbc : Below W0.heap.size W0 W0.drew := (Below.refl _ _).drew
  have HC := HS.out _ hbc
  have hq1 := fun W => eq3 a b 0 W
  have hq2 := fun W => eq3 a b c W
  have hfi := fun W => field20 (.int .i64 a) (.int .i64 b) (.int .i64 0) W
  have hd : decide (0 < c) = true := by simpa using hr
  subst hW0
  clear hset hb0 k1 k2 hz hn hr
  go_enter Try.func3, Try.ntmps3
  go_wp2_with fail
  go_region_held3 (fun w' => (w'.cell? ⟨w.heap.size, 0, none⟩ = some (.int .i64 a) ∧ w'.cell? ⟨w.heap.size, 1, none⟩ = some (.int .i64 b) ∧ w'.cell? ⟨w.heap.size, 2, none⟩ = some (.int .i64 c)) ∧ w'.cell? ⟨w.heap.size + 1, 0, none⟩ = some (.int .i64 a) ∧ w'.cell? ⟨w.heap.size + 1, 1, none⟩ = some (.int .i64 b) ∧ w'.cell? ⟨w.heap.size + 1, 2, none⟩ = some (.int .i64 c)) (exact HS.out _ hbc) ((first
    | (go_at_call 7; refine (Q1.out _).mono ?_; rintro e wx ⟨rfl, hg⟩; replace hbc := hbc.trans (hg.mono hbc.size); clear hg)
    | (go_at_call 8; refine (Q2.out _).mono ?_; rintro e wx ⟨rfl, hg⟩; replace hbc := hbc.trans (hg.mono hbc.size); clear hg)
    | (go_at_call 9; refine (Q3.out _).mono ?_; rintro e wx ⟨rfl, hg⟩; replace hbc := hbc.trans (hg.mono hbc.size); clear hg)
    | (go_at_call 10; refine (Q4.out _).mono ?_; rintro e wx ⟨rfl, hg⟩; replace hbc := hbc.trans (hg.mono hbc.size); clear hg)))
  go_wp2_with fail
  go_ret
  exact ⟨rfl, HBW.out _ hbc⟩
set_option maxRecDepth 100000 in
set_option maxHeartbeats 6400000 in
theorem w_2negf (a b c n : Int) (w : World) (hn : n < 0) (hr : ¬ 0 < c) :
    Calls Try.prog 3 #[.agg #[.int .i64 a, .int .i64 b, .int .i64 c], .int .i64 2, .int .i64 n] w fun e w' => e = .returned (.bool true) ∧ Below w.heap.size w w' := by
  have Q1 := Lib.hid (fun W => Set_2neg a b c n W hn)
  have Q2 := Lib.hid (fun W => RefSet_neg a b c 2 n W hn)
  have Q3 := Lib.hid (fun W => Runs_2f a b c W hr)
  have Q4 := Lib.hid (fun W => awake20_any W)
  have hset : setN 2 0 ⟨a, b, c⟩ 3 = ⟨a, b, 0⟩ := by kernel_rfl
  rw [hset] at Q2
  unfold TriPost at Q2
  dsimp only at Q2
  obtain ⟨hb0, k1, k2, hz⟩ := box2 w (.int .i64 a) (.int .i64 b) (.int .i64 c) (.int .i64 a) (.int .i64 b) (.int .i64 c) 22 24
  obtain ⟨W0, hW0⟩ : ∃ W0, W0 = (w.alloc (.cells #[.int .i64 a, .int .i64 b, .int .i64 c] 22)).alloc (.cells #[.int .i64 a, .int .i64 b, .int .i64 c] 24) := ⟨_, rfl⟩
  rw [← hW0] at hb0 k1 k2
  have HS := Lib.hid (fun W (h : Below W0.heap.size W0 W) => And.intro (cells3 (k1.below h k1.lt)) (cells3 (k2.below h k2.lt)))
  have HBW := Lib.hid (fun W (h : Below W0.heap.size W0 W) => hb0.trans (h.mono hb0.size))
  have hbc : Below W0.heap.size W0 W0.drew := (Below.refl _ _).drew
  have HC := HS.out _ hbc
  have hq1 := fun W => eq3 a b 0 W
  have hq2 := fun W => eq3 a b c W
  have hfi := fun W => field20 (.int .i64 a) (.int .i64 b) (.int .i64 0) W
  have hd : decide (0 < c) = false := by simpa using hr
  subst hW0
  clear hset hb0 k1 k2 hz hn hr
  go_enter Try.func3, Try.ntmps3
  go_wp2_with fail
  go_region_held3 (fun w' => (w'.cell? ⟨w.heap.size, 0, none⟩ = some (.int .i64 a) ∧ w'.cell? ⟨w.heap.size, 1, none⟩ = some (.int .i64 b) ∧ w'.cell? ⟨w.heap.size, 2, none⟩ = some (.int .i64 c)) ∧ w'.cell? ⟨w.heap.size + 1, 0, none⟩ = some (.int .i64 a) ∧ w'.cell? ⟨w.heap.size + 1, 1, none⟩ = some (.int .i64 b) ∧ w'.cell? ⟨w.heap.size + 1, 2, none⟩ = some (.int .i64 c)) (exact HS.out _ hbc) ((first
    | (go_at_call 7; refine (Q1.out _).mono ?_; rintro e wx ⟨rfl, hg⟩; replace hbc := hbc.trans (hg.mono hbc.size); clear hg)
    | (go_at_call 8; refine (Q2.out _).mono ?_; rintro e wx ⟨rfl, hg⟩; replace hbc := hbc.trans (hg.mono hbc.size); clear hg)
    | (go_at_call 9; refine (Q3.out _).mono ?_; rintro e wx ⟨rfl, hg⟩; replace hbc := hbc.trans (hg.mono hbc.size); clear hg)
    | (go_at_call 10; refine (Q4.out _).mono ?_; rintro e wx ⟨rfl, hg⟩; replace hbc := hbc.trans (hg.mono hbc.size); clear hg)))
  go_wp2_with fail
  go_ret
  exact ⟨rfl, HBW.out _ hbc⟩
set_option maxRecDepth 100000 in
set_option maxHeartbeats 6400000 in
theorem w_2post (a b c n : Int) (w : World) (hn : ¬ n < 0) (hr : 0 < c) :
    Calls Try.prog 3 #[.agg #[.int .i64 a, .int .i64 b, .int .i64 c], .int .i64 2, .int .i64 n] w fun e w' => e = .returned (.bool true) ∧ Below w.heap.size w w' := by
  have Q1 := Lib.hid (fun W => Set_2pos a b c n W hn)
  have Q2 := Lib.hid (fun W => RefSet_pos a b c 2 n W hn)
  have Q3 := Lib.hid (fun W => Runs_2t a b c W hr)
  have Q4 := Lib.hid (fun W => awake20_any W)
  have hset : setN 2 n ⟨a, b, c⟩ 3 = ⟨a, b, n⟩ := by kernel_rfl
  rw [hset] at Q2
  unfold TriPost at Q2
  dsimp only at Q2
  obtain ⟨hb0, k1, k2, hz⟩ := box2 w (.int .i64 a) (.int .i64 b) (.int .i64 c) (.int .i64 a) (.int .i64 b) (.int .i64 c) 22 24
  obtain ⟨W0, hW0⟩ : ∃ W0, W0 = (w.alloc (.cells #[.int .i64 a, .int .i64 b, .int .i64 c] 22)).alloc (.cells #[.int .i64 a, .int .i64 b, .int .i64 c] 24) := ⟨_, rfl⟩
  rw [← hW0] at hb0 k1 k2
  have HS := Lib.hid (fun W (h : Below W0.heap.size W0 W) => And.intro (cells3 (k1.below h k1.lt)) (cells3 (k2.below h k2.lt)))
  have HBW := Lib.hid (fun W (h : Below W0.heap.size W0 W) => hb0.trans (h.mono hb0.size))
  have hbc : Below W0.heap.size W0 W0.drew := (Below.refl _ _).drew
  have HC := HS.out _ hbc
  have hq1 := fun W => eq3 a b n W
  have hq2 := fun W => eq3 a b c W
  have hfi := fun W => field20 (.int .i64 a) (.int .i64 b) (.int .i64 n) W
  have hd : decide (0 < c) = true := by simpa using hr
  subst hW0
  clear hset hb0 k1 k2 hz hn hr
  go_enter Try.func3, Try.ntmps3
  go_wp2_with fail
  go_region_held3 (fun w' => (w'.cell? ⟨w.heap.size, 0, none⟩ = some (.int .i64 a) ∧ w'.cell? ⟨w.heap.size, 1, none⟩ = some (.int .i64 b) ∧ w'.cell? ⟨w.heap.size, 2, none⟩ = some (.int .i64 c)) ∧ w'.cell? ⟨w.heap.size + 1, 0, none⟩ = some (.int .i64 a) ∧ w'.cell? ⟨w.heap.size + 1, 1, none⟩ = some (.int .i64 b) ∧ w'.cell? ⟨w.heap.size + 1, 2, none⟩ = some (.int .i64 c)) (exact HS.out _ hbc) ((first
    | (go_at_call 7; refine (Q1.out _).mono ?_; rintro e wx ⟨rfl, hg⟩; replace hbc := hbc.trans (hg.mono hbc.size); clear hg)
    | (go_at_call 8; refine (Q2.out _).mono ?_; rintro e wx ⟨rfl, hg⟩; replace hbc := hbc.trans (hg.mono hbc.size); clear hg)
    | (go_at_call 9; refine (Q3.out _).mono ?_; rintro e wx ⟨rfl, hg⟩; replace hbc := hbc.trans (hg.mono hbc.size); clear hg)
    | (go_at_call 10; refine (Q4.out _).mono ?_; rintro e wx ⟨rfl, hg⟩; replace hbc := hbc.trans (hg.mono hbc.size); clear hg)))
  go_wp2_with fail
  go_ret
  exact ⟨rfl, HBW.out _ hbc⟩
set_option maxRecDepth 100000 in
set_option maxHeartbeats 6400000 in
theorem w_2posf (a b c n : Int) (w : World) (hn : ¬ n < 0) (hr : ¬ 0 < c) :
    Calls Try.prog 3 #[.agg #[.int .i64 a, .int .i64 b, .int .i64 c], .int .i64 2, .int .i64 n] w fun e w' => e = .returned (.bool true) ∧ Below w.heap.size w w' := by
  have Q1 := Lib.hid (fun W => Set_2pos a b c n W hn)
  have Q2 := Lib.hid (fun W => RefSet_pos a b c 2 n W hn)
  have Q3 := Lib.hid (fun W => Runs_2f a b c W hr)
  have Q4 := Lib.hid (fun W => awake20_any W)
  have hset : setN 2 n ⟨a, b, c⟩ 3 = ⟨a, b, n⟩ := by kernel_rfl
  rw [hset] at Q2
  unfold TriPost at Q2
  dsimp only at Q2
  obtain ⟨hb0, k1, k2, hz⟩ := box2 w (.int .i64 a) (.int .i64 b) (.int .i64 c) (.int .i64 a) (.int .i64 b) (.int .i64 c) 22 24
  obtain ⟨W0, hW0⟩ : ∃ W0, W0 = (w.alloc (.cells #[.int .i64 a, .int .i64 b, .int .i64 c] 22)).alloc (.cells #[.int .i64 a, .int .i64 b, .int .i64 c] 24) := ⟨_, rfl⟩
  rw [← hW0] at hb0 k1 k2
  have HS := Lib.hid (fun W (h : Below W0.heap.size W0 W) => And.intro (cells3 (k1.below h k1.lt)) (cells3 (k2.below h k2.lt)))
  have HBW := Lib.hid (fun W (h : Below W0.heap.size W0 W) => hb0.trans (h.mono hb0.size))
  have hbc : Below W0.heap.size W0 W0.drew := (Below.refl _ _).drew
  have HC := HS.out _ hbc
  have hq1 := fun W => eq3 a b n W
  have hq2 := fun W => eq3 a b c W
  have hfi := fun W => field20 (.int .i64 a) (.int .i64 b) (.int .i64 n) W
  have hd : decide (0 < c) = false := by simpa using hr
  subst hW0
  clear hset hb0 k1 k2 hz hn hr
  go_enter Try.func3, Try.ntmps3
  go_wp2_with fail
  go_region_held3 (fun w' => (w'.cell? ⟨w.heap.size, 0, none⟩ = some (.int .i64 a) ∧ w'.cell? ⟨w.heap.size, 1, none⟩ = some (.int .i64 b) ∧ w'.cell? ⟨w.heap.size, 2, none⟩ = some (.int .i64 c)) ∧ w'.cell? ⟨w.heap.size + 1, 0, none⟩ = some (.int .i64 a) ∧ w'.cell? ⟨w.heap.size + 1, 1, none⟩ = some (.int .i64 b) ∧ w'.cell? ⟨w.heap.size + 1, 2, none⟩ = some (.int .i64 c)) (exact HS.out _ hbc) ((first
    | (go_at_call 7; refine (Q1.out _).mono ?_; rintro e wx ⟨rfl, hg⟩; replace hbc := hbc.trans (hg.mono hbc.size); clear hg)
    | (go_at_call 8; refine (Q2.out _).mono ?_; rintro e wx ⟨rfl, hg⟩; replace hbc := hbc.trans (hg.mono hbc.size); clear hg)
    | (go_at_call 9; refine (Q3.out _).mono ?_; rintro e wx ⟨rfl, hg⟩; replace hbc := hbc.trans (hg.mono hbc.size); clear hg)
    | (go_at_call 10; refine (Q4.out _).mono ?_; rintro e wx ⟨rfl, hg⟩; replace hbc := hbc.trans (hg.mono hbc.size); clear hg)))
  go_wp2_with fail
  go_ret
  exact ⟨rfl, HBW.out _ hbc⟩
set_option maxRecDepth 100000 in
set_option maxHeartbeats 6400000 in
theorem w_loneg (a b c k n : Int) (w : World) (hn : n < 0) (hk : k < 0) :
    Calls Try.prog 3 #[.agg #[.int .i64 a, .int .i64 b, .int .i64 c], .int .i64 k, .int .i64 n] w fun e w' => e = .returned (.bool true) ∧ Below w.heap.size w w' := by
  have Q1 := Lib.hid (fun W => Set_no a b c k n W (.inl hk))
  have Q2 := Lib.hid (fun W => RefSet_neg a b c k n W hn)
  have Q3 := Lib.hid (fun W => Runs_no a b c k W (.inl hk))
  have Q4 := Lib.hid (fun W => awake20_any W)
  have hset : setN k 0 ⟨a, b, c⟩ 3 = ⟨a, b, c⟩ := set_no _ _ ⟨0, 0, 0⟩ (.inl hk)
  rw [hset] at Q2
  unfold TriPost at Q2
  dsimp only at Q2
  obtain ⟨hb0, k1, k2, hz⟩ := box2 w (.int .i64 a) (.int .i64 b) (.int .i64 c) (.int .i64 a) (.int .i64 b) (.int .i64 c) 22 24
  obtain ⟨W0, hW0⟩ : ∃ W0, W0 = (w.alloc (.cells #[.int .i64 a, .int .i64 b, .int .i64 c] 22)).alloc (.cells #[.int .i64 a, .int .i64 b, .int .i64 c] 24) := ⟨_, rfl⟩
  rw [← hW0] at hb0 k1 k2
  have HS := Lib.hid (fun W (h : Below W0.heap.size W0 W) => And.intro (cells3 (k1.below h k1.lt)) (cells3 (k2.below h k2.lt)))
  have HBW := Lib.hid (fun W (h : Below W0.heap.size W0 W) => hb0.trans (h.mono hb0.size))
  have hbc : Below W0.heap.size W0 W0.drew := (Below.refl _ _).drew
  have HC := HS.out _ hbc
  have hq1 := fun W => eq3 a b c W
  have hq2 := fun W => eq3 a b c W
  have hfi := fun W => field20 (.int .i64 a) (.int .i64 b) (.int .i64 c) W
  have hd : decide (0 ≤ k) = false := by simpa using hk
  subst hW0
  clear hset hb0 k1 k2 hz hn hk
  go_enter Try.func3, Try.ntmps3
  go_wp2_with fail
  go_region_held3 (fun w' => (w'.cell? ⟨w.heap.size, 0, none⟩ = some (.int .i64 a) ∧ w'.cell? ⟨w.heap.size, 1, none⟩ = some (.int .i64 b) ∧ w'.cell? ⟨w.heap.size, 2, none⟩ = some (.int .i64 c)) ∧ w'.cell? ⟨w.heap.size + 1, 0, none⟩ = some (.int .i64 a) ∧ w'.cell? ⟨w.heap.size + 1, 1, none⟩ = some (.int .i64 b) ∧ w'.cell? ⟨w.heap.size + 1, 2, none⟩ = some (.int .i64 c)) (exact HS.out _ hbc) ((first
    | (go_at_call 7; refine (Q1.out _).mono ?_; rintro e wx ⟨rfl, hg⟩; replace hbc := hbc.trans (hg.mono hbc.size); clear hg)
    | (go_at_call 8; refine (Q2.out _).mono ?_; rintro e wx ⟨rfl, hg⟩; replace hbc := hbc.trans (hg.mono hbc.size); clear hg)
    | (go_at_call 9; refine (Q3.out _).mono ?_; rintro e wx ⟨rfl, hg⟩; replace hbc := hbc.trans (hg.mono hbc.size); clear hg)
    | (go_at_call 10; refine (Q4.out _).mono ?_; rintro e wx ⟨rfl, hg⟩; replace hbc := hbc.trans (hg.mono hbc.size); clear hg)))
  go_wp2_with fail
  go_ret
  exact ⟨rfl, HBW.out _ hbc⟩
set_option maxRecDepth 100000 in
set_option maxHeartbeats 6400000 in
theorem w_lopos (a b c k n : Int) (w : World) (hn : ¬ n < 0) (hk : k < 0) :
    Calls Try.prog 3 #[.agg #[.int .i64 a, .int .i64 b, .int .i64 c], .int .i64 k, .int .i64 n] w fun e w' => e = .returned (.bool true) ∧ Below w.heap.size w w' := by
  have Q1 := Lib.hid (fun W => Set_no a b c k n W (.inl hk))
  have Q2 := Lib.hid (fun W => RefSet_pos a b c k n W hn)
  have Q3 := Lib.hid (fun W => Runs_no a b c k W (.inl hk))
  have Q4 := Lib.hid (fun W => awake20_any W)
  have hset : setN k n ⟨a, b, c⟩ 3 = ⟨a, b, c⟩ := set_no _ _ ⟨0, 0, 0⟩ (.inl hk)
  rw [hset] at Q2
  unfold TriPost at Q2
  dsimp only at Q2
  obtain ⟨hb0, k1, k2, hz⟩ := box2 w (.int .i64 a) (.int .i64 b) (.int .i64 c) (.int .i64 a) (.int .i64 b) (.int .i64 c) 22 24
  obtain ⟨W0, hW0⟩ : ∃ W0, W0 = (w.alloc (.cells #[.int .i64 a, .int .i64 b, .int .i64 c] 22)).alloc (.cells #[.int .i64 a, .int .i64 b, .int .i64 c] 24) := ⟨_, rfl⟩
  rw [← hW0] at hb0 k1 k2
  have HS := Lib.hid (fun W (h : Below W0.heap.size W0 W) => And.intro (cells3 (k1.below h k1.lt)) (cells3 (k2.below h k2.lt)))
  have HBW := Lib.hid (fun W (h : Below W0.heap.size W0 W) => hb0.trans (h.mono hb0.size))
  have hbc : Below W0.heap.size W0 W0.drew := (Below.refl _ _).drew
  have HC := HS.out _ hbc
  have hq1 := fun W => eq3 a b c W
  have hq2 := fun W => eq3 a b c W
  have hfi := fun W => field20 (.int .i64 a) (.int .i64 b) (.int .i64 c) W
  have hd : decide (0 ≤ k) = false := by simpa using hk
  subst hW0
  clear hset hb0 k1 k2 hz hn hk
  go_enter Try.func3, Try.ntmps3
  go_wp2_with fail
  go_region_held3 (fun w' => (w'.cell? ⟨w.heap.size, 0, none⟩ = some (.int .i64 a) ∧ w'.cell? ⟨w.heap.size, 1, none⟩ = some (.int .i64 b) ∧ w'.cell? ⟨w.heap.size, 2, none⟩ = some (.int .i64 c)) ∧ w'.cell? ⟨w.heap.size + 1, 0, none⟩ = some (.int .i64 a) ∧ w'.cell? ⟨w.heap.size + 1, 1, none⟩ = some (.int .i64 b) ∧ w'.cell? ⟨w.heap.size + 1, 2, none⟩ = some (.int .i64 c)) (exact HS.out _ hbc) ((first
    | (go_at_call 7; refine (Q1.out _).mono ?_; rintro e wx ⟨rfl, hg⟩; replace hbc := hbc.trans (hg.mono hbc.size); clear hg)
    | (go_at_call 8; refine (Q2.out _).mono ?_; rintro e wx ⟨rfl, hg⟩; replace hbc := hbc.trans (hg.mono hbc.size); clear hg)
    | (go_at_call 9; refine (Q3.out _).mono ?_; rintro e wx ⟨rfl, hg⟩; replace hbc := hbc.trans (hg.mono hbc.size); clear hg)
    | (go_at_call 10; refine (Q4.out _).mono ?_; rintro e wx ⟨rfl, hg⟩; replace hbc := hbc.trans (hg.mono hbc.size); clear hg)))
  go_wp2_with fail
  go_ret
  exact ⟨rfl, HBW.out _ hbc⟩
set_option maxRecDepth 100000 in
set_option maxHeartbeats 6400000 in
theorem w_hineg (a b c k n : Int) (w : World) (hn : n < 0) (hk : 3 ≤ k) :
    Calls Try.prog 3 #[.agg #[.int .i64 a, .int .i64 b, .int .i64 c], .int .i64 k, .int .i64 n] w fun e w' => e = .returned (.bool true) ∧ Below w.heap.size w w' := by
  have Q1 := Lib.hid (fun W => Set_no a b c k n W (.inr hk))
  have Q2 := Lib.hid (fun W => RefSet_neg a b c k n W hn)
  have Q3 := Lib.hid (fun W => Runs_no a b c k W (.inr hk))
  have Q4 := Lib.hid (fun W => awake20_any W)
  have hset : setN k 0 ⟨a, b, c⟩ 3 = ⟨a, b, c⟩ := set_no _ _ ⟨0, 0, 0⟩ (.inr hk)
  rw [hset] at Q2
  unfold TriPost at Q2
  dsimp only at Q2
  obtain ⟨hb0, k1, k2, hz⟩ := box2 w (.int .i64 a) (.int .i64 b) (.int .i64 c) (.int .i64 a) (.int .i64 b) (.int .i64 c) 22 24
  obtain ⟨W0, hW0⟩ : ∃ W0, W0 = (w.alloc (.cells #[.int .i64 a, .int .i64 b, .int .i64 c] 22)).alloc (.cells #[.int .i64 a, .int .i64 b, .int .i64 c] 24) := ⟨_, rfl⟩
  rw [← hW0] at hb0 k1 k2
  have HS := Lib.hid (fun W (h : Below W0.heap.size W0 W) => And.intro (cells3 (k1.below h k1.lt)) (cells3 (k2.below h k2.lt)))
  have HBW := Lib.hid (fun W (h : Below W0.heap.size W0 W) => hb0.trans (h.mono hb0.size))
  have hbc : Below W0.heap.size W0 W0.drew := (Below.refl _ _).drew
  have HC := HS.out _ hbc
  have hq1 := fun W => eq3 a b c W
  have hq2 := fun W => eq3 a b c W
  have hfi := fun W => field20 (.int .i64 a) (.int .i64 b) (.int .i64 c) W
  have hd0 : 0 ≤ k := by omega
  have hd : decide (k < 3) = false := by simpa using hk
  subst hW0
  clear hset hb0 k1 k2 hz hn hk
  go_enter Try.func3, Try.ntmps3
  go_wp2_with fail
  go_region_held3 (fun w' => (w'.cell? ⟨w.heap.size, 0, none⟩ = some (.int .i64 a) ∧ w'.cell? ⟨w.heap.size, 1, none⟩ = some (.int .i64 b) ∧ w'.cell? ⟨w.heap.size, 2, none⟩ = some (.int .i64 c)) ∧ w'.cell? ⟨w.heap.size + 1, 0, none⟩ = some (.int .i64 a) ∧ w'.cell? ⟨w.heap.size + 1, 1, none⟩ = some (.int .i64 b) ∧ w'.cell? ⟨w.heap.size + 1, 2, none⟩ = some (.int .i64 c)) (exact HS.out _ hbc) ((first
    | (go_at_call 7; refine (Q1.out _).mono ?_; rintro e wx ⟨rfl, hg⟩; replace hbc := hbc.trans (hg.mono hbc.size); clear hg)
    | (go_at_call 8; refine (Q2.out _).mono ?_; rintro e wx ⟨rfl, hg⟩; replace hbc := hbc.trans (hg.mono hbc.size); clear hg)
    | (go_at_call 9; refine (Q3.out _).mono ?_; rintro e wx ⟨rfl, hg⟩; replace hbc := hbc.trans (hg.mono hbc.size); clear hg)
    | (go_at_call 10; refine (Q4.out _).mono ?_; rintro e wx ⟨rfl, hg⟩; replace hbc := hbc.trans (hg.mono hbc.size); clear hg)))
  go_wp2_with fail
  go_ret
  exact ⟨rfl, HBW.out _ hbc⟩
set_option maxRecDepth 100000 in
set_option maxHeartbeats 6400000 in
theorem w_hipos (a b c k n : Int) (w : World) (hn : ¬ n < 0) (hk : 3 ≤ k) :
    Calls Try.prog 3 #[.agg #[.int .i64 a, .int .i64 b, .int .i64 c], .int .i64 k, .int .i64 n] w fun e w' => e = .returned (.bool true) ∧ Below w.heap.size w w' := by
  have Q1 := Lib.hid (fun W => Set_no a b c k n W (.inr hk))
  have Q2 := Lib.hid (fun W => RefSet_pos a b c k n W hn)
  have Q3 := Lib.hid (fun W => Runs_no a b c k W (.inr hk))
  have Q4 := Lib.hid (fun W => awake20_any W)
  have hset : setN k n ⟨a, b, c⟩ 3 = ⟨a, b, c⟩ := set_no _ _ ⟨0, 0, 0⟩ (.inr hk)
  rw [hset] at Q2
  unfold TriPost at Q2
  dsimp only at Q2
  obtain ⟨hb0, k1, k2, hz⟩ := box2 w (.int .i64 a) (.int .i64 b) (.int .i64 c) (.int .i64 a) (.int .i64 b) (.int .i64 c) 22 24
  obtain ⟨W0, hW0⟩ : ∃ W0, W0 = (w.alloc (.cells #[.int .i64 a, .int .i64 b, .int .i64 c] 22)).alloc (.cells #[.int .i64 a, .int .i64 b, .int .i64 c] 24) := ⟨_, rfl⟩
  rw [← hW0] at hb0 k1 k2
  have HS := Lib.hid (fun W (h : Below W0.heap.size W0 W) => And.intro (cells3 (k1.below h k1.lt)) (cells3 (k2.below h k2.lt)))
  have HBW := Lib.hid (fun W (h : Below W0.heap.size W0 W) => hb0.trans (h.mono hb0.size))
  have hbc : Below W0.heap.size W0 W0.drew := (Below.refl _ _).drew
  have HC := HS.out _ hbc
  have hq1 := fun W => eq3 a b c W
  have hq2 := fun W => eq3 a b c W
  have hfi := fun W => field20 (.int .i64 a) (.int .i64 b) (.int .i64 c) W
  have hd0 : 0 ≤ k := by omega
  have hd : decide (k < 3) = false := by simpa using hk
  subst hW0
  clear hset hb0 k1 k2 hz hn hk
  go_enter Try.func3, Try.ntmps3
  go_wp2_with fail
  go_region_held3 (fun w' => (w'.cell? ⟨w.heap.size, 0, none⟩ = some (.int .i64 a) ∧ w'.cell? ⟨w.heap.size, 1, none⟩ = some (.int .i64 b) ∧ w'.cell? ⟨w.heap.size, 2, none⟩ = some (.int .i64 c)) ∧ w'.cell? ⟨w.heap.size + 1, 0, none⟩ = some (.int .i64 a) ∧ w'.cell? ⟨w.heap.size + 1, 1, none⟩ = some (.int .i64 b) ∧ w'.cell? ⟨w.heap.size + 1, 2, none⟩ = some (.int .i64 c)) (exact HS.out _ hbc) ((first
    | (go_at_call 7; refine (Q1.out _).mono ?_; rintro e wx ⟨rfl, hg⟩; replace hbc := hbc.trans (hg.mono hbc.size); clear hg)
    | (go_at_call 8; refine (Q2.out _).mono ?_; rintro e wx ⟨rfl, hg⟩; replace hbc := hbc.trans (hg.mono hbc.size); clear hg)
    | (go_at_call 9; refine (Q3.out _).mono ?_; rintro e wx ⟨rfl, hg⟩; replace hbc := hbc.trans (hg.mono hbc.size); clear hg)
    | (go_at_call 10; refine (Q4.out _).mono ?_; rintro e wx ⟨rfl, hg⟩; replace hbc := hbc.trans (hg.mono hbc.size); clear hg)))
  go_wp2_with fail
  go_ret
  exact ⟨rfl, HBW.out _ hbc⟩
theorem walk (a b c k n : Int) (w : World) :
    Calls Try.prog 3 #[.agg #[.int .i64 a, .int .i64 b, .int .i64 c], .int .i64 k, .int .i64 n] w fun e w' => e = .returned (.bool true) ∧ Below w.heap.size w w' := by
  rcases (show k < 0 ∨ k = 0 ∨ k = 1 ∨ k = 2 ∨ 3 ≤ k by omega) with hk | rfl | rfl | rfl | hk
  · by_cases hn : n < 0
    · exact w_loneg a b c k n w hn hk
    · exact w_lopos a b c k n w hn hk
  · by_cases hn : n < 0
    · by_cases hr : 0 < a
      · exact w_0negt a b c n w hn hr
      · exact w_0negf a b c n w hn hr
    · by_cases hr : 0 < a
      · exact w_0post a b c n w hn hr
      · exact w_0posf a b c n w hn hr
  · by_cases hn : n < 0
    · by_cases hr : 0 < b
      · exact w_1negt a b c n w hn hr
      · exact w_1negf a b c n w hn hr
    · by_cases hr : 0 < b
      · exact w_1post a b c n w hn hr
      · exact w_1posf a b c n w hn hr
  · by_cases hn : n < 0
    · by_cases hr : 0 < c
      · exact w_2negt a b c n w hn hr
      · exact w_2negf a b c n w hn hr
    · by_cases hr : 0 < c
      · exact w_2post a b c n w hn hr
      · exact w_2posf a b c n w hn hr
  · by_cases hn : n < 0
    · exact w_hineg a b c k n w hn hk
    · exact w_hipos a b c k n w hn hk
end Go.Proofs.Yteihadheplcccaa.ClockSets

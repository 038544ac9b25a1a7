/-
  Which of two prefixes comes first; the document's answer, the program's pieces.
-/
import Derived.Test.YtfdeafjkiagjfaaDoorCovers
import Derived.WalkLawsBesides
namespace Go.Proofs.YtfdeafjkiagjfaaDoor
set_option linter.unusedVariables false
set_option linter.unusedSimpArgs false
open Go.RowKit

/-- Which of two numbers comes first. -/
def cmpI (x y : Int) : Int := if x < y then -1 else if y < x then 1 else 0
/-- Which of two prefixes comes first. -/
def cmpP (a n b m : Int) : Int := if cmpI a b = 0 then cmpI n m else cmpI a b
theorem cmpI_lt {x y : Int} (h : x < y) : cmpI x y = -1 := by unfold cmpI; rw [if_pos h]
theorem cmpI_gt {x y : Int} (h : y < x) : cmpI x y = 1 := by unfold cmpI; rw [if_neg (by omega), if_pos h]
theorem cmpI_eq (x : Int) : cmpI x x = 0 := by unfold cmpI; rw [if_neg (by omega), if_neg (by omega)]
theorem cmpP_lt {a b : Int} (n m : Int) (h : a < b) : cmpP a n b m = -1 := by unfold cmpP; rw [cmpI_lt h]; rfl
theorem cmpP_gt {a b : Int} (n m : Int) (h : b < a) : cmpP a n b m = 1 := by unfold cmpP; rw [cmpI_gt h]; rfl
theorem cmpP_eq (a n m : Int) : cmpP a n a m = cmpI n m := by unfold cmpP; rw [cmpI_eq]; rfl

def RetI (w : World) (v : Int) (e : Ending) (w' : World) : Prop := e = .returned (.int .i64 v) ∧ Below w.heap.size w w'

theorem below_two (w : World) (o q : Obj) : Below w.heap.size w ((w.alloc o).alloc q) := below_box (below_box (Below.refl _ _))

set_option maxHeartbeats 800000 in
theorem RefCompare_any (a b : Nat) (n m : Int) (w : World) (ha : a < 4294967296) (hb : b < 4294967296) :
    Calls Tryd.prog 23 #[.agg #[.int .u32 (a : Int), .int .i64 n], .agg #[.int .u32 (b : Int), .int .i64 m]] w (RetI w (cmpP (a : Int) n (b : Int) m)) := by
  rcases (show a < b ∨ b < a ∨ a = b by omega) with h | h | rfl
  · have e1 := Lib.hid (cmpP_lt n m (show (a : Int) < (b : Int) by omega))
    have hne : ¬ a = b := by omega
    go_enter Tryd.func23, Tryd.ntmps23
    go_wp2_with fail
    go_ret
    exact ⟨by rw [e1.out]; rfl, below_two _ _ _⟩
  · have e1 := Lib.hid (cmpP_gt n m (show (b : Int) < (a : Int) by omega))
    have hne : ¬ a = b := by omega
    have hnl : ¬ a < b := by omega
    go_enter Tryd.func23, Tryd.ntmps23
    go_wp2_with fail
    go_ret
    exact ⟨by rw [e1.out]; rfl, below_two _ _ _⟩
  · have e0 := cmpP_eq (a : Int) n m
    rcases (show n < m ∨ m < n ∨ n = m by omega) with h | h | rfl
    · rw [cmpI_lt h] at e0
      have e1 := Lib.hid e0; clear e0
      go_enter Tryd.func23, Tryd.ntmps23
      go_wp2_with fail
      go_ret
      exact ⟨by rw [e1.out]; rfl, below_two _ _ _⟩
    · rw [cmpI_gt h] at e0
      have e1 := Lib.hid e0; clear e0
      have hnl : ¬ n < m := by omega
      go_enter Tryd.func23, Tryd.ntmps23
      go_wp2_with fail
      go_ret
      exact ⟨by rw [e1.out]; rfl, below_two _ _ _⟩
    · rw [cmpI_eq] at e0
      have e1 := Lib.hid e0; clear e0
      go_enter Tryd.func23, Tryd.ntmps23
      go_wp2_with fail
      go_ret
      exact ⟨by rw [e1.out]; rfl, below_two _ _ _⟩

theorem CmpU_any (a b : Nat) (w : World) : Calls Tryd.prog 42 #[.int .u32 (a : Int), .int .u32 (b : Int)] w fun e w' => e = .returned (.int .i64 (cmpI (a : Int) (b : Int))) ∧ w = w' := by
  rcases (show a < b ∨ b < a ∨ a = b by omega) with h | h | rfl
  · have e1 := Lib.hid (cmpI_lt (show (a : Int) < (b : Int) by omega))
    go_enter Tryd.func42, Tryd.ntmps42
    go_wp2
    go_ret
    exact ⟨by rw [e1.out]; rfl, rfl⟩
  · have e1 := Lib.hid (cmpI_gt (show (b : Int) < (a : Int) by omega))
    have hnl : ¬ a < b := by omega
    go_enter Tryd.func42, Tryd.ntmps42
    go_wp2
    go_ret
    exact ⟨by rw [e1.out]; rfl, rfl⟩
  · have e1 := Lib.hid (cmpI_eq (a : Int))
    go_enter Tryd.func42, Tryd.ntmps42
    go_wp2
    go_ret
    exact ⟨by rw [e1.out]; rfl, rfl⟩

theorem CmpI_any (a b : Int) (w : World) : Calls Tryd.prog 43 #[.int .i64 a, .int .i64 b] w fun e w' => e = .returned (.int .i64 (cmpI a b)) ∧ w = w' := by
  rcases (show a < b ∨ b < a ∨ a = b by omega) with h | h | rfl
  · have e1 := Lib.hid (cmpI_lt h)
    go_enter Tryd.func43, Tryd.ntmps43
    go_wp2
    go_ret
    exact ⟨by rw [e1.out]; rfl, rfl⟩
  · have e1 := Lib.hid (cmpI_gt h)
    have hnl : ¬ a < b := by omega
    go_enter Tryd.func43, Tryd.ntmps43
    go_wp2
    go_ret
    exact ⟨by rw [e1.out]; rfl, rfl⟩
  · have e1 := Lib.hid (cmpI_eq a)
    go_enter Tryd.func43, Tryd.ntmps43
    go_wp2
    go_ret
    exact ⟨by rw [e1.out]; rfl, rfl⟩

theorem Or_any (k : Nat) (x y : Int) (w : World) (h0 : w.cell? ⟨k, 0, none⟩ = some (.int .i64 x)) (h1 : w.cell? ⟨k, 1, none⟩ = some (.int .i64 y)) :
    Calls Tryd.prog 41 #[.slice (some ⟨k, 0, none⟩) 2 2] w fun e w' => e = .returned (.int .i64 (if x = 0 then y else x)) ∧ w = w' := by
  go_enter Tryd.func41, Tryd.ntmps41
  go_wp2_with fail
  go_loop [5, 8] (fun _ i => ∃ j : Nat, j ≤ 2 ∧ i = .int .i64 (j : Int) ∧ (0 < j → x = 0) ∧ (1 < j → y = 0)) (fun _ i => 2 - (intOf i).toNat)
  case atStart => exact ⟨0, by omega, rfl, by omega, by omega⟩
  case round =>
    obtain ⟨j, hj, rfl, hx, hy⟩ := hrel
    rcases (show j = 0 ∨ j = 1 ∨ j = 2 by omega) with rfl | rfl | rfl
    · by_cases hx0 : x = 0
      · have hX := Lib.hid hx0
        subst hx0
        clear hx hy
        go_wp2
        go_round
        case rel => exact ⟨1, by omega, rfl, by simp, by omega⟩
        case measure => simp [intOf]
      · clear hx hy
        go_wp2
        go_ret
        exact ⟨rfl, rfl⟩
    · obtain rfl := hx (by omega)
      by_cases hy0 : y = 0
      · subst hy0
        clear hx hy
        go_wp2
        go_round
        case rel => exact ⟨2, by omega, rfl, by simp, by simp⟩
        case measure => simp [intOf]
      · clear hx hy
        go_wp2
        go_ret
        exact ⟨rfl, rfl⟩
    · obtain rfl := hx (by omega)
      obtain rfl := hy (by omega)
      clear hx hy
      go_wp2
      go_ret
      exact ⟨rfl, rfl⟩
end Go.Proofs.YtfdeafjkiagjfaaDoor

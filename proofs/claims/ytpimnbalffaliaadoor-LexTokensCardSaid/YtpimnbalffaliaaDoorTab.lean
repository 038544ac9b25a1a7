/-
  The table of digits; what a sign counts.
-/
import Derived.Test.YtpimnbalffaliaaDoorSeat
import Derived.Test.YtpimnbalffaliaaDoorDec
namespace Go.Proofs.YtpimnbalffaliaaDoor
open Go.RowKit

def tabCells : Array Value := #[.int .u8 48, .int .u8 49, .int .u8 50, .int .u8 51, .int .u8 52, .int .u8 53, .int .u8 54, .int .u8 55, .int .u8 56, .int .u8 57, .int .u8 97, .int .u8 98, .int .u8 99, .int .u8 100, .int .u8 101, .int .u8 102]
/-- The table lies in its block. -/
def Tab (w : World) : Prop := ∃ t fr, w.heap[3]? = some (.cells tabCells t fr)
theorem Tab.lt {w : World} (h : Tab w) : 3 < w.heap.size := by obtain ⟨_, _, h⟩ := h; exact (Array.getElem?_eq_some_iff.1 h).1
theorem Tab.below {w w' : World} {B : Nat} (h : Tab w) (hb : Below B w w') (hB : 3 < B) : Tab w' := by
  obtain ⟨t, fr, h⟩ := h
  exact ⟨t, fr, (hb.block _ hB).trans h⟩
theorem Tab.grown {w w' : World} {g : Nat} (h : Tab w) (hb : w.grownBy w' (some g)) (hg : 3 ≠ g) : Tab w' := by
  have hl := h.lt
  obtain ⟨t, fr, h⟩ := h
  exact ⟨t, fr, (hb.block _ hl (by simpa using hg)).trans h⟩
theorem tab_at : ∀ i, i < 16 → tabCells[i]? = some (.int .u8 ((dg i).toNat : Int)) := by
  intro i hi
  rcases (show i = 0 ∨ i = 1 ∨ i = 2 ∨ i = 3 ∨ i = 4 ∨ i = 5 ∨ i = 6 ∨ i = 7 ∨ i = 8 ∨ i = 9 ∨ i = 10 ∨ i = 11 ∨ i = 12 ∨ i = 13 ∨ i = 14 ∨ i = 15 by omega) with rfl | rfl | rfl | rfl | rfl | rfl | rfl | rfl | rfl | rfl | rfl | rfl | rfl | rfl | rfl | rfl <;> rfl
theorem Tab.cell {w : World} (h : Tab w) {i : Nat} (hi : i < 16) : w.cell? ⟨3, i, none⟩ = some (.int .u8 ((dg i).toNat : Int)) := by
  obtain ⟨t, fr, h⟩ := h
  rw [cell_of_row w _ i _ t fr h]
  exact tab_at i hi
theorem tab_index (k : Nat) (hk : k < 16) (w : World) : (Instr.index 96 (.agg tabCells) (.int .i64 (k : Int))).run Tryd.prog w = .ok (.int .u8 ((dg k).toNat : Int)) w := by
  rcases (show k = 0 ∨ k = 1 ∨ k = 2 ∨ k = 3 ∨ k = 4 ∨ k = 5 ∨ k = 6 ∨ k = 7 ∨ k = 8 ∨ k = 9 ∨ k = 10 ∨ k = 11 ∨ k = 12 ∨ k = 13 ∨ k = 14 ∨ k = 15 by omega) with rfl | rfl | rfl | rfl | rfl | rfl | rfl | rfl | rfl | rfl | rfl | rfl | rfl | rfl | rfl | rfl <;> kernel_rfl
theorem digFrom_at (k : Nat) (hk : k < 16) (c : UInt8) : digFrom (hexd.drop k) k c = if dg k == c then (k : Int) else digFrom (hexd.drop (k + 1)) (k + 1) c := by
  rcases (show k = 0 ∨ k = 1 ∨ k = 2 ∨ k = 3 ∨ k = 4 ∨ k = 5 ∨ k = 6 ∨ k = 7 ∨ k = 8 ∨ k = 9 ∨ k = 10 ∨ k = 11 ∨ k = 12 ∨ k = 13 ∨ k = 14 ∨ k = 15 by omega) with rfl | rfl | rfl | rfl | rfl | rfl | rfl | rfl | rfl | rfl | rfl | rfl | rfl | rfl | rfl | rfl <;> rfl
set_option maxHeartbeats 1600000 in
set_option maxRecDepth 100000 in
theorem digit_any (c : UInt8) (w : World) (h : Tab w) :
    Calls Tryd.prog 62 #[.int .u8 (c.toNat : Int)] w fun e w' => e = .returned (.int .i64 (digitOf c)) ∧ w = w' := by
  obtain ⟨tt, fr, hrow⟩ := h
  have HR := Lib.hid hrow; clear hrow
  go_enter Tryd.func62, Tryd.ntmps62
  go_wp2_with (refine wpList_load_row rfl 96 _ rfl 3 rfl tt _ fr _ HR.out Tryd.underlying96 rfl (by kernel_rfl) ?_)
  go_loop [3, 4, 6] (fun _ _ i => ∃ k : Nat, k ≤ 16 ∧ i = .int .i64 (k : Int) ∧ digitOf c = digFrom (hexd.drop k) k c) (fun _ _ i => 16 - (intOf i).toNat)
  case atStart => exact ⟨0, by omega, rfl, rfl⟩
  case round =>
    obtain ⟨k, hk, rfl, hd⟩ := hrel
    have HD := Lib.hid hd; clear hd
    by_cases hlt : k < 16
    · have hix := tab_index k hlt w
      have H0 := Lib.hid (digFrom_at k hlt c)
      by_cases hc : dg k = c
      · have hb : (((dg k).toNat : Int) == (c.toNat : Int)) = true := by rw [hc]; simp
        have HC := Lib.hid hc; clear hc
        go_wp2
        go_ret
        exact ⟨by rw [HD.out, H0.out, if_pos (by simpa using HC.out)]; rfl, rfl⟩
      · have hb : (((dg k).toNat : Int) == (c.toNat : Int)) = false := by
          simp only [beq_eq_false_iff_ne, ne_eq]
          intro e
          exact hc (UInt8.toNat_inj.1 (by omega))
        have HC := Lib.hid hc; clear hc
        go_wp2
        go_round
        case rel => exact ⟨k + 1, by omega, by go_num, by rw [HD.out, H0.out, if_neg (by simpa using HC.out)]⟩
        case measure => simp [intOf]; omega
    · obtain rfl : k = 16 := by omega
      go_wp2
      go_ret
      exact ⟨by rw [HD.out]; rfl, rfl⟩
end Go.Proofs.YtpimnbalffaliaaDoor

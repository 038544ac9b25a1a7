/-
  prefix's Covers (the walks are written by gen02.py).
-/
import Derived.Test.YtcjeifpdikojlaaDoorHolds
namespace Go.Proofs.YtcjeifpdikojlaaDoor
set_option linter.unusedVariables false
set_option linter.unusedSimpArgs false
open Go.RowKit

/-- Does a prefix cover another? -/
def coversB (a n : Int) (b : Nat) (m : Int) : Bool := okP (b : Int) m && (decide (n ≤ m) && holdsB a n b)

theorem box2_cells (w : World) (u v x y : Value) {w' : World} (hb : Below ((w.alloc (.cells #[u, v] 33)).alloc (.cells #[x, y] 33)).heap.size ((w.alloc (.cells #[u, v] 33)).alloc (.cells #[x, y] 33)) w') :
    (w'.cell? ⟨w.heap.size, 0, none⟩ = some u ∧ w'.cell? ⟨w.heap.size, 1, none⟩ = some v) ∧ w'.cell? ⟨w.heap.size + 1, 0, none⟩ = some x ∧ w'.cell? ⟨w.heap.size + 1, 1, none⟩ = some y := by
  have h2 := box_cells (w.alloc (.cells #[u, v] 33)) x y hb
  have h1 := box_cells w u v (below_box hb)
  have e : (w.alloc (.cells #[u, v] 33)).heap.size = w.heap.size + 1 := by simp
  rw [e] at h2
  exact ⟨h1, h2⟩

set_option maxHeartbeats 1600000 in
theorem Covers_any (a b : Nat) (n m : Int) (w : World) (ha : a < 4294967296) (hb : b < 4294967296) (h0 : -9223372036854775808 ≤ n) (h1 : n ≤ 9223372036854775807) (h2 : -9223372036854775808 ≤ m) (h3 : m ≤ 9223372036854775807) :
    Calls Tryd.prog 45 #[.agg #[.int .u32 (a : Int), .int .i64 n], .agg #[.int .u32 (b : Int), .int .i64 m]] w (RetBool w (coversB (a : Int) n b m)) := by
  have QR := fun w => Lib.hid (Right_any b m w hb h2 h3)
  have QH := fun w => Lib.hid (Holds_any a n b w ha hb h0 h1)
  have HS := Lib.hid (fun w' hb => box2_cells w (.int .u32 (a : Int)) (.int .i64 n) (.int .u32 (b : Int)) (.int .i64 m) (w' := w') hb)
  have hb0 : Below ((w.alloc (.cells #[.int .u32 (a : Int), .int .i64 n] 33)).alloc (.cells #[.int .u32 (b : Int), .int .i64 m] 33)).heap.size ((w.alloc (.cells #[.int .u32 (a : Int), .int .i64 n] 33)).alloc (.cells #[.int .u32 (b : Int), .int .i64 m] 33)) ((w.alloc (.cells #[.int .u32 (a : Int), .int .i64 n] 33)).alloc (.cells #[.int .u32 (b : Int), .int .i64 m] 33)) := Below.refl _ _
  cases hok : okP (b : Int) m with
  | false =>
    rw [hok] at QR
    have e1 := Lib.hid (show coversB (a : Int) n b m = false by unfold coversB; rw [hok]; rfl)
    clear hok
    go_enter Tryd.func45, Tryd.ntmps45
    go_wp2_with fail
    refine (QR _).out.mono ?_
    rintro e w1 ⟨rfl, hb1'⟩
    have hb1 := hb0.trans (hb1'.mono hb0.size)
    have HC1 := HS.out _ hb1
    go_wp2_with fail
    go_ret
    exact ⟨by rw [e1.out]; rfl, below_box (below_box hb1)⟩
  | true =>
    rw [hok] at QR
    cases hd : decide (n ≤ m) with
    | false =>
      have e1 := Lib.hid (show coversB (a : Int) n b m = false by unfold coversB; rw [hok, hd]; rfl)
      clear hok
      go_enter Tryd.func45, Tryd.ntmps45
      go_wp2_with fail
      refine (QR _).out.mono ?_
      rintro e w1 ⟨rfl, hb1'⟩
      have hb1 := hb0.trans (hb1'.mono hb0.size)
      have HC1 := HS.out _ hb1
      go_wp2_with fail
      go_ret
      exact ⟨by rw [e1.out]; rfl, below_box (below_box hb1)⟩
    | true =>
      have e1 := Lib.hid (show coversB (a : Int) n b m = holdsB (a : Int) n b by unfold coversB; rw [hok, hd]; rfl)
      clear hok
      go_enter Tryd.func45, Tryd.ntmps45
      go_wp2_with fail
      refine (QR _).out.mono ?_
      rintro e w1 ⟨rfl, hb1'⟩
      have hb1 := hb0.trans (hb1'.mono hb0.size)
      have HC1 := HS.out _ hb1
      go_wp2_with fail
      refine (QH _).out.mono ?_
      rintro e w2 ⟨rfl, hb2'⟩
      have hb2 := hb1.trans (hb2'.mono hb1.size)
      have HC2 := HS.out _ hb2
      go_wp2_with fail
      go_ret
      exact ⟨by rw [e1.out]; rfl, below_box (below_box hb2)⟩
end Go.Proofs.YtcjeifpdikojlaaDoor

/-
  The document's Covers (written by gen02.py).
-/
import Derived.Test.YtcjeifpdikojlaaDoorRefHolds
import Derived.Test.YtcjeifpdikojlaaDoorCovers
namespace Go.Proofs.YtcjeifpdikojlaaDoor
set_option linter.unusedVariables false
set_option linter.unusedSimpArgs false
open Go.RowKit

set_option maxHeartbeats 1600000 in
theorem RefCovers_any (a b : Nat) (n m : Int) (w : World) (ha : a < 4294967296) (hb : b < 4294967296) :
    Calls Tryd.prog 30 #[.agg #[.int .u32 (a : Int), .int .i64 n], .agg #[.int .u32 (b : Int), .int .i64 m]] w (RetBool w (coversB (a : Int) n b m)) := by
  have QR := fun w => Lib.hid (RefRight_any b m w hb)
  have QH := fun w => Lib.hid (RefHolds_any a n b w ha hb)
  have HS := Lib.hid (fun w' hb => box2_cells w (.int .u32 (a : Int)) (.int .i64 n) (.int .u32 (b : Int)) (.int .i64 m) (w' := w') hb)
  have hb0 : Below ((w.alloc (.cells #[.int .u32 (a : Int), .int .i64 n] 33)).alloc (.cells #[.int .u32 (b : Int), .int .i64 m] 33)).heap.size ((w.alloc (.cells #[.int .u32 (a : Int), .int .i64 n] 33)).alloc (.cells #[.int .u32 (b : Int), .int .i64 m] 33)) ((w.alloc (.cells #[.int .u32 (a : Int), .int .i64 n] 33)).alloc (.cells #[.int .u32 (b : Int), .int .i64 m] 33)) := Below.refl _ _
  cases hok : okP (b : Int) m with
  | false =>
    rw [hok] at QR
    have e1 := Lib.hid (show coversB (a : Int) n b m = false by unfold coversB; rw [hok]; rfl)
    clear hok
    go_enter Tryd.func30, Tryd.ntmps30
    go_wp2_with fail
    refine (QR _).out.mono ?_
    rintro e w1 ⟨rfl, hb1'⟩
    have hb1 := hb0.trans (hb1'.mono hb0.size)
    have HC1 := HS.out _ hb1
    go_wp2_with fail
    go_ret
    exact ⟨by rw [e1.out]; rfl, below_box (below_box hb1)⟩
  | true =>
    rw [hok] at QR
    cases hd : decide (n ≤ m) with
    | false =>
      have e1 := Lib.hid (show coversB (a : Int) n b m = false by unfold coversB; rw [hok, hd]; rfl)
      clear hok
      go_enter Tryd.func30, Tryd.ntmps30
      go_wp2_with fail
      refine (QR _).out.mono ?_
      rintro e w1 ⟨rfl, hb1'⟩
      have hb1 := hb0.trans (hb1'.mono hb0.size)
      have HC1 := HS.out _ hb1
      go_wp2_with fail
      go_ret
      exact ⟨by rw [e1.out]; rfl, below_box (below_box hb1)⟩
    | true =>
      have e1 := Lib.hid (show coversB (a : Int) n b m = holdsB (a : Int) n b by unfold coversB; rw [hok, hd]; rfl)
      clear hok
      go_enter Tryd.func30, Tryd.ntmps30
      go_wp2_with fail
      refine (QR _).out.mono ?_
      rintro e w1 ⟨rfl, hb1'⟩
      have hb1 := hb0.trans (hb1'.mono hb0.size)
      have HC1 := HS.out _ hb1
      go_wp2_with fail
      refine (QH _).out.mono ?_
      rintro e w2 ⟨rfl, hb2'⟩
      have hb2 := hb1.trans (hb2'.mono hb1.size)
      have HC2 := HS.out _ hb2
      go_wp2_with fail
      go_ret
      exact ⟨by rw [e1.out]; rfl, below_box (below_box hb2)⟩
end Go.Proofs.YtcjeifpdikojlaaDoor

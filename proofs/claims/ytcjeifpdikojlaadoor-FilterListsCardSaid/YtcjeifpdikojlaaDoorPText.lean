/-
  A prefix as a text.
-/
import Derived.Test.YtcjeifpdikojlaaDoorAddr
import Derived.Test.YtcjeifpdikojlaaDoorHolds
namespace Go.Proofs.YtcjeifpdikojlaaDoor
set_option linter.unusedVariables false
set_option linter.unusedSimpArgs false
open Go.RowKit

/-- A prefix's text. -/
def textP (a n : Int) : List UInt8 := if okP a n then (addrL a.toNat ++ [47]) ++ dec n.toNat else []

set_option maxHeartbeats 1600000 in
theorem PText_any (a : Nat) (n : Int) (w : World) (ha : a < 4294967296) (h0 : -9223372036854775808 ≤ n) (h1 : n ≤ 9223372036854775807) (ht : Tab w) :
    Calls Tryd.prog 48 #[.agg #[.int .u32 (a : Int), .int .i64 n]] w (RetL w (textP (a : Int) n)) := by
  have QR := fun w => Lib.hid (Right_any a n w ha h0 h1)
  have HS := Lib.hid (fun w' hb => box_cells w (.int .u32 (a : Int)) (.int .i64 n) (w' := w') hb)
  have hb0 : Below (w.alloc (.cells #[.int .u32 (a : Int), .int .i64 n] 33)).heap.size (w.alloc (.cells #[.int .u32 (a : Int), .int .i64 n] 33)) (w.alloc (.cells #[.int .u32 (a : Int), .int .i64 n] 33)) := Below.refl _ _
  have HT := Lib.hid (fun (w' : World) (hb : Below (w.alloc (.cells #[.int .u32 (a : Int), .int .i64 n] 33)).heap.size (w.alloc (.cells #[.int .u32 (a : Int), .int .i64 n] 33)) w') => ht.below (below_box hb) ht.lt)
  cases hok : okP (a : Int) n with
  | false =>
    rw [hok] at QR
    have e1 := Lib.hid (show textP (a : Int) n = [] by unfold textP; rw [hok]; rfl)
    clear hok
    go_enter Tryd.func48, Tryd.ntmps48
    go_wp2_with fail
    refine (QR _).out.mono ?_
    rintro e w1 ⟨rfl, hb1'⟩
    have hb1 := hb0.trans (hb1'.mono hb0.size)
    go_wp2_with fail
    go_ret
    exact ⟨by rw [e1.out]; rfl, below_box hb1⟩
  | true =>
    rw [hok] at QR
    obtain ⟨k, rfl⟩ := Int.eq_ofNat_of_zero_le (okP_range hok).1
    have hk : k ≤ 32 := by have := (okP_range hok).2; omega
    have e1 := Lib.hid (show textP (a : Int) (k : Int) = (addrL a ++ [47]) ++ dec k by unfold textP; rw [hok]; rfl)
    have qA := fun w ht => Lib.hid (Addr_any a w ha ht)
    have qT := fun w ht => Lib.hid (Text_any (k : Int) w (by omega) (by omega) ht)
    rw [textL_pos] at qT
    have hl := addrP_len ha 3
    have hd := dec_len 1 k (by omega)
    have hs1 : ¬ 9223372036854775807 < (addrL a).length + 1 := by unfold addrL; omega
    have hs2 : ¬ 9223372036854775807 < (addrL a).length + 1 + (dec k).length := by unfold addrL; omega
    clear hok hl hd
    go_enter Tryd.func48, Tryd.ntmps48
    go_wp2_with fail
    refine (QR _).out.mono ?_
    rintro e w1 ⟨rfl, hb1'⟩
    have hb1 := (hb0.trans (hb1'.mono hb0.size)).drew
    have hb0w := hb0.trans (hb1'.mono hb0.size)
    have HC := HS.out _ hb1
    go_wp2_with fail
    go_region_held3 (fun w' => w'.cell? ⟨w.heap.size, 0, none⟩ = some (.int .u32 (a : Int)) ∧ w'.cell? ⟨w.heap.size, 1, none⟩ = some (.int .i64 (k : Int))) (first | exact HS.out _ hb1 | exact HS.out _ hb2 | exact HS.out _ hb3) ((first
      | (go_at_call 63; refine (qA _ (HT.out _ hb1)).out.mono ?_; rintro e w2 ⟨rfl, hb2'⟩; have hb2 := hb1.trans (hb2'.mono hb1.size))
      | (go_at_call 31; refine (qT _ (HT.out _ hb2)).out.mono ?_; rintro e w3 ⟨rfl, hb3'⟩; have hb3 := hb2.trans (hb3'.mono hb2.size))))
    go_wp2_with fail
    go_ret
    exact ⟨by rw [e1.out, ← ba_append, ← ba_append]; rfl, below_box hb3⟩
end Go.Proofs.YtcjeifpdikojlaaDoor

/-
  A range as a text, and read from one: the program's.
-/
import Derived.Test.YtcjeifpdikojlaaDoorRange12
import Derived.Test.YtcjeifpdikojlaaDoorGuess12
namespace Go.Proofs.YtcjeifpdikojlaaDoor
set_option linter.unusedVariables false
set_option linter.unusedSimpArgs false
open Go.RowKit

/-- A range's text. -/
def textR (a n mn mx : Int) : List UInt8 := if okR a n mn mx then (((textP a n ++ [32]) ++ textL mn) ++ [45]) ++ textL mx else []
theorem okR_parts {a n mn mx : Int} (h : okR a n mn mx = true) : okP a n = true ∧ n ≤ mn ∧ mn ≤ mx ∧ mx ≤ 32 := by
  simpa [okR] using h
theorem textP_len12 {a : Nat} {n : Int} (ha : a < 4294967296) : (textP (a : Int) n).length ≤ 20 := by
  unfold textP
  split
  · next h =>
    have h1 := okP_range h
    have h2 := dec_len 1 n.toNat (by omega)
    have h3 := addrP_len ha 3
    simp only [List.length_append, List.length_cons, List.length_nil]
    unfold addrL
    simp only [Int.toNat_natCast]
    omega
  · simp
theorem textL_len12 {n : Int} (h0 : 0 ≤ n) (h1 : n ≤ 32) : (textL n).length ≤ 2 := by
  obtain ⟨k, rfl⟩ := Int.eq_ofNat_of_zero_le h0
  rw [textL_pos]
  exact dec_len 1 k (by omega)

set_option maxHeartbeats 1600000 in
theorem Text12_any (a : Nat) (n mn mx : Int) (w : World) (ha : a < 4294967296) (h0 : -9223372036854775808 ≤ n) (h1 : n ≤ 9223372036854775807) (ht : Tab w) :
    Calls Tryd.prog 26 #[.agg #[.int .u32 (a : Int), .int .i64 n, .int .i64 mn, .int .i64 mx]] w (RetL w (textR (a : Int) n mn mx)) := by
  have QR := fun w => Lib.hid (Right12_any a n mn mx w ha h0 h1)
  have HS := Lib.hid (fun w' hb => box4_cells w (.int .u32 (a : Int)) (.int .i64 n) (.int .i64 mn) (.int .i64 mx) 35 (w' := w') hb)
  have hb0 : Below (w.alloc (.cells #[.int .u32 (a : Int), .int .i64 n, .int .i64 mn, .int .i64 mx] 35)).heap.size (w.alloc (.cells #[.int .u32 (a : Int), .int .i64 n, .int .i64 mn, .int .i64 mx] 35)) (w.alloc (.cells #[.int .u32 (a : Int), .int .i64 n, .int .i64 mn, .int .i64 mx] 35)) := Below.refl _ _
  have HT := Lib.hid (fun (w' : World) (hb : Below (w.alloc (.cells #[.int .u32 (a : Int), .int .i64 n, .int .i64 mn, .int .i64 mx] 35)).heap.size (w.alloc (.cells #[.int .u32 (a : Int), .int .i64 n, .int .i64 mn, .int .i64 mx] 35)) w') => ht.below (below_box hb) ht.lt)
  clear ht
  cases hok : okR (a : Int) n mn mx with
  | false =>
    rw [hok] at QR
    have e1 := Lib.hid (show textR (a : Int) n mn mx = [] by unfold textR; rw [hok]; rfl)
    clear hok
    go_enter Tryd.func26, Tryd.ntmps26
    go_wp2_with fail
    refine (QR _).out.mono ?_
    rintro e w1 ⟨rfl, hb1'⟩
    have hb1 := hb0.trans (hb1'.mono hb0.size)
    go_wp2_with fail
    go_ret
    exact ⟨by rw [e1.out]; rfl, below_box hb1⟩
  | true =>
    rw [hok] at QR
    obtain ⟨g0, g1, g2, g3⟩ := okR_parts hok
    have g4 := (okP_range g0).1
    have e1 := Lib.hid (show textR (a : Int) n mn mx = (((textP a n ++ [32]) ++ textL mn) ++ [45]) ++ textL mx by unfold textR; rw [hok]; rfl)
    have qA := fun w ht => Lib.hid (PText_any a n w ha h0 h1 ht)
    have qT : ∀ v : Int, (v = mn ∨ v = mx) → ∀ w, Tab w → Hid (Calls Tryd.prog 31 #[.int .i64 v] w (RetL w (textL v))) := fun v hv w ht => Lib.hid (Text_any v w (by omega) (by omega) ht)
    have l0 := textP_len12 (n := n) ha
    have l1 := textL_len12 (n := mn) (by omega) (by omega)
    have l2 := textL_len12 (n := mx) (by omega) (by omega)
    have hs1 : ¬ 9223372036854775807 < (textP (a : Int) n).length + 1 := by omega
    have hs2 : ¬ 9223372036854775807 < (textP (a : Int) n).length + 1 + (textL mn).length := by omega
    have hs3 : ¬ 9223372036854775807 < (textP (a : Int) n).length + 1 + (textL mn).length + 1 := by omega
    have hs4 : ¬ 9223372036854775807 < (textP (a : Int) n).length + 1 + (textL mn).length + 1 + (textL mx).length := by omega
    clear hok l0 l1 l2
    go_enter Tryd.func26, Tryd.ntmps26
    go_wp2_with fail
    refine (QR _).out.mono ?_
    rintro e w1 ⟨rfl, hb1'⟩
    have hbc := (hb0.trans (hb1'.mono hb0.size)).drew
    have hb0w := hb0.trans (hb1'.mono hb0.size)
    have HC := HS.out _ hbc
    clear hb1'
    go_wp2_with fail
    go_region_held3 (fun w' => w'.cell? ⟨w.heap.size, 0, none⟩ = some (.int .u32 (a : Int)) ∧ w'.cell? ⟨w.heap.size, 1, none⟩ = some (.int .i64 n) ∧ w'.cell? ⟨w.heap.size, 2, none⟩ = some (.int .i64 mn) ∧ w'.cell? ⟨w.heap.size, 3, none⟩ = some (.int .i64 mx)) (exact HS.out _ hbc) ((first
      | (go_at_call 48; refine (qA _ (HT.out _ hbc)).out.mono ?_; rintro e wx ⟨rfl, hg⟩; replace hbc := hbc.trans (hg.mono hbc.size); clear hg)
      | (go_at_call 31; refine (qT _ (by first | exact Or.inl rfl | exact Or.inr rfl) _ (HT.out _ hbc)).out.mono ?_; rintro e wx ⟨rfl, hg⟩; replace hbc := hbc.trans (hg.mono hbc.size); clear hg)))
    go_wp2_with fail
    go_ret
    exact ⟨by rw [e1.out, ← ba_append, ← ba_append, ← ba_append, ← ba_append]; rfl, below_box hbc⟩
end Go.Proofs.YtcjeifpdikojlaaDoor

/-
  Ranges: whether one is right, and which prefixes are in it (written by gen12.py).
-/
import Derived.Test.YtcjeifpdikojlaaDoorCovers
import Derived.Test.YtcjeifpdikojlaaDoorRefCovers
namespace Go.Proofs.YtcjeifpdikojlaaDoor
set_option linter.unusedVariables false
set_option linter.unusedSimpArgs false
open Go.RowKit

/-- Is a range right? -/
def okR (a n mn mx : Int) : Bool := okP a n && (decide (n ≤ mn) && (decide (mn ≤ mx) && decide (mx ≤ 32)))
/-- Is a prefix in a range? -/
def inR (a n mn mx : Int) (b : Nat) (m : Int) : Bool := okR a n mn mx && (coversB a n b m && (decide (mn ≤ m) && decide (m ≤ mx)))

theorem box4_cells (w : World) (u v x y : Value) (t : TypeId) {w' : World} (hb : Below (w.alloc (.cells #[u, v, x, y] t)).heap.size (w.alloc (.cells #[u, v, x, y] t)) w') :
    w'.cell? ⟨w.heap.size, 0, none⟩ = some u ∧ w'.cell? ⟨w.heap.size, 1, none⟩ = some v ∧ w'.cell? ⟨w.heap.size, 2, none⟩ = some x ∧ w'.cell? ⟨w.heap.size, 3, none⟩ = some y := by
  have hk' := (Blk.new w t [u, v, x, y]).below hb (by simp)
  exact ⟨hk'.cell 0, hk'.cell 1, hk'.cell 2, hk'.cell 3⟩
theorem box42_cells (w : World) (u v x y p q : Value) (t t' : TypeId) {w' : World} (hb : Below ((w.alloc (.cells #[u, v, x, y] t)).alloc (.cells #[p, q] t')).heap.size ((w.alloc (.cells #[u, v, x, y] t)).alloc (.cells #[p, q] t')) w') :
    (w'.cell? ⟨w.heap.size, 0, none⟩ = some u ∧ w'.cell? ⟨w.heap.size, 1, none⟩ = some v ∧ w'.cell? ⟨w.heap.size, 2, none⟩ = some x ∧ w'.cell? ⟨w.heap.size, 3, none⟩ = some y) ∧ w'.cell? ⟨w.heap.size + 1, 0, none⟩ = some p ∧ w'.cell? ⟨w.heap.size + 1, 1, none⟩ = some q := by
  have hk2 := (Blk.new (w.alloc (.cells #[u, v, x, y] t)) t' [p, q]).below hb (by simp)
  have e : (w.alloc (.cells #[u, v, x, y] t)).heap.size = w.heap.size + 1 := by simp
  rw [e] at hk2
  exact ⟨box4_cells w u v x y t (below_box hb), hk2.cell 0, hk2.cell 1⟩

set_option maxHeartbeats 1600000 in
theorem Right12_any (a : Nat) (n mn mx : Int) (w : World) (ha : a < 4294967296) (h0 : -9223372036854775808 ≤ n) (h1 : n ≤ 9223372036854775807) :
    Calls Tryd.prog 20 #[.agg #[.int .u32 (a : Int), .int .i64 n, .int .i64 mn, .int .i64 mx]] w (RetBool w (okR (a : Int) n mn mx)) := by
  have QR := fun w => Lib.hid (Right_any a n w ha h0 h1)
  have HS := Lib.hid (fun w' hb => box4_cells w (.int .u32 (a : Int)) (.int .i64 n) (.int .i64 mn) (.int .i64 mx) 35 (w' := w') hb)
  have hb0 : Below (w.alloc (.cells #[.int .u32 (a : Int), .int .i64 n, .int .i64 mn, .int .i64 mx] 35)).heap.size (w.alloc (.cells #[.int .u32 (a : Int), .int .i64 n, .int .i64 mn, .int .i64 mx] 35)) (w.alloc (.cells #[.int .u32 (a : Int), .int .i64 n, .int .i64 mn, .int .i64 mx] 35)) := Below.refl _ _
  have hE : okR (a : Int) n mn mx = (okP a n && (decide (n ≤ mn) && (decide (mn ≤ mx) && decide (mx ≤ 32)))) := rfl
  obtain ⟨R, hR⟩ : ∃ R, R = okR (a : Int) n mn mx := ⟨_, rfl⟩
  rw [← hR] at hE ⊢
  cases hok : okP (a : Int) n with
  | false =>
    rw [hok] at QR hE
    have e1 := Lib.hid (show R = false by rw [hE]; rfl)
    clear hE hR hok
    go_enter Tryd.func20, Tryd.ntmps20
    go_wp2_with fail
    refine (QR _).out.mono ?_
    rintro e w1 ⟨rfl, hb1⟩
    have HC1 := HS.out _ hb1
    go_wp2_with fail
    go_ret
    exact ⟨by rw [e1.out]; first | rfl | exact congrArg (fun b => Ending.returned (.bool b)) (decide_eq_false (by omega)), below_box hb1⟩
  | true =>
    rw [hok] at QR hE
    by_cases c1 : n ≤ mn
    · by_cases c2 : mn ≤ mx
      · by_cases c3 : mx ≤ 32
        · skip
          have e1 := Lib.hid (show R = true by rw [hE]; simp [c1, c2, c3])
          clear hE hR hok
          go_enter Tryd.func20, Tryd.ntmps20
          go_wp2_with fail
          refine (QR _).out.mono ?_
          rintro e w1 ⟨rfl, hb1⟩
          have HC1 := HS.out _ hb1
          go_wp2_with fail
          go_ret
          exact ⟨by rw [e1.out]; first | rfl | exact congrArg (fun b => Ending.returned (.bool b)) (decide_eq_false (by omega)), below_box hb1⟩
        · skip
          have e1 := Lib.hid (show R = false by rw [hE]; simp [c1, c2, c3])
          clear hE hR hok
          go_enter Tryd.func20, Tryd.ntmps20
          go_wp2_with fail
          refine (QR _).out.mono ?_
          rintro e w1 ⟨rfl, hb1⟩
          have HC1 := HS.out _ hb1
          go_wp2_with fail
          go_ret
          exact ⟨by rw [e1.out]; first | rfl | exact congrArg (fun b => Ending.returned (.bool b)) (decide_eq_false (by omega)), below_box hb1⟩
      · skip
        have e1 := Lib.hid (show R = false by rw [hE]; simp [c1, c2])
        clear hE hR hok
        go_enter Tryd.func20, Tryd.ntmps20
        go_wp2_with fail
        refine (QR _).out.mono ?_
        rintro e w1 ⟨rfl, hb1⟩
        have HC1 := HS.out _ hb1
        go_wp2_with fail
        go_ret
        exact ⟨by rw [e1.out]; first | rfl | exact congrArg (fun b => Ending.returned (.bool b)) (decide_eq_false (by omega)), below_box hb1⟩
    · skip
      have e1 := Lib.hid (show R = false by rw [hE]; simp [c1])
      clear hE hR hok
      go_enter Tryd.func20, Tryd.ntmps20
      go_wp2_with fail
      refine (QR _).out.mono ?_
      rintro e w1 ⟨rfl, hb1⟩
      have HC1 := HS.out _ hb1
      go_wp2_with fail
      go_ret
      exact ⟨by rw [e1.out]; first | rfl | exact congrArg (fun b => Ending.returned (.bool b)) (decide_eq_false (by omega)), below_box hb1⟩

set_option maxHeartbeats 1600000 in
theorem RefRight12_any (a : Nat) (n mn mx : Int) (w : World) (ha : a < 4294967296) (h0 : -9223372036854775808 ≤ n) (h1 : n ≤ 9223372036854775807) :
    Calls Tryd.prog 21 #[.agg #[.int .u32 (a : Int), .int .i64 n, .int .i64 mn, .int .i64 mx]] w (RetBool w (okR (a : Int) n mn mx)) := by
  have QR := fun w => Lib.hid (RefRight_any a n w ha)
  have HS := Lib.hid (fun w' hb => box4_cells w (.int .u32 (a : Int)) (.int .i64 n) (.int .i64 mn) (.int .i64 mx) 35 (w' := w') hb)
  have hb0 : Below (w.alloc (.cells #[.int .u32 (a : Int), .int .i64 n, .int .i64 mn, .int .i64 mx] 35)).heap.size (w.alloc (.cells #[.int .u32 (a : Int), .int .i64 n, .int .i64 mn, .int .i64 mx] 35)) (w.alloc (.cells #[.int .u32 (a : Int), .int .i64 n, .int .i64 mn, .int .i64 mx] 35)) := Below.refl _ _
  have hE : okR (a : Int) n mn mx = (okP a n && (decide (n ≤ mn) && (decide (mn ≤ mx) && decide (mx ≤ 32)))) := rfl
  obtain ⟨R, hR⟩ : ∃ R, R = okR (a : Int) n mn mx := ⟨_, rfl⟩
  rw [← hR] at hE ⊢
  cases hok : okP (a : Int) n with
  | false =>
    rw [hok] at QR hE
    have e1 := Lib.hid (show R = false by rw [hE]; rfl)
    clear hE hR hok
    go_enter Tryd.func21, Tryd.ntmps21
    go_wp2_with fail
    refine (QR _).out.mono ?_
    rintro e w1 ⟨rfl, hb1⟩
    have HC1 := HS.out _ hb1
    go_wp2_with fail
    go_ret
    exact ⟨by rw [e1.out]; first | rfl | exact congrArg (fun b => Ending.returned (.bool b)) (decide_eq_false (by omega)), below_box hb1⟩
  | true =>
    rw [hok] at QR hE
    by_cases c1 : n ≤ mn
    · by_cases c2 : mn ≤ mx
      · by_cases c3 : mx ≤ 32
        · skip
          have e1 := Lib.hid (show R = true by rw [hE]; simp [c1, c2, c3])
          clear hE hR hok
          go_enter Tryd.func21, Tryd.ntmps21
          go_wp2_with fail
          refine (QR _).out.mono ?_
          rintro e w1 ⟨rfl, hb1⟩
          have HC1 := HS.out _ hb1
          go_wp2_with fail
          go_ret
          exact ⟨by rw [e1.out]; first | rfl | exact congrArg (fun b => Ending.returned (.bool b)) (decide_eq_false (by omega)), below_box hb1⟩
        · skip
          have e1 := Lib.hid (show R = false by rw [hE]; simp [c1, c2, c3])
          clear hE hR hok
          go_enter Tryd.func21, Tryd.ntmps21
          go_wp2_with fail
          refine (QR _).out.mono ?_
          rintro e w1 ⟨rfl, hb1⟩
          have HC1 := HS.out _ hb1
          go_wp2_with fail
          go_ret
          exact ⟨by rw [e1.out]; first | rfl | exact congrArg (fun b => Ending.returned (.bool b)) (decide_eq_false (by omega)), below_box hb1⟩
      · skip
        have e1 := Lib.hid (show R = false by rw [hE]; simp [c1, c2])
        clear hE hR hok
        go_enter Tryd.func21, Tryd.ntmps21
        go_wp2_with fail
        refine (QR _).out.mono ?_
        rintro e w1 ⟨rfl, hb1⟩
        have HC1 := HS.out _ hb1
        go_wp2_with fail
        go_ret
        exact ⟨by rw [e1.out]; first | rfl | exact congrArg (fun b => Ending.returned (.bool b)) (decide_eq_false (by omega)), below_box hb1⟩
    · skip
      have e1 := Lib.hid (show R = false by rw [hE]; simp [c1])
      clear hE hR hok
      go_enter Tryd.func21, Tryd.ntmps21
      go_wp2_with fail
      refine (QR _).out.mono ?_
      rintro e w1 ⟨rfl, hb1⟩
      have HC1 := HS.out _ hb1
      go_wp2_with fail
      go_ret
      exact ⟨by rw [e1.out]; first | rfl | exact congrArg (fun b => Ending.returned (.bool b)) (decide_eq_false (by omega)), below_box hb1⟩

set_option maxHeartbeats 1600000 in
theorem In12_any (a b : Nat) (n mn mx m : Int) (w : World) (ha : a < 4294967296) (hb : b < 4294967296) (h0 : -9223372036854775808 ≤ n) (h1 : n ≤ 9223372036854775807) (h2 : -9223372036854775808 ≤ m) (h3 : m ≤ 9223372036854775807) :
    Calls Tryd.prog 22 #[.agg #[.int .u32 (a : Int), .int .i64 n, .int .i64 mn, .int .i64 mx], .agg #[.int .u32 (b : Int), .int .i64 m]] w (RetBool w (inR (a : Int) n mn mx b m)) := by
  have QR := fun w => Lib.hid (Right12_any a n mn mx w ha h0 h1)
  have QC := fun w => Lib.hid (Covers_any a b n m w ha hb h0 h1 h2 h3)
  have HS := Lib.hid (fun w' hb => box42_cells w (.int .u32 (a : Int)) (.int .i64 n) (.int .i64 mn) (.int .i64 mx) (.int .u32 (b : Int)) (.int .i64 m) 35 33 (w' := w') hb)
  have hb0 : Below ((w.alloc (.cells #[.int .u32 (a : Int), .int .i64 n, .int .i64 mn, .int .i64 mx] 35)).alloc (.cells #[.int .u32 (b : Int), .int .i64 m] 33)).heap.size ((w.alloc (.cells #[.int .u32 (a : Int), .int .i64 n, .int .i64 mn, .int .i64 mx] 35)).alloc (.cells #[.int .u32 (b : Int), .int .i64 m] 33)) ((w.alloc (.cells #[.int .u32 (a : Int), .int .i64 n, .int .i64 mn, .int .i64 mx] 35)).alloc (.cells #[.int .u32 (b : Int), .int .i64 m] 33)) := Below.refl _ _
  have hE : inR (a : Int) n mn mx b m = (okR a n mn mx && (coversB a n b m && (decide (mn ≤ m) && decide (m ≤ mx)))) := rfl
  obtain ⟨R, hR⟩ : ∃ R, R = inR (a : Int) n mn mx b m := ⟨_, rfl⟩
  rw [← hR] at hE ⊢
  cases hok : okR (a : Int) n mn mx with
  | false =>
    rw [hok] at QR hE
    have e1 := Lib.hid (show R = false by rw [hE]; rfl)
    clear hE hR hok
    go_enter Tryd.func22, Tryd.ntmps22
    go_wp2_with fail
    refine (QR _).out.mono ?_
    rintro e w1 ⟨rfl, hb1'⟩
    have hb1 := hb0.trans (hb1'.mono hb0.size)
    have HC1 := HS.out _ hb1
    go_wp2_with fail
    go_ret
    exact ⟨by rw [e1.out]; first | rfl | exact congrArg (fun b => Ending.returned (.bool b)) (decide_eq_false (by omega)), below_box (below_box hb1)⟩
  | true =>
    rw [hok] at QR hE
    cases hc : coversB (a : Int) n b m with
    | false =>
      rw [hc] at QC hE
      have e1 := Lib.hid (show R = false by rw [hE]; rfl)
      clear hE hR hok hc
      go_enter Tryd.func22, Tryd.ntmps22
      go_wp2_with fail
      refine (QR _).out.mono ?_
      rintro e w1 ⟨rfl, hb1'⟩
      have hb1 := hb0.trans (hb1'.mono hb0.size)
      have HC1 := HS.out _ hb1
      go_wp2_with fail
      refine (QC _).out.mono ?_
      rintro e w2 ⟨rfl, hb2'⟩
      replace hb1 := hb1.trans (hb2'.mono hb1.size)
      have HC2 := HS.out _ hb1
      go_wp2_with fail
      go_ret
      exact ⟨by rw [e1.out]; first | rfl | exact congrArg (fun b => Ending.returned (.bool b)) (decide_eq_false (by omega)), below_box (below_box hb1)⟩
    | true =>
      rw [hc] at QC hE
      clear hc
      by_cases c1 : mn ≤ m
      · by_cases c2 : m ≤ mx
        · skip
          have e1 := Lib.hid (show R = true by rw [hE]; simp [c1, c2])
          clear hE hR hok
          go_enter Tryd.func22, Tryd.ntmps22
          go_wp2_with fail
          refine (QR _).out.mono ?_
          rintro e w1 ⟨rfl, hb1'⟩
          have hb1 := hb0.trans (hb1'.mono hb0.size)
          have HC1 := HS.out _ hb1
          go_wp2_with fail
          refine (QC _).out.mono ?_
          rintro e w2 ⟨rfl, hb2'⟩
          replace hb1 := hb1.trans (hb2'.mono hb1.size)
          have HC2 := HS.out _ hb1
          go_wp2_with fail
          go_ret
          exact ⟨by rw [e1.out]; first | rfl | exact congrArg (fun b => Ending.returned (.bool b)) (decide_eq_false (by omega)), below_box (below_box hb1)⟩
        · skip
          have e1 := Lib.hid (show R = false by rw [hE]; simp [c1, c2])
          clear hE hR hok
          go_enter Tryd.func22, Tryd.ntmps22
          go_wp2_with fail
          refine (QR _).out.mono ?_
          rintro e w1 ⟨rfl, hb1'⟩
          have hb1 := hb0.trans (hb1'.mono hb0.size)
          have HC1 := HS.out _ hb1
          go_wp2_with fail
          refine (QC _).out.mono ?_
          rintro e w2 ⟨rfl, hb2'⟩
          replace hb1 := hb1.trans (hb2'.mono hb1.size)
          have HC2 := HS.out _ hb1
          go_wp2_with fail
          go_ret
          exact ⟨by rw [e1.out]; first | rfl | exact congrArg (fun b => Ending.returned (.bool b)) (decide_eq_false (by omega)), below_box (below_box hb1)⟩
      · skip
        have e1 := Lib.hid (show R = false by rw [hE]; simp [c1])
        clear hE hR hok
        go_enter Tryd.func22, Tryd.ntmps22
        go_wp2_with fail
        refine (QR _).out.mono ?_
        rintro e w1 ⟨rfl, hb1'⟩
        have hb1 := hb0.trans (hb1'.mono hb0.size)
        have HC1 := HS.out _ hb1
        go_wp2_with fail
        refine (QC _).out.mono ?_
        rintro e w2 ⟨rfl, hb2'⟩
        replace hb1 := hb1.trans (hb2'.mono hb1.size)
        have HC2 := HS.out _ hb1
        go_wp2_with fail
        go_ret
        exact ⟨by rw [e1.out]; first | rfl | exact congrArg (fun b => Ending.returned (.bool b)) (decide_eq_false (by omega)), below_box (below_box hb1)⟩

set_option maxHeartbeats 1600000 in
theorem RefIn12_any (a b : Nat) (n mn mx m : Int) (w : World) (ha : a < 4294967296) (hb : b < 4294967296) (h0 : -9223372036854775808 ≤ n) (h1 : n ≤ 9223372036854775807) (h2 : -9223372036854775808 ≤ m) (h3 : m ≤ 9223372036854775807) :
    Calls Tryd.prog 23 #[.agg #[.int .u32 (a : Int), .int .i64 n, .int .i64 mn, .int .i64 mx], .agg #[.int .u32 (b : Int), .int .i64 m]] w (RetBool w (inR (a : Int) n mn mx b m)) := by
  have QR := fun w => Lib.hid (RefRight12_any a n mn mx w ha h0 h1)
  have QC := fun w => Lib.hid (RefCovers_any a b n m w ha hb)
  have HS := Lib.hid (fun w' hb => box42_cells w (.int .u32 (a : Int)) (.int .i64 n) (.int .i64 mn) (.int .i64 mx) (.int .u32 (b : Int)) (.int .i64 m) 35 33 (w' := w') hb)
  have hb0 : Below ((w.alloc (.cells #[.int .u32 (a : Int), .int .i64 n, .int .i64 mn, .int .i64 mx] 35)).alloc (.cells #[.int .u32 (b : Int), .int .i64 m] 33)).heap.size ((w.alloc (.cells #[.int .u32 (a : Int), .int .i64 n, .int .i64 mn, .int .i64 mx] 35)).alloc (.cells #[.int .u32 (b : Int), .int .i64 m] 33)) ((w.alloc (.cells #[.int .u32 (a : Int), .int .i64 n, .int .i64 mn, .int .i64 mx] 35)).alloc (.cells #[.int .u32 (b : Int), .int .i64 m] 33)) := Below.refl _ _
  have hE : inR (a : Int) n mn mx b m = (okR a n mn mx && (coversB a n b m && (decide (mn ≤ m) && decide (m ≤ mx)))) := rfl
  obtain ⟨R, hR⟩ : ∃ R, R = inR (a : Int) n mn mx b m := ⟨_, rfl⟩
  rw [← hR] at hE ⊢
  cases hok : okR (a : Int) n mn mx with
  | false =>
    rw [hok] at QR hE
    have e1 := Lib.hid (show R = false by rw [hE]; rfl)
    clear hE hR hok
    go_enter Tryd.func23, Tryd.ntmps23
    go_wp2_with fail
    refine (QR _).out.mono ?_
    rintro e w1 ⟨rfl, hb1'⟩
    have hb1 := hb0.trans (hb1'.mono hb0.size)
    have HC1 := HS.out _ hb1
    go_wp2_with fail
    go_ret
    exact ⟨by rw [e1.out]; first | rfl | exact congrArg (fun b => Ending.returned (.bool b)) (decide_eq_false (by omega)), below_box (below_box hb1)⟩
  | true =>
    rw [hok] at QR hE
    cases hc : coversB (a : Int) n b m with
    | false =>
      rw [hc] at QC hE
      have e1 := Lib.hid (show R = false by rw [hE]; rfl)
      clear hE hR hok hc
      go_enter Tryd.func23, Tryd.ntmps23
      go_wp2_with fail
      refine (QR _).out.mono ?_
      rintro e w1 ⟨rfl, hb1'⟩
      have hb1 := hb0.trans (hb1'.mono hb0.size)
      have HC1 := HS.out _ hb1
      go_wp2_with fail
      refine (QC _).out.mono ?_
      rintro e w2 ⟨rfl, hb2'⟩
      replace hb1 := hb1.trans (hb2'.mono hb1.size)
      have HC2 := HS.out _ hb1
      go_wp2_with fail
      go_ret
      exact ⟨by rw [e1.out]; first | rfl | exact congrArg (fun b => Ending.returned (.bool b)) (decide_eq_false (by omega)), below_box (below_box hb1)⟩
    | true =>
      rw [hc] at QC hE
      clear hc
      by_cases c1 : mn ≤ m
      · by_cases c2 : m ≤ mx
        · skip
          have e1 := Lib.hid (show R = true by rw [hE]; simp [c1, c2])
          clear hE hR hok
          go_enter Tryd.func23, Tryd.ntmps23
          go_wp2_with fail
          refine (QR _).out.mono ?_
          rintro e w1 ⟨rfl, hb1'⟩
          have hb1 := hb0.trans (hb1'.mono hb0.size)
          have HC1 := HS.out _ hb1
          go_wp2_with fail
          refine (QC _).out.mono ?_
          rintro e w2 ⟨rfl, hb2'⟩
          replace hb1 := hb1.trans (hb2'.mono hb1.size)
          have HC2 := HS.out _ hb1
          go_wp2_with fail
          go_ret
          exact ⟨by rw [e1.out]; first | rfl | exact congrArg (fun b => Ending.returned (.bool b)) (decide_eq_false (by omega)), below_box (below_box hb1)⟩
        · skip
          have e1 := Lib.hid (show R = false by rw [hE]; simp [c1, c2])
          clear hE hR hok
          go_enter Tryd.func23, Tryd.ntmps23
          go_wp2_with fail
          refine (QR _).out.mono ?_
          rintro e w1 ⟨rfl, hb1'⟩
          have hb1 := hb0.trans (hb1'.mono hb0.size)
          have HC1 := HS.out _ hb1
          go_wp2_with fail
          refine (QC _).out.mono ?_
          rintro e w2 ⟨rfl, hb2'⟩
          replace hb1 := hb1.trans (hb2'.mono hb1.size)
          have HC2 := HS.out _ hb1
          go_wp2_with fail
          go_ret
          exact ⟨by rw [e1.out]; first | rfl | exact congrArg (fun b => Ending.returned (.bool b)) (decide_eq_false (by omega)), below_box (below_box hb1)⟩
      · skip
        have e1 := Lib.hid (show R = false by rw [hE]; simp [c1])
        clear hE hR hok
        go_enter Tryd.func23, Tryd.ntmps23
        go_wp2_with fail
        refine (QR _).out.mono ?_
        rintro e w1 ⟨rfl, hb1'⟩
        have hb1 := hb0.trans (hb1'.mono hb0.size)
        have HC1 := HS.out _ hb1
        go_wp2_with fail
        refine (QC _).out.mono ?_
        rintro e w2 ⟨rfl, hb2'⟩
        replace hb1 := hb1.trans (hb2'.mono hb1.size)
        have HC2 := HS.out _ hb1
        go_wp2_with fail
        go_ret
        exact ⟨by rw [e1.out]; first | rfl | exact congrArg (fun b => Ending.returned (.bool b)) (decide_eq_false (by omega)), below_box (below_box hb1)⟩
end Go.Proofs.YtcjeifpdikojlaaDoor

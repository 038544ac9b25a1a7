/-
  P12.4: what is in a range is in one of a prefix that covers its.
-/
import Derived.Test.YtcjeifpdikojlaaDoorAwake12
import Derived.Test.YtcjeifpdikojlaaDoorOrder
namespace Go.Proofs.YtcjeifpdikojlaaDoor
set_option linter.unusedVariables false
set_option linter.unusedSimpArgs false
open Go.RowKit

theorem in_wider {a b c : Nat} {n m k mn mx : Int} (h1 : inR (a : Int) n mn mx b m = true) (h2 : coversB (c : Int) k a n = true) : inR (c : Int) k mn mx b m = true := by
  unfold inR at h1 ⊢
  simp only [Bool.and_eq_true, decide_eq_true_eq] at h1 ⊢
  obtain ⟨h3, h4, h5, h6⟩ := h1
  have h7 := okR_parts h3
  have h8 := covers_says h2
  refine ⟨?_, covers_trans h2 h4, h5, h6⟩
  unfold okR
  simp only [Bool.and_eq_true, decide_eq_true_eq]
  exact ⟨h8.2.1, by omega, h7.2.2.1, h7.2.2.2⟩

theorem wider_cells (w : World) (a n mn mx b m c k : Value) (t t' : TypeId) {w' : World}
    (hb : Below ((((w.alloc (.cells #[a, n, mn, mx] t)).alloc (.cells #[b, m] t')).alloc (.cells #[c, k] t')).alloc (.cells #[c, k, mn, mx] t)).heap.size ((((w.alloc (.cells #[a, n, mn, mx] t)).alloc (.cells #[b, m] t')).alloc (.cells #[c, k] t')).alloc (.cells #[c, k, mn, mx] t)) w') :
    (w'.cell? ⟨w.heap.size, 0, none⟩ = some a ∧ w'.cell? ⟨w.heap.size, 1, none⟩ = some n ∧ w'.cell? ⟨w.heap.size, 2, none⟩ = some mn ∧ w'.cell? ⟨w.heap.size, 3, none⟩ = some mx) ∧ (w'.cell? ⟨w.heap.size + 1, 0, none⟩ = some b ∧ w'.cell? ⟨w.heap.size + 1, 1, none⟩ = some m) ∧
    (w'.cell? ⟨w.heap.size + 2, 0, none⟩ = some c ∧ w'.cell? ⟨w.heap.size + 2, 1, none⟩ = some k) ∧ (w'.cell? ⟨w.heap.size + 3, 0, none⟩ = some c ∧ w'.cell? ⟨w.heap.size + 3, 1, none⟩ = some k ∧ w'.cell? ⟨w.heap.size + 3, 2, none⟩ = some mn ∧ w'.cell? ⟨w.heap.size + 3, 3, none⟩ = some mx) := by
  have s1 : (w.alloc (.cells #[a, n, mn, mx] t)).heap.size = w.heap.size + 1 := by simp
  have s2 : ((w.alloc (.cells #[a, n, mn, mx] t)).alloc (.cells #[b, m] t')).heap.size = w.heap.size + 2 := by simp
  have s3 : (((w.alloc (.cells #[a, n, mn, mx] t)).alloc (.cells #[b, m] t')).alloc (.cells #[c, k] t')).heap.size = w.heap.size + 3 := by simp
  have h3 := below_box hb
  have h4 := (Blk.new (((w.alloc (.cells #[a, n, mn, mx] t)).alloc (.cells #[b, m] t')).alloc (.cells #[c, k] t')) t [c, k, mn, mx]).below hb (by simp)
  have h5 := (Blk.new ((w.alloc (.cells #[a, n, mn, mx] t)).alloc (.cells #[b, m] t')) t' [c, k]).below h3 (by simp)
  rw [s3] at h4
  rw [s2] at h5
  exact ⟨(box42_cells w a n mn mx b m t t' (below_box h3)).1, (box42_cells w a n mn mx b m t t' (below_box h3)).2, ⟨h5.cell 0, h5.cell 1⟩, h4.cell 0, h4.cell 1, h4.cell 2, h4.cell 3⟩

set_option maxHeartbeats 3200000 in
theorem wider_walk (a b c : Nat) (n mn mx m k : Int) (w : World) (ha : a < 4294967296) (hb : b < 4294967296) (hc : c < 4294967296) (hn : -9223372036854775808 ≤ n ∧ n ≤ 9223372036854775807) (hm : -9223372036854775808 ≤ m ∧ m ≤ 9223372036854775807) (hk : -9223372036854775808 ≤ k ∧ k ≤ 9223372036854775807) (ht : Tab w) :
    Calls Tryd.prog 7 #[.agg #[.int .u32 (a : Int), .int .i64 n, .int .i64 mn, .int .i64 mx], .agg #[.int .u32 (b : Int), .int .i64 m], .agg #[.int .u32 (c : Int), .int .i64 k]] w fun e w' => e = .returned (.bool true) ∧ Below w.heap.size w w' := by
  obtain ⟨W4, hW4⟩ : ∃ W4, W4 = ((((w.alloc (.cells #[.int .u32 (a : Int), .int .i64 n, .int .i64 mn, .int .i64 mx] 35)).alloc (.cells #[.int .u32 (b : Int), .int .i64 m] 33)).alloc (.cells #[.int .u32 (c : Int), .int .i64 k] 33)).alloc (.cells #[.int .u32 (c : Int), .int .i64 k, .int .i64 mn, .int .i64 mx] 35)) := ⟨_, rfl⟩
  have HS := Lib.hid (fun w' hb => wider_cells w (.int .u32 (a : Int)) (.int .i64 n) (.int .i64 mn) (.int .i64 mx) (.int .u32 (b : Int)) (.int .i64 m) (.int .u32 (c : Int)) (.int .i64 k) 35 33 (w' := w') hb)
  have hbw : ∀ w', Below W4.heap.size W4 w' → Below w.heap.size w w' := fun w' h => by rw [hW4] at h; exact below_box (below_box (below_box (below_box h)))
  rw [← hW4] at HS
  have HT := Lib.hid (fun (w' : World) (hb : Below W4.heap.size W4 w') => ht.below (hbw w' hb) ht.lt)
  have HBW := Lib.hid hbw
  have hb0 : Below W4.heap.size W4 W4 := Below.refl _ _
  have Q1 := fun w => Lib.hid (In12_any a b n mn mx m w ha hb hn.1 hn.2 hm.1 hm.2)
  have Q2 := fun w => Lib.hid (RefCovers_any c a k n w hc ha)
  have Q3 := fun w => Lib.hid (In12_any c b k mn mx m w hc hb hk.1 hk.2 hm.1 hm.2)
  have HW4 := Lib.hid hW4
  clear ht hbw hW4
  cases h1 : inR (a : Int) n mn mx b m with
  | false =>
    rw [h1] at Q1
    clear h1
    go_enter Tryd.func7, Tryd.ntmps7
    go_wp2_with fail
    refine (Q1 _).out.mono ?_
    rintro e w1 ⟨rfl, g⟩
    rw [← HW4.out] at g
    have hbc := hb0.trans (g.mono hb0.size)
    clear g
    have HC1 := HS.out _ hbc
    go_wp2_with fail
    refine (awake12_any _ (HT.out _ hbc)).mono ?_
    rintro e w9 ⟨rfl, g⟩
    replace hbc := hbc.trans (g.mono hbc.size)
    clear g
    go_wp2_with fail
    go_ret
    exact ⟨rfl, HBW.out _ hbc⟩
  | true =>
    cases h2 : coversB (c : Int) k a n with
    | false =>
      rw [h1] at Q1
      rw [h2] at Q2
      clear h1 h2
      go_enter Tryd.func7, Tryd.ntmps7
      go_wp2_with fail
      refine (Q1 _).out.mono ?_
      rintro e w1 ⟨rfl, g⟩
      rw [← HW4.out] at g
      have hbc := hb0.trans (g.mono hb0.size)
      clear g
      have HC1 := HS.out _ hbc
      go_wp2_with fail
      refine (Q2 _).out.mono ?_
      rintro e w2 ⟨rfl, g⟩
      replace hbc := hbc.trans (g.mono hbc.size)
      clear g
      have HC2 := HS.out _ hbc
      go_wp2_with fail
      refine (awake12_any _ (HT.out _ hbc)).mono ?_
      rintro e w9 ⟨rfl, g⟩
      replace hbc := hbc.trans (g.mono hbc.size)
      clear g
      go_wp2_with fail
      go_ret
      exact ⟨rfl, HBW.out _ hbc⟩
    | true =>
      have h3 := in_wider h1 h2
      rw [h1] at Q1
      rw [h2] at Q2
      rw [h3] at Q3
      clear h1 h2 h3
      go_enter Tryd.func7, Tryd.ntmps7
      go_wp2_with fail
      refine (Q1 _).out.mono ?_
      rintro e w1 ⟨rfl, g⟩
      rw [← HW4.out] at g
      have hbc := hb0.trans (g.mono hb0.size)
      clear g
      have HC1 := HS.out _ hbc
      go_wp2_with fail
      refine (Q2 _).out.mono ?_
      rintro e w2 ⟨rfl, g⟩
      replace hbc := hbc.trans (g.mono hbc.size)
      clear g
      have HC2 := HS.out _ hbc
      go_wp2_with fail
      refine (Q3 _).out.mono ?_
      rintro e w3 ⟨rfl, g⟩
      replace hbc := hbc.trans (g.mono hbc.size)
      clear g
      have HC3 := HS.out _ hbc
      go_wp2_with fail
      refine (awake12_any _ (HT.out _ hbc)).mono ?_
      rintro e w9 ⟨rfl, g⟩
      replace hbc := hbc.trans (g.mono hbc.size)
      clear g
      go_wp2_with fail
      go_ret
      exact ⟨rfl, HBW.out _ hbc⟩
end Go.Proofs.YtcjeifpdikojlaaDoor

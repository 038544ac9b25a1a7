/-
  What two prefixes have in common, by the program.
-/
import Derived.Test.YtfdeafjkiagjfaaDoorBits32
import Derived.Test.YtfdeafjkiagjfaaDoorOrdBox
import Derived.WalkLawsBesides
namespace Go.Proofs.YtfdeafjkiagjfaaDoor
set_option linter.unusedVariables false
set_option linter.unusedSimpArgs false
open Go.RowKit

theorem comP_no {a n b m : Int} (h : okP a n = false ∨ okP b m = false) : comP a n b m = (0, 0) := by
  unfold comP
  rcases h with h | h <;> simp [h]
theorem comP_yes {a n b m : Nat} (h1 : okP (a : Int) (n : Int) = true) (h2 : okP (b : Int) (m : Int) = true) : comP (a : Int) (n : Int) (b : Int) (m : Int) = (hi a (comK a n b m), comK a n b m) := by
  unfold comP
  simp [h1, h2]
theorem min3 {x y z : Int} : (if z ≤ (if y ≤ x then y else x) then z else (if y ≤ x then y else x)) = min (min x y) z := by omega

theorem res_cells {w1 : World} {g T : Nat} {u0 v0 : Value} (u v : Value) (hk : Blk w1 g T [u0, v0]) :
    (w1.setCell ⟨g, 0, none⟩ u).cell? ⟨g, 0, none⟩ = some u ∧ ((w1.setCell ⟨g, 0, none⟩ u).setCell ⟨g, 1, none⟩ v).cell? ⟨g, 1, none⟩ = some v :=
  ⟨(hk.set 0 u).cell 0, ((hk.set 0 u).set 1 v).cell 1⟩

theorem below_set2 {B : Nat} {w w1 : World} {g : Nat} {u v : Value} (hb : Below B w w1) (hg : B ≤ g + 1) : Below (B - 1) w ((w1.setCell ⟨g, 0, none⟩ u).setCell ⟨g, 1, none⟩ v) :=
  ((hb.mono (Nat.sub_le _ _)).setCell (p := ⟨g, 0, none⟩) (by simp; omega) _).setCell (p := ⟨g, 1, none⟩) (by simp; omega) _
theorem below_w {w w' : World} {o p q : Obj} (hb : Below ((((w.alloc o).alloc p).alloc q).heap.size - 1) (((w.alloc o).alloc p).alloc q) w') : Below w.heap.size w w' := by
  have h1 : ((((w.alloc o).alloc p).alloc q).heap.size - 1) = ((w.alloc o).alloc p).heap.size := by simp
  rw [h1] at hb
  exact below_box (below_box (((Below.refl _ _).alloc (Nat.le_refl _) q).trans hb))

set_option maxHeartbeats 1600000 in
theorem Common_any (a b : Nat) (n m : Int) (w : World) (ha : a < 4294967296) (hb : b < 4294967296) (h0 : -9223372036854775808 ≤ n) (h1 : n ≤ 9223372036854775807) (h2 : -9223372036854775808 ≤ m) (h3 : m ≤ 9223372036854775807) :
    Calls Tryd.prog 24 #[.agg #[.int .u32 (a : Int), .int .i64 n], .agg #[.int .u32 (b : Int), .int .i64 m]] w (RetPfx w (comP (a : Int) n (b : Int) m).1 (((comP (a : Int) n (b : Int) m).2 : Nat) : Int)) := by
  have QR := fun w => Lib.hid (Right_any a n w ha h0 h1)
  have QS := fun w => Lib.hid (Right_any b m w hb h2 h3)
  have HS := Lib.hid (fun w' hb => box3_cells w (.int .u32 (a : Int)) (.int .i64 n) (.int .u32 (b : Int)) (.int .i64 m) (.int .u32 0) (.int .i64 0) (w' := w') hb)
  have HF := Lib.hid (fun (w' : World) (hb : Below (((w.alloc (.cells #[.int .u32 (a : Int), .int .i64 n] 24)).alloc (.cells #[.int .u32 (b : Int), .int .i64 m] 24)).alloc (.cells #[.int .u32 0, .int .i64 0] 24)).heap.size (((w.alloc (.cells #[.int .u32 (a : Int), .int .i64 n] 24)).alloc (.cells #[.int .u32 (b : Int), .int .i64 m] 24)).alloc (.cells #[.int .u32 0, .int .i64 0] 24)) w') => ((Blk.new ((w.alloc (.cells #[.int .u32 (a : Int), .int .i64 n] 24)).alloc (.cells #[.int .u32 (b : Int), .int .i64 m] 24)) 24 [.int .u32 0, .int .i64 0]).below hb (by simp)))
  have e2 : ((w.alloc (.cells #[.int .u32 (a : Int), .int .i64 n] 24)).alloc (.cells #[.int .u32 (b : Int), .int .i64 m] 24)).heap.size = w.heap.size + 1 + 1 := by simp
  rw [e2] at HF
  clear e2
  have hb0 : Below (((w.alloc (.cells #[.int .u32 (a : Int), .int .i64 n] 24)).alloc (.cells #[.int .u32 (b : Int), .int .i64 m] 24)).alloc (.cells #[.int .u32 0, .int .i64 0] 24)).heap.size (((w.alloc (.cells #[.int .u32 (a : Int), .int .i64 n] 24)).alloc (.cells #[.int .u32 (b : Int), .int .i64 m] 24)).alloc (.cells #[.int .u32 0, .int .i64 0] 24)) (((w.alloc (.cells #[.int .u32 (a : Int), .int .i64 n] 24)).alloc (.cells #[.int .u32 (b : Int), .int .i64 m] 24)).alloc (.cells #[.int .u32 0, .int .i64 0] 24)) := Below.refl _ _
  cases hok : okP (a : Int) n with
  | false =>
    rw [hok] at QR
    have e1 := Lib.hid (comP_no (m := m) (b := (b : Int)) (.inl hok))
    clear hok
    rw [e1.out]
    go_enter Tryd.func24, Tryd.ntmps24
    go_wp2_with fail
    refine (QR _).out.mono ?_
    rintro e w1 ⟨rfl, hb1'⟩
    have hb1 := hb0.trans (hb1'.mono hb0.size)
    have HC1 := HS.out _ hb1
    have hf := HF.out _ hb1
    have f0 := hf.free 0
    have f1 := hf.free 1
    have HK := Lib.hid hf; clear hf
    go_wp2_with fail
    refine bodyPost_ret (v := .agg #[.int .u32 ((0 : Nat) : Int), .int .i64 ((0 : Nat) : Int)]) (by simp [results, Tryd.results24, go_sem, (res_cells (.int .u32 0) (.int .i64 0) HK.out).1, (res_cells (.int .u32 0) (.int .i64 0) HK.out).2]) rfl ⟨rfl, ?_⟩
    exact below_w (below_set2 hb1 (by simp))
  | true =>
    rw [hok] at QR
    cases hom : okP (b : Int) m with
    | false =>
      rw [hom] at QS
      have e1 := Lib.hid (comP_no (n := n) (a := (a : Int)) (.inr hom))
      clear hok hom
      rw [e1.out]
      go_enter Tryd.func24, Tryd.ntmps24
      go_wp2_with fail
      refine (QR _).out.mono ?_
      rintro e w1 ⟨rfl, hb1'⟩
      have hb1 := hb0.trans (hb1'.mono hb0.size)
      have HC1 := HS.out _ hb1
      go_wp2_with fail
      refine (QS _).out.mono ?_
      rintro e w2 ⟨rfl, hb2'⟩
      have hb2 := hb1.trans (hb2'.mono hb1.size)
      have HC2 := HS.out _ hb2
      have hf := HF.out _ hb2
      have f0 := hf.free 0
      have f1 := hf.free 1
      have HK := Lib.hid hf; clear hf
      go_wp2_with fail
      refine bodyPost_ret (v := .agg #[.int .u32 ((0 : Nat) : Int), .int .i64 ((0 : Nat) : Int)]) (by simp [results, Tryd.results24, go_sem, (res_cells (.int .u32 0) (.int .i64 0) HK.out).1, (res_cells (.int .u32 0) (.int .i64 0) HK.out).2]) rfl ⟨rfl, ?_⟩
      exact below_w (below_set2 hb2 (by simp))
    | true =>
      rw [hom] at QS
      obtain ⟨n, rfl⟩ := Int.eq_ofNat_of_zero_le (okP_range hok).1
      obtain ⟨m, rfl⟩ := Int.eq_ofNat_of_zero_le (okP_range hom).1
      have e1 := Lib.hid (comP_yes hok hom)
      rw [e1.out]
      have hx := u32_xor_nat a b ha hb
      have QZ := fun w => Lib.hid (Zeros_any (a ^^^ b) w (xor_lt32 ha hb))
      have hle := (comK_le a n b m).1
      have QN := fun w => Lib.hid (Norm_any a ((comK a n b m : Nat) : Int) w ha (by omega) (by omega))
      rw [cl_nat hle] at QN
      have hL := bitLen32 ha hb
      have HM := Lib.hid (show ((comK a n b m : Nat) : Int) = min (min (32 - (Lib.bitLen (a ^^^ b) : Int)) (n : Int)) (m : Int) by unfold comK; omega)
      have HQN := fun (k : Int) (hk : k = ((comK a n b m : Nat) : Int)) W => Lib.hid (show Calls Tryd.prog 13 #[.int .u32 (a : Int), .int .i64 k] W (RetPfx W (hi a (comK a n b m)) ((comK a n b m : Nat) : Int)) by rw [hk]; exact (QN W).out)
      clear QN
      obtain ⟨H, hH⟩ : ∃ H, H = hi a (comK a n b m) := ⟨_, rfl⟩
      rw [← hH] at HQN ⊢
      obtain ⟨K, hK⟩ : ∃ K, K = comK a n b m := ⟨_, rfl⟩
      obtain ⟨X, hX⟩ : ∃ X, X = a ^^^ b := ⟨_, rfl⟩
      obtain ⟨Y, hY⟩ : ∃ Y, Y = Lib.bitLen X := ⟨_, rfl⟩
      rw [← hX] at hx QZ hL HM
      rw [← hY] at QZ hL HM
      rw [← hK] at HQN HM hle ⊢
      clear hok hom hX hY hK hH
      go_enter Tryd.func24, Tryd.ntmps24
      go_wp2_with fail
      refine (QR _).out.mono ?_
      rintro e w1 ⟨rfl, hb1'⟩
      have hb1 := hb0.trans (hb1'.mono hb0.size)
      have HC1 := HS.out _ hb1
      go_wp2_with fail
      refine (QS _).out.mono ?_
      rintro e w2 ⟨rfl, hb2'⟩
      have hb2 := hb1.trans (hb2'.mono hb1.size)
      have HC2 := HS.out _ hb2
      go_wp2_with fail
      refine (QZ _).out.mono ?_
      rintro e wx ⟨rfl, rfl⟩
      go_wp2_with fail
      all_goals
        refine (HQN _ ?_ _).out.mono ?_
        · rw [HM.out]; omega
        rintro e w3 ⟨rfl, hb3'⟩
        have hb3 := hb2.trans (hb3'.mono hb2.size)
        have HC3 := HS.out _ hb3
        have hf := HF.out _ hb3
        have f0 := hf.free 0
        have f1 := hf.free 1
        have HK := Lib.hid hf; clear hf
        go_wp2_with fail
        refine bodyPost_ret (v := .agg #[.int .u32 (H : Int), .int .i64 (K : Int)]) (by simp [results, Tryd.results24, go_sem, (res_cells (.int .u32 (H : Int)) (.int .i64 (K : Int)) HK.out).1, (res_cells (.int .u32 (H : Int)) (.int .i64 (K : Int)) HK.out).2]) rfl ⟨rfl, ?_⟩
        exact below_w (below_set2 hb3 (by simp))
end Go.Proofs.YtfdeafjkiagjfaaDoor

/-
  The OPEN of a side, as the document makes it.
-/
import Derived.Test.YtpdnpphkkobhgaaMine6
import Derived.Test.YtpdnpphkkobhgaaRefPutA
namespace Go.Proofs.Ytpdnpphkkobhgaa
set_option linter.unusedVariables false
set_option linter.unusedSimpArgs false
open Go.RowKit

set_option maxRecDepth 100000 in
set_option maxHeartbeats 3200000 in
theorem RefMine_any (a id ad h : Int) (w : World) (ha : 0 ≤ a ∧ a < 4294967296) (hh : -9223372036854775808 ≤ h ∧ h ≤ 9223372036854775807) :
    Calls Try.prog 23 #[.agg #[.int .u32 a, .int .u32 id, .int .u32 ad, .int .i64 h]] w (RetMine w a id h) := by
  obtain ⟨ha1, ha2⟩ := ha
  have Q := Lib.hid (fun W => (show Calls Try.prog 33 #[.slice none 0 0, .int .u32 a] W (RetBytes W (be32 a)) from refPut32_any none 0 0 [] rfl a W (by simp) (Bytes.nil _ _) ha1 ha2))
  by_cases h0 : h < 0
  · skip
    by_cases hA : 65535 < a
    · have hA2 : ¬ a ≤ 65535 := by omega
      have HE := Lib.hid (And.intro (show mineA a = 23456 from if_pos hA) (show mineH h = 0 from by unfold mineH; omega))
      have kO := Blk.new ((w.alloc (.cells #[.int .u32 a, .int .u32 id, .int .u32 ad, .int .i64 h] 48)).alloc (.cells #[.int .i64 0, .int .i64 0, .int .i64 0, .int .u32 0, .slice none 0 0] 25)) 25 [.int .i64 4, .int .i64 23456, .int .i64 0, .int .u32 id, .slice none 0 0]
      have kR := (Blk.new (w.alloc (.cells #[.int .u32 a, .int .u32 id, .int .u32 ad, .int .i64 h] 48)) 25 [.int .i64 0, .int .i64 0, .int .i64 0, .int .u32 0, .slice none 0 0]).below ((Below.refl _ _).alloc (Nat.le_refl _) (.cells #[.int .i64 4, .int .i64 23456, .int .i64 0, .int .u32 id, .slice none 0 0] 25)) (by simp)
      have kL := ((Blk.new w 48 [.int .u32 a, .int .u32 id, .int .u32 ad, .int .i64 h]).below ((Below.refl _ _).alloc (Nat.le_refl _) (.cells #[.int .i64 0, .int .i64 0, .int .i64 0, .int .u32 0, .slice none 0 0] 25)) (by simp)).below ((Below.refl _ _).alloc (Nat.le_refl _) (.cells #[.int .i64 4, .int .i64 23456, .int .i64 0, .int .u32 id, .slice none 0 0] 25)) (by simp; omega)
      have hz2 : ((w.alloc (.cells #[.int .u32 a, .int .u32 id, .int .u32 ad, .int .i64 h] 48)).alloc (.cells #[.int .i64 0, .int .i64 0, .int .i64 0, .int .u32 0, .slice none 0 0] 25)).heap.size = w.heap.size + 2 := by simp
      have hz3 : (((w.alloc (.cells #[.int .u32 a, .int .u32 id, .int .u32 ad, .int .i64 h] 48)).alloc (.cells #[.int .i64 0, .int .i64 0, .int .i64 0, .int .u32 0, .slice none 0 0] 25)).alloc (.cells #[.int .i64 4, .int .i64 23456, .int .i64 0, .int .u32 id, .slice none 0 0] 25)).heap.size = w.heap.size + 3 := by simp
      rw [hz2] at kO
      rw [show (w.alloc (.cells #[.int .u32 a, .int .u32 id, .int .u32 ad, .int .i64 h] 48)).heap.size = w.heap.size + 1 by simp] at kR
      have hb3 : Below w.heap.size w (((w.alloc (.cells #[.int .u32 a, .int .u32 id, .int .u32 ad, .int .i64 h] 48)).alloc (.cells #[.int .i64 0, .int .i64 0, .int .i64 0, .int .u32 0, .slice none 0 0] 25)).alloc (.cells #[.int .i64 4, .int .i64 23456, .int .i64 0, .int .u32 id, .slice none 0 0] 25)) := (((Below.refl _ _).alloc (Nat.le_refl _) _).alloc (by simp) _).alloc (by simp; omega) _
      obtain ⟨W3, hW3⟩ : ∃ W, W = (((w.alloc (.cells #[.int .u32 a, .int .u32 id, .int .u32 ad, .int .i64 h] 48)).alloc (.cells #[.int .i64 0, .int .i64 0, .int .i64 0, .int .u32 0, .slice none 0 0] 25)).alloc (.cells #[.int .i64 4, .int .i64 23456, .int .i64 0, .int .u32 id, .slice none 0 0] 25)) := ⟨_, rfl⟩
      rw [← hW3] at kO kR kL hz3 hb3
      have HO := Lib.hid kO; have HR := Lib.hid kR; have HL := Lib.hid kL; have HZ := Lib.hid hz3; have HB := Lib.hid hb3; have HW := Lib.hid hW3
      clear kO kR kL hz2 hz3 hb3 hW3
      go_enter Try.func23, Try.ntmps23
      go_wp2_with fail
      rw [← HW.out]
      refine (Q.out _).mono ?_
      rintro e w1 ⟨A1, c1, rfl, f1, g1, ho1, hb1⟩
      have hs1 : w1.heap.size ≥ w.heap.size + 3 := by have := hb1.size; have := HZ.out; omega
      have kO1 := HO.out.below hb1 HO.out.lt
      have kR1 := HR.out.below hb1 HR.out.lt
      have HK := Lib.hid kO1; have HKR := Lib.hid kR1; have HB1 := Lib.hid (HB.out.trans (hb1.mono HB.out.size)); have HS1 := Lib.hid hs1
      have HOW := Lib.hid (And.intro f1 (And.intro g1 ho1))
      clear hb1 ho1 f1 g1 hs1 kO1 kR1
      have hbx := (Below.refl w1.heap.size w1).alloc (Nat.le_refl _) (.cells #[.int .i64 65, .slice A1 (be32 a).length c1] 54)
      have kO2 := HK.out.below hbx HK.out.lt
      have kR2 := HKR.out.below hbx HKR.out.lt
      have kC2 := Blk.new w1 54 [.int .i64 65, .slice A1 (be32 a).length c1]
      have f5 := free5 kO2
      have c5 := cells5 kO2
      have kO3 := kO2.set 4 (.slice (some ⟨w1.heap.size, 0, none⟩) 1 1)
      have kR3 : Blk ((w1.alloc (.cells #[.int .i64 65, .slice A1 (be32 a).length c1] 54)).setCell ⟨w.heap.size + 2, 4, none⟩ (.slice (some ⟨w1.heap.size, 0, none⟩) 1 1)) (w.heap.size + 1) 25 _ := kR2.grown (grown_setCell (grown_refl _ (some (w.heap.size + 2))) 4 _) (by omega)
      have d5 := cells5 kO3
      have g5 := free5 kR3
      have h5 := cells5 kR3
      have r5 := cells5 (kR3.set5 (.int .i64 4) (.int .i64 23456) (.int .i64 0) (.int .u32 id) (.slice (some ⟨w1.heap.size, 0, none⟩) 1 1))
      have kC3 := kC2.grown (grown_setCell (grown_refl _ (some (w.heap.size + 2))) 4 (.slice (some ⟨w1.heap.size, 0, none⟩) 1 1)) (by have := HS1.out; simp; omega)
      have kC4 := kC3.grown (grown_set5 _ (w.heap.size + 1) (.int .i64 4) (.int .i64 23456) (.int .i64 0) (.int .u32 id) (.slice (some ⟨w1.heap.size, 0, none⟩) 1 1)) (by have := HS1.out; simp; omega)
      have hyb := ((HOW.out.2.2.below hbx).beside (grown_setCell (grown_refl _ (some (w.heap.size + 2))) 4 (.slice (some ⟨w1.heap.size, 0, none⟩) 1 1)) (by have := HZ.out; omega)).beside (grown_set5 _ (w.heap.size + 1) (.int .i64 4) (.int .i64 23456) (.int .i64 0) (.int .u32 id) (.slice (some ⟨w1.heap.size, 0, none⟩) 1 1)) (by have := HZ.out; omega)
      have HFIN := Lib.hid (cap_one kC4 hyb.bytes)
      have HBF := Lib.hid (below5 ((HB1.out.trans (hbx.mono HB1.out.size)).setCell (p := ⟨w.heap.size + 2, 4, none⟩) (show w.heap.size ≤ w.heap.size + 2 by omega) (.slice (some ⟨w1.heap.size, 0, none⟩) 1 1)) (Nat.le_succ w.heap.size) (a := .int .i64 4) (b := .int .i64 23456) (c := .int .i64 0) (d := .int .u32 id) (e := .slice (some ⟨w1.heap.size, 0, none⟩) 1 1))
      clear kC3 kC4 hyb
      have HKC := Lib.hid kC2; have HK3 := Lib.hid kO3; have HR3 := Lib.hid kR3; have HBX := Lib.hid hbx
      clear kO2 kR2 kC2 kO3 kR3 hbx
      go_wp2_with fail
      refine bodyPost_ret (v := .agg #[.int .i64 4, .int .i64 23456, .int .i64 0, .int .u32 id, .slice (some ⟨w1.heap.size, 0, none⟩) 1 1]) (by simp [results, Try.results23, go_sem, r5]) rfl ?_
      exact ⟨HBF.out, w1.heap.size, A1, c1, by rw [HE.out.1, HE.out.2], HFIN.out, HOW.out.1, HOW.out.2.1⟩
    · have hA2 : a ≤ 65535 := by omega
      have HE := Lib.hid (And.intro (show mineA a = a from if_neg hA) (show mineH h = 0 from by unfold mineH; omega))
      have kO := Blk.new ((w.alloc (.cells #[.int .u32 a, .int .u32 id, .int .u32 ad, .int .i64 h] 48)).alloc (.cells #[.int .i64 0, .int .i64 0, .int .i64 0, .int .u32 0, .slice none 0 0] 25)) 25 [.int .i64 4, .int .i64 a, .int .i64 0, .int .u32 id, .slice none 0 0]
      have kR := (Blk.new (w.alloc (.cells #[.int .u32 a, .int .u32 id, .int .u32 ad, .int .i64 h] 48)) 25 [.int .i64 0, .int .i64 0, .int .i64 0, .int .u32 0, .slice none 0 0]).below ((Below.refl _ _).alloc (Nat.le_refl _) (.cells #[.int .i64 4, .int .i64 a, .int .i64 0, .int .u32 id, .slice none 0 0] 25)) (by simp)
      have kL := ((Blk.new w 48 [.int .u32 a, .int .u32 id, .int .u32 ad, .int .i64 h]).below ((Below.refl _ _).alloc (Nat.le_refl _) (.cells #[.int .i64 0, .int .i64 0, .int .i64 0, .int .u32 0, .slice none 0 0] 25)) (by simp)).below ((Below.refl _ _).alloc (Nat.le_refl _) (.cells #[.int .i64 4, .int .i64 a, .int .i64 0, .int .u32 id, .slice none 0 0] 25)) (by simp; omega)
      have hz2 : ((w.alloc (.cells #[.int .u32 a, .int .u32 id, .int .u32 ad, .int .i64 h] 48)).alloc (.cells #[.int .i64 0, .int .i64 0, .int .i64 0, .int .u32 0, .slice none 0 0] 25)).heap.size = w.heap.size + 2 := by simp
      have hz3 : (((w.alloc (.cells #[.int .u32 a, .int .u32 id, .int .u32 ad, .int .i64 h] 48)).alloc (.cells #[.int .i64 0, .int .i64 0, .int .i64 0, .int .u32 0, .slice none 0 0] 25)).alloc (.cells #[.int .i64 4, .int .i64 a, .int .i64 0, .int .u32 id, .slice none 0 0] 25)).heap.size = w.heap.size + 3 := by simp
      rw [hz2] at kO
      rw [show (w.alloc (.cells #[.int .u32 a, .int .u32 id, .int .u32 ad, .int .i64 h] 48)).heap.size = w.heap.size + 1 by simp] at kR
      have hb3 : Below w.heap.size w (((w.alloc (.cells #[.int .u32 a, .int .u32 id, .int .u32 ad, .int .i64 h] 48)).alloc (.cells #[.int .i64 0, .int .i64 0, .int .i64 0, .int .u32 0, .slice none 0 0] 25)).alloc (.cells #[.int .i64 4, .int .i64 a, .int .i64 0, .int .u32 id, .slice none 0 0] 25)) := (((Below.refl _ _).alloc (Nat.le_refl _) _).alloc (by simp) _).alloc (by simp; omega) _
      obtain ⟨W3, hW3⟩ : ∃ W, W = (((w.alloc (.cells #[.int .u32 a, .int .u32 id, .int .u32 ad, .int .i64 h] 48)).alloc (.cells #[.int .i64 0, .int .i64 0, .int .i64 0, .int .u32 0, .slice none 0 0] 25)).alloc (.cells #[.int .i64 4, .int .i64 a, .int .i64 0, .int .u32 id, .slice none 0 0] 25)) := ⟨_, rfl⟩
      rw [← hW3] at kO kR kL hz3 hb3
      have HO := Lib.hid kO; have HR := Lib.hid kR; have HL := Lib.hid kL; have HZ := Lib.hid hz3; have HB := Lib.hid hb3; have HW := Lib.hid hW3
      clear kO kR kL hz2 hz3 hb3 hW3
      go_enter Try.func23, Try.ntmps23
      go_wp2_with fail
      rw [← HW.out]
      refine (Q.out _).mono ?_
      rintro e w1 ⟨A1, c1, rfl, f1, g1, ho1, hb1⟩
      have hs1 : w1.heap.size ≥ w.heap.size + 3 := by have := hb1.size; have := HZ.out; omega
      have kO1 := HO.out.below hb1 HO.out.lt
      have kR1 := HR.out.below hb1 HR.out.lt
      have HK := Lib.hid kO1; have HKR := Lib.hid kR1; have HB1 := Lib.hid (HB.out.trans (hb1.mono HB.out.size)); have HS1 := Lib.hid hs1
      have HOW := Lib.hid (And.intro f1 (And.intro g1 ho1))
      clear hb1 ho1 f1 g1 hs1 kO1 kR1
      have hbx := (Below.refl w1.heap.size w1).alloc (Nat.le_refl _) (.cells #[.int .i64 65, .slice A1 (be32 a).length c1] 54)
      have kO2 := HK.out.below hbx HK.out.lt
      have kR2 := HKR.out.below hbx HKR.out.lt
      have kC2 := Blk.new w1 54 [.int .i64 65, .slice A1 (be32 a).length c1]
      have f5 := free5 kO2
      have c5 := cells5 kO2
      have kO3 := kO2.set 4 (.slice (some ⟨w1.heap.size, 0, none⟩) 1 1)
      have kR3 : Blk ((w1.alloc (.cells #[.int .i64 65, .slice A1 (be32 a).length c1] 54)).setCell ⟨w.heap.size + 2, 4, none⟩ (.slice (some ⟨w1.heap.size, 0, none⟩) 1 1)) (w.heap.size + 1) 25 _ := kR2.grown (grown_setCell (grown_refl _ (some (w.heap.size + 2))) 4 _) (by omega)
      have d5 := cells5 kO3
      have g5 := free5 kR3
      have h5 := cells5 kR3
      have r5 := cells5 (kR3.set5 (.int .i64 4) (.int .i64 a) (.int .i64 0) (.int .u32 id) (.slice (some ⟨w1.heap.size, 0, none⟩) 1 1))
      have kC3 := kC2.grown (grown_setCell (grown_refl _ (some (w.heap.size + 2))) 4 (.slice (some ⟨w1.heap.size, 0, none⟩) 1 1)) (by have := HS1.out; simp; omega)
      have kC4 := kC3.grown (grown_set5 _ (w.heap.size + 1) (.int .i64 4) (.int .i64 a) (.int .i64 0) (.int .u32 id) (.slice (some ⟨w1.heap.size, 0, none⟩) 1 1)) (by have := HS1.out; simp; omega)
      have hyb := ((HOW.out.2.2.below hbx).beside (grown_setCell (grown_refl _ (some (w.heap.size + 2))) 4 (.slice (some ⟨w1.heap.size, 0, none⟩) 1 1)) (by have := HZ.out; omega)).beside (grown_set5 _ (w.heap.size + 1) (.int .i64 4) (.int .i64 a) (.int .i64 0) (.int .u32 id) (.slice (some ⟨w1.heap.size, 0, none⟩) 1 1)) (by have := HZ.out; omega)
      have HFIN := Lib.hid (cap_one kC4 hyb.bytes)
      have HBF := Lib.hid (below5 ((HB1.out.trans (hbx.mono HB1.out.size)).setCell (p := ⟨w.heap.size + 2, 4, none⟩) (show w.heap.size ≤ w.heap.size + 2 by omega) (.slice (some ⟨w1.heap.size, 0, none⟩) 1 1)) (Nat.le_succ w.heap.size) (a := .int .i64 4) (b := .int .i64 a) (c := .int .i64 0) (d := .int .u32 id) (e := .slice (some ⟨w1.heap.size, 0, none⟩) 1 1))
      clear kC3 kC4 hyb
      have HKC := Lib.hid kC2; have HK3 := Lib.hid kO3; have HR3 := Lib.hid kR3; have HBX := Lib.hid hbx
      clear kO2 kR2 kC2 kO3 kR3 hbx
      go_wp2_with fail
      refine bodyPost_ret (v := .agg #[.int .i64 4, .int .i64 a, .int .i64 0, .int .u32 id, .slice (some ⟨w1.heap.size, 0, none⟩) 1 1]) (by simp [results, Try.results23, go_sem, r5]) rfl ?_
      exact ⟨HBF.out, w1.heap.size, A1, c1, by rw [HE.out.1, HE.out.2], HFIN.out, HOW.out.1, HOW.out.2.1⟩
  · by_cases h1 : 65535 < h
    · skip
      by_cases hA : 65535 < a
      · have hA2 : ¬ a ≤ 65535 := by omega
        have HE := Lib.hid (And.intro (show mineA a = 23456 from if_pos hA) (show mineH h = 65535 from by unfold mineH; omega))
        have kO := Blk.new ((w.alloc (.cells #[.int .u32 a, .int .u32 id, .int .u32 ad, .int .i64 h] 48)).alloc (.cells #[.int .i64 0, .int .i64 0, .int .i64 0, .int .u32 0, .slice none 0 0] 25)) 25 [.int .i64 4, .int .i64 23456, .int .i64 65535, .int .u32 id, .slice none 0 0]
        have kR := (Blk.new (w.alloc (.cells #[.int .u32 a, .int .u32 id, .int .u32 ad, .int .i64 h] 48)) 25 [.int .i64 0, .int .i64 0, .int .i64 0, .int .u32 0, .slice none 0 0]).below ((Below.refl _ _).alloc (Nat.le_refl _) (.cells #[.int .i64 4, .int .i64 23456, .int .i64 65535, .int .u32 id, .slice none 0 0] 25)) (by simp)
        have kL := ((Blk.new w 48 [.int .u32 a, .int .u32 id, .int .u32 ad, .int .i64 h]).below ((Below.refl _ _).alloc (Nat.le_refl _) (.cells #[.int .i64 0, .int .i64 0, .int .i64 0, .int .u32 0, .slice none 0 0] 25)) (by simp)).below ((Below.refl _ _).alloc (Nat.le_refl _) (.cells #[.int .i64 4, .int .i64 23456, .int .i64 65535, .int .u32 id, .slice none 0 0] 25)) (by simp; omega)
        have hz2 : ((w.alloc (.cells #[.int .u32 a, .int .u32 id, .int .u32 ad, .int .i64 h] 48)).alloc (.cells #[.int .i64 0, .int .i64 0, .int .i64 0, .int .u32 0, .slice none 0 0] 25)).heap.size = w.heap.size + 2 := by simp
        have hz3 : (((w.alloc (.cells #[.int .u32 a, .int .u32 id, .int .u32 ad, .int .i64 h] 48)).alloc (.cells #[.int .i64 0, .int .i64 0, .int .i64 0, .int .u32 0, .slice none 0 0] 25)).alloc (.cells #[.int .i64 4, .int .i64 23456, .int .i64 65535, .int .u32 id, .slice none 0 0] 25)).heap.size = w.heap.size + 3 := by simp
        rw [hz2] at kO
        rw [show (w.alloc (.cells #[.int .u32 a, .int .u32 id, .int .u32 ad, .int .i64 h] 48)).heap.size = w.heap.size + 1 by simp] at kR
        have hb3 : Below w.heap.size w (((w.alloc (.cells #[.int .u32 a, .int .u32 id, .int .u32 ad, .int .i64 h] 48)).alloc (.cells #[.int .i64 0, .int .i64 0, .int .i64 0, .int .u32 0, .slice none 0 0] 25)).alloc (.cells #[.int .i64 4, .int .i64 23456, .int .i64 65535, .int .u32 id, .slice none 0 0] 25)) := (((Below.refl _ _).alloc (Nat.le_refl _) _).alloc (by simp) _).alloc (by simp; omega) _
        obtain ⟨W3, hW3⟩ : ∃ W, W = (((w.alloc (.cells #[.int .u32 a, .int .u32 id, .int .u32 ad, .int .i64 h] 48)).alloc (.cells #[.int .i64 0, .int .i64 0, .int .i64 0, .int .u32 0, .slice none 0 0] 25)).alloc (.cells #[.int .i64 4, .int .i64 23456, .int .i64 65535, .int .u32 id, .slice none 0 0] 25)) := ⟨_, rfl⟩
        rw [← hW3] at kO kR kL hz3 hb3
        have HO := Lib.hid kO; have HR := Lib.hid kR; have HL := Lib.hid kL; have HZ := Lib.hid hz3; have HB := Lib.hid hb3; have HW := Lib.hid hW3
        clear kO kR kL hz2 hz3 hb3 hW3
        go_enter Try.func23, Try.ntmps23
        go_wp2_with fail
        rw [← HW.out]
        refine (Q.out _).mono ?_
        rintro e w1 ⟨A1, c1, rfl, f1, g1, ho1, hb1⟩
        have hs1 : w1.heap.size ≥ w.heap.size + 3 := by have := hb1.size; have := HZ.out; omega
        have kO1 := HO.out.below hb1 HO.out.lt
        have kR1 := HR.out.below hb1 HR.out.lt
        have HK := Lib.hid kO1; have HKR := Lib.hid kR1; have HB1 := Lib.hid (HB.out.trans (hb1.mono HB.out.size)); have HS1 := Lib.hid hs1
        have HOW := Lib.hid (And.intro f1 (And.intro g1 ho1))
        clear hb1 ho1 f1 g1 hs1 kO1 kR1
        have hbx := (Below.refl w1.heap.size w1).alloc (Nat.le_refl _) (.cells #[.int .i64 65, .slice A1 (be32 a).length c1] 54)
        have kO2 := HK.out.below hbx HK.out.lt
        have kR2 := HKR.out.below hbx HKR.out.lt
        have kC2 := Blk.new w1 54 [.int .i64 65, .slice A1 (be32 a).length c1]
        have f5 := free5 kO2
        have c5 := cells5 kO2
        have kO3 := kO2.set 4 (.slice (some ⟨w1.heap.size, 0, none⟩) 1 1)
        have kR3 : Blk ((w1.alloc (.cells #[.int .i64 65, .slice A1 (be32 a).length c1] 54)).setCell ⟨w.heap.size + 2, 4, none⟩ (.slice (some ⟨w1.heap.size, 0, none⟩) 1 1)) (w.heap.size + 1) 25 _ := kR2.grown (grown_setCell (grown_refl _ (some (w.heap.size + 2))) 4 _) (by omega)
        have d5 := cells5 kO3
        have g5 := free5 kR3
        have h5 := cells5 kR3
        have r5 := cells5 (kR3.set5 (.int .i64 4) (.int .i64 23456) (.int .i64 65535) (.int .u32 id) (.slice (some ⟨w1.heap.size, 0, none⟩) 1 1))
        have kC3 := kC2.grown (grown_setCell (grown_refl _ (some (w.heap.size + 2))) 4 (.slice (some ⟨w1.heap.size, 0, none⟩) 1 1)) (by have := HS1.out; simp; omega)
        have kC4 := kC3.grown (grown_set5 _ (w.heap.size + 1) (.int .i64 4) (.int .i64 23456) (.int .i64 65535) (.int .u32 id) (.slice (some ⟨w1.heap.size, 0, none⟩) 1 1)) (by have := HS1.out; simp; omega)
        have hyb := ((HOW.out.2.2.below hbx).beside (grown_setCell (grown_refl _ (some (w.heap.size + 2))) 4 (.slice (some ⟨w1.heap.size, 0, none⟩) 1 1)) (by have := HZ.out; omega)).beside (grown_set5 _ (w.heap.size + 1) (.int .i64 4) (.int .i64 23456) (.int .i64 65535) (.int .u32 id) (.slice (some ⟨w1.heap.size, 0, none⟩) 1 1)) (by have := HZ.out; omega)
        have HFIN := Lib.hid (cap_one kC4 hyb.bytes)
        have HBF := Lib.hid (below5 ((HB1.out.trans (hbx.mono HB1.out.size)).setCell (p := ⟨w.heap.size + 2, 4, none⟩) (show w.heap.size ≤ w.heap.size + 2 by omega) (.slice (some ⟨w1.heap.size, 0, none⟩) 1 1)) (Nat.le_succ w.heap.size) (a := .int .i64 4) (b := .int .i64 23456) (c := .int .i64 65535) (d := .int .u32 id) (e := .slice (some ⟨w1.heap.size, 0, none⟩) 1 1))
        clear kC3 kC4 hyb
        have HKC := Lib.hid kC2; have HK3 := Lib.hid kO3; have HR3 := Lib.hid kR3; have HBX := Lib.hid hbx
        clear kO2 kR2 kC2 kO3 kR3 hbx
        go_wp2_with fail
        refine bodyPost_ret (v := .agg #[.int .i64 4, .int .i64 23456, .int .i64 65535, .int .u32 id, .slice (some ⟨w1.heap.size, 0, none⟩) 1 1]) (by simp [results, Try.results23, go_sem, r5]) rfl ?_
        exact ⟨HBF.out, w1.heap.size, A1, c1, by rw [HE.out.1, HE.out.2], HFIN.out, HOW.out.1, HOW.out.2.1⟩
      · have hA2 : a ≤ 65535 := by omega
        have HE := Lib.hid (And.intro (show mineA a = a from if_neg hA) (show mineH h = 65535 from by unfold mineH; omega))
        have kO := Blk.new ((w.alloc (.cells #[.int .u32 a, .int .u32 id, .int .u32 ad, .int .i64 h] 48)).alloc (.cells #[.int .i64 0, .int .i64 0, .int .i64 0, .int .u32 0, .slice none 0 0] 25)) 25 [.int .i64 4, .int .i64 a, .int .i64 65535, .int .u32 id, .slice none 0 0]
        have kR := (Blk.new (w.alloc (.cells #[.int .u32 a, .int .u32 id, .int .u32 ad, .int .i64 h] 48)) 25 [.int .i64 0, .int .i64 0, .int .i64 0, .int .u32 0, .slice none 0 0]).below ((Below.refl _ _).alloc (Nat.le_refl _) (.cells #[.int .i64 4, .int .i64 a, .int .i64 65535, .int .u32 id, .slice none 0 0] 25)) (by simp)
        have kL := ((Blk.new w 48 [.int .u32 a, .int .u32 id, .int .u32 ad, .int .i64 h]).below ((Below.refl _ _).alloc (Nat.le_refl _) (.cells #[.int .i64 0, .int .i64 0, .int .i64 0, .int .u32 0, .slice none 0 0] 25)) (by simp)).below ((Below.refl _ _).alloc (Nat.le_refl _) (.cells #[.int .i64 4, .int .i64 a, .int .i64 65535, .int .u32 id, .slice none 0 0] 25)) (by simp; omega)
        have hz2 : ((w.alloc (.cells #[.int .u32 a, .int .u32 id, .int .u32 ad, .int .i64 h] 48)).alloc (.cells #[.int .i64 0, .int .i64 0, .int .i64 0, .int .u32 0, .slice none 0 0] 25)).heap.size = w.heap.size + 2 := by simp
        have hz3 : (((w.alloc (.cells #[.int .u32 a, .int .u32 id, .int .u32 ad, .int .i64 h] 48)).alloc (.cells #[.int .i64 0, .int .i64 0, .int .i64 0, .int .u32 0, .slice none 0 0] 25)).alloc (.cells #[.int .i64 4, .int .i64 a, .int .i64 65535, .int .u32 id, .slice none 0 0] 25)).heap.size = w.heap.size + 3 := by simp
        rw [hz2] at kO
        rw [show (w.alloc (.cells #[.int .u32 a, .int .u32 id, .int .u32 ad, .int .i64 h] 48)).heap.size = w.heap.size + 1 by simp] at kR
        have hb3 : Below w.heap.size w (((w.alloc (.cells #[.int .u32 a, .int .u32 id, .int .u32 ad, .int .i64 h] 48)).alloc (.cells #[.int .i64 0, .int .i64 0, .int .i64 0, .int .u32 0, .slice none 0 0] 25)).alloc (.cells #[.int .i64 4, .int .i64 a, .int .i64 65535, .int .u32 id, .slice none 0 0] 25)) := (((Below.refl _ _).alloc (Nat.le_refl _) _).alloc (by simp) _).alloc (by simp; omega) _
        obtain ⟨W3, hW3⟩ : ∃ W, W = (((w.alloc (.cells #[.int .u32 a, .int .u32 id, .int .u32 ad, .int .i64 h] 48)).alloc (.cells #[.int .i64 0, .int .i64 0, .int .i64 0, .int .u32 0, .slice none 0 0] 25)).alloc (.cells #[.int .i64 4, .int .i64 a, .int .i64 65535, .int .u32 id, .slice none 0 0] 25)) := ⟨_, rfl⟩
        rw [← hW3] at kO kR kL hz3 hb3
        have HO := Lib.hid kO; have HR := Lib.hid kR; have HL := Lib.hid kL; have HZ := Lib.hid hz3; have HB := Lib.hid hb3; have HW := Lib.hid hW3
        clear kO kR kL hz2 hz3 hb3 hW3
        go_enter Try.func23, Try.ntmps23
        go_wp2_with fail
        rw [← HW.out]
        refine (Q.out _).mono ?_
        rintro e w1 ⟨A1, c1, rfl, f1, g1, ho1, hb1⟩
        have hs1 : w1.heap.size ≥ w.heap.size + 3 := by have := hb1.size; have := HZ.out; omega
        have kO1 := HO.out.below hb1 HO.out.lt
        have kR1 := HR.out.below hb1 HR.out.lt
        have HK := Lib.hid kO1; have HKR := Lib.hid kR1; have HB1 := Lib.hid (HB.out.trans (hb1.mono HB.out.size)); have HS1 := Lib.hid hs1
        have HOW := Lib.hid (And.intro f1 (And.intro g1 ho1))
        clear hb1 ho1 f1 g1 hs1 kO1 kR1
        have hbx := (Below.refl w1.heap.size w1).alloc (Nat.le_refl _) (.cells #[.int .i64 65, .slice A1 (be32 a).length c1] 54)
        have kO2 := HK.out.below hbx HK.out.lt
        have kR2 := HKR.out.below hbx HKR.out.lt
        have kC2 := Blk.new w1 54 [.int .i64 65, .slice A1 (be32 a).length c1]
        have f5 := free5 kO2
        have c5 := cells5 kO2
        have kO3 := kO2.set 4 (.slice (some ⟨w1.heap.size, 0, none⟩) 1 1)
        have kR3 : Blk ((w1.alloc (.cells #[.int .i64 65, .slice A1 (be32 a).length c1] 54)).setCell ⟨w.heap.size + 2, 4, none⟩ (.slice (some ⟨w1.heap.size, 0, none⟩) 1 1)) (w.heap.size + 1) 25 _ := kR2.grown (grown_setCell (grown_refl _ (some (w.heap.size + 2))) 4 _) (by omega)
        have d5 := cells5 kO3
        have g5 := free5 kR3
        have h5 := cells5 kR3
        have r5 := cells5 (kR3.set5 (.int .i64 4) (.int .i64 a) (.int .i64 65535) (.int .u32 id) (.slice (some ⟨w1.heap.size, 0, none⟩) 1 1))
        have kC3 := kC2.grown (grown_setCell (grown_refl _ (some (w.heap.size + 2))) 4 (.slice (some ⟨w1.heap.size, 0, none⟩) 1 1)) (by have := HS1.out; simp; omega)
        have kC4 := kC3.grown (grown_set5 _ (w.heap.size + 1) (.int .i64 4) (.int .i64 a) (.int .i64 65535) (.int .u32 id) (.slice (some ⟨w1.heap.size, 0, none⟩) 1 1)) (by have := HS1.out; simp; omega)
        have hyb := ((HOW.out.2.2.below hbx).beside (grown_setCell (grown_refl _ (some (w.heap.size + 2))) 4 (.slice (some ⟨w1.heap.size, 0, none⟩) 1 1)) (by have := HZ.out; omega)).beside (grown_set5 _ (w.heap.size + 1) (.int .i64 4) (.int .i64 a) (.int .i64 65535) (.int .u32 id) (.slice (some ⟨w1.heap.size, 0, none⟩) 1 1)) (by have := HZ.out; omega)
        have HFIN := Lib.hid (cap_one kC4 hyb.bytes)
        have HBF := Lib.hid (below5 ((HB1.out.trans (hbx.mono HB1.out.size)).setCell (p := ⟨w.heap.size + 2, 4, none⟩) (show w.heap.size ≤ w.heap.size + 2 by omega) (.slice (some ⟨w1.heap.size, 0, none⟩) 1 1)) (Nat.le_succ w.heap.size) (a := .int .i64 4) (b := .int .i64 a) (c := .int .i64 65535) (d := .int .u32 id) (e := .slice (some ⟨w1.heap.size, 0, none⟩) 1 1))
        clear kC3 kC4 hyb
        have HKC := Lib.hid kC2; have HK3 := Lib.hid kO3; have HR3 := Lib.hid kR3; have HBX := Lib.hid hbx
        clear kO2 kR2 kC2 kO3 kR3 hbx
        go_wp2_with fail
        refine bodyPost_ret (v := .agg #[.int .i64 4, .int .i64 a, .int .i64 65535, .int .u32 id, .slice (some ⟨w1.heap.size, 0, none⟩) 1 1]) (by simp [results, Try.results23, go_sem, r5]) rfl ?_
        exact ⟨HBF.out, w1.heap.size, A1, c1, by rw [HE.out.1, HE.out.2], HFIN.out, HOW.out.1, HOW.out.2.1⟩
    · skip
      by_cases hA : 65535 < a
      · have hA2 : ¬ a ≤ 65535 := by omega
        have HE := Lib.hid (And.intro (show mineA a = 23456 from if_pos hA) (show mineH h = h from by unfold mineH; omega))
        have kO := Blk.new ((w.alloc (.cells #[.int .u32 a, .int .u32 id, .int .u32 ad, .int .i64 h] 48)).alloc (.cells #[.int .i64 0, .int .i64 0, .int .i64 0, .int .u32 0, .slice none 0 0] 25)) 25 [.int .i64 4, .int .i64 23456, .int .i64 h, .int .u32 id, .slice none 0 0]
        have kR := (Blk.new (w.alloc (.cells #[.int .u32 a, .int .u32 id, .int .u32 ad, .int .i64 h] 48)) 25 [.int .i64 0, .int .i64 0, .int .i64 0, .int .u32 0, .slice none 0 0]).below ((Below.refl _ _).alloc (Nat.le_refl _) (.cells #[.int .i64 4, .int .i64 23456, .int .i64 h, .int .u32 id, .slice none 0 0] 25)) (by simp)
        have kL := ((Blk.new w 48 [.int .u32 a, .int .u32 id, .int .u32 ad, .int .i64 h]).below ((Below.refl _ _).alloc (Nat.le_refl _) (.cells #[.int .i64 0, .int .i64 0, .int .i64 0, .int .u32 0, .slice none 0 0] 25)) (by simp)).below ((Below.refl _ _).alloc (Nat.le_refl _) (.cells #[.int .i64 4, .int .i64 23456, .int .i64 h, .int .u32 id, .slice none 0 0] 25)) (by simp; omega)
        have hz2 : ((w.alloc (.cells #[.int .u32 a, .int .u32 id, .int .u32 ad, .int .i64 h] 48)).alloc (.cells #[.int .i64 0, .int .i64 0, .int .i64 0, .int .u32 0, .slice none 0 0] 25)).heap.size = w.heap.size + 2 := by simp
        have hz3 : (((w.alloc (.cells #[.int .u32 a, .int .u32 id, .int .u32 ad, .int .i64 h] 48)).alloc (.cells #[.int .i64 0, .int .i64 0, .int .i64 0, .int .u32 0, .slice none 0 0] 25)).alloc (.cells #[.int .i64 4, .int .i64 23456, .int .i64 h, .int .u32 id, .slice none 0 0] 25)).heap.size = w.heap.size + 3 := by simp
        rw [hz2] at kO
        rw [show (w.alloc (.cells #[.int .u32 a, .int .u32 id, .int .u32 ad, .int .i64 h] 48)).heap.size = w.heap.size + 1 by simp] at kR
        have hb3 : Below w.heap.size w (((w.alloc (.cells #[.int .u32 a, .int .u32 id, .int .u32 ad, .int .i64 h] 48)).alloc (.cells #[.int .i64 0, .int .i64 0, .int .i64 0, .int .u32 0, .slice none 0 0] 25)).alloc (.cells #[.int .i64 4, .int .i64 23456, .int .i64 h, .int .u32 id, .slice none 0 0] 25)) := (((Below.refl _ _).alloc (Nat.le_refl _) _).alloc (by simp) _).alloc (by simp; omega) _
        obtain ⟨W3, hW3⟩ : ∃ W, W = (((w.alloc (.cells #[.int .u32 a, .int .u32 id, .int .u32 ad, .int .i64 h] 48)).alloc (.cells #[.int .i64 0, .int .i64 0, .int .i64 0, .int .u32 0, .slice none 0 0] 25)).alloc (.cells #[.int .i64 4, .int .i64 23456, .int .i64 h, .int .u32 id, .slice none 0 0] 25)) := ⟨_, rfl⟩
        rw [← hW3] at kO kR kL hz3 hb3
        have HO := Lib.hid kO; have HR := Lib.hid kR; have HL := Lib.hid kL; have HZ := Lib.hid hz3; have HB := Lib.hid hb3; have HW := Lib.hid hW3
        clear kO kR kL hz2 hz3 hb3 hW3
        go_enter Try.func23, Try.ntmps23
        go_wp2_with fail
        rw [← HW.out]
        refine (Q.out _).mono ?_
        rintro e w1 ⟨A1, c1, rfl, f1, g1, ho1, hb1⟩
        have hs1 : w1.heap.size ≥ w.heap.size + 3 := by have := hb1.size; have := HZ.out; omega
        have kO1 := HO.out.below hb1 HO.out.lt
        have kR1 := HR.out.below hb1 HR.out.lt
        have HK := Lib.hid kO1; have HKR := Lib.hid kR1; have HB1 := Lib.hid (HB.out.trans (hb1.mono HB.out.size)); have HS1 := Lib.hid hs1
        have HOW := Lib.hid (And.intro f1 (And.intro g1 ho1))
        clear hb1 ho1 f1 g1 hs1 kO1 kR1
        have hbx := (Below.refl w1.heap.size w1).alloc (Nat.le_refl _) (.cells #[.int .i64 65, .slice A1 (be32 a).length c1] 54)
        have kO2 := HK.out.below hbx HK.out.lt
        have kR2 := HKR.out.below hbx HKR.out.lt
        have kC2 := Blk.new w1 54 [.int .i64 65, .slice A1 (be32 a).length c1]
        have f5 := free5 kO2
        have c5 := cells5 kO2
        have kO3 := kO2.set 4 (.slice (some ⟨w1.heap.size, 0, none⟩) 1 1)
        have kR3 : Blk ((w1.alloc (.cells #[.int .i64 65, .slice A1 (be32 a).length c1] 54)).setCell ⟨w.heap.size + 2, 4, none⟩ (.slice (some ⟨w1.heap.size, 0, none⟩) 1 1)) (w.heap.size + 1) 25 _ := kR2.grown (grown_setCell (grown_refl _ (some (w.heap.size + 2))) 4 _) (by omega)
        have d5 := cells5 kO3
        have g5 := free5 kR3
        have h5 := cells5 kR3
        have r5 := cells5 (kR3.set5 (.int .i64 4) (.int .i64 23456) (.int .i64 h) (.int .u32 id) (.slice (some ⟨w1.heap.size, 0, none⟩) 1 1))
        have kC3 := kC2.grown (grown_setCell (grown_refl _ (some (w.heap.size + 2))) 4 (.slice (some ⟨w1.heap.size, 0, none⟩) 1 1)) (by have := HS1.out; simp; omega)
        have kC4 := kC3.grown (grown_set5 _ (w.heap.size + 1) (.int .i64 4) (.int .i64 23456) (.int .i64 h) (.int .u32 id) (.slice (some ⟨w1.heap.size, 0, none⟩) 1 1)) (by have := HS1.out; simp; omega)
        have hyb := ((HOW.out.2.2.below hbx).beside (grown_setCell (grown_refl _ (some (w.heap.size + 2))) 4 (.slice (some ⟨w1.heap.size, 0, none⟩) 1 1)) (by have := HZ.out; omega)).beside (grown_set5 _ (w.heap.size + 1) (.int .i64 4) (.int .i64 23456) (.int .i64 h) (.int .u32 id) (.slice (some ⟨w1.heap.size, 0, none⟩) 1 1)) (by have := HZ.out; omega)
        have HFIN := Lib.hid (cap_one kC4 hyb.bytes)
        have HBF := Lib.hid (below5 ((HB1.out.trans (hbx.mono HB1.out.size)).setCell (p := ⟨w.heap.size + 2, 4, none⟩) (show w.heap.size ≤ w.heap.size + 2 by omega) (.slice (some ⟨w1.heap.size, 0, none⟩) 1 1)) (Nat.le_succ w.heap.size) (a := .int .i64 4) (b := .int .i64 23456) (c := .int .i64 h) (d := .int .u32 id) (e := .slice (some ⟨w1.heap.size, 0, none⟩) 1 1))
        clear kC3 kC4 hyb
        have HKC := Lib.hid kC2; have HK3 := Lib.hid kO3; have HR3 := Lib.hid kR3; have HBX := Lib.hid hbx
        clear kO2 kR2 kC2 kO3 kR3 hbx
        go_wp2_with fail
        refine bodyPost_ret (v := .agg #[.int .i64 4, .int .i64 23456, .int .i64 h, .int .u32 id, .slice (some ⟨w1.heap.size, 0, none⟩) 1 1]) (by simp [results, Try.results23, go_sem, r5]) rfl ?_
        exact ⟨HBF.out, w1.heap.size, A1, c1, by rw [HE.out.1, HE.out.2], HFIN.out, HOW.out.1, HOW.out.2.1⟩
      · have hA2 : a ≤ 65535 := by omega
        have HE := Lib.hid (And.intro (show mineA a = a from if_neg hA) (show mineH h = h from by unfold mineH; omega))
        have kO := Blk.new ((w.alloc (.cells #[.int .u32 a, .int .u32 id, .int .u32 ad, .int .i64 h] 48)).alloc (.cells #[.int .i64 0, .int .i64 0, .int .i64 0, .int .u32 0, .slice none 0 0] 25)) 25 [.int .i64 4, .int .i64 a, .int .i64 h, .int .u32 id, .slice none 0 0]
        have kR := (Blk.new (w.alloc (.cells #[.int .u32 a, .int .u32 id, .int .u32 ad, .int .i64 h] 48)) 25 [.int .i64 0, .int .i64 0, .int .i64 0, .int .u32 0, .slice none 0 0]).below ((Below.refl _ _).alloc (Nat.le_refl _) (.cells #[.int .i64 4, .int .i64 a, .int .i64 h, .int .u32 id, .slice none 0 0] 25)) (by simp)
        have kL := ((Blk.new w 48 [.int .u32 a, .int .u32 id, .int .u32 ad, .int .i64 h]).below ((Below.refl _ _).alloc (Nat.le_refl _) (.cells #[.int .i64 0, .int .i64 0, .int .i64 0, .int .u32 0, .slice none 0 0] 25)) (by simp)).below ((Below.refl _ _).alloc (Nat.le_refl _) (.cells #[.int .i64 4, .int .i64 a, .int .i64 h, .int .u32 id, .slice none 0 0] 25)) (by simp; omega)
        have hz2 : ((w.alloc (.cells #[.int .u32 a, .int .u32 id, .int .u32 ad, .int .i64 h] 48)).alloc (.cells #[.int .i64 0, .int .i64 0, .int .i64 0, .int .u32 0, .slice none 0 0] 25)).heap.size = w.heap.size + 2 := by simp
        have hz3 : (((w.alloc (.cells #[.int .u32 a, .int .u32 id, .int .u32 ad, .int .i64 h] 48)).alloc (.cells #[.int .i64 0, .int .i64 0, .int .i64 0, .int .u32 0, .slice none 0 0] 25)).alloc (.cells #[.int .i64 4, .int .i64 a, .int .i64 h, .int .u32 id, .slice none 0 0] 25)).heap.size = w.heap.size + 3 := by simp
        rw [hz2] at kO
        rw [show (w.alloc (.cells #[.int .u32 a, .int .u32 id, .int .u32 ad, .int .i64 h] 48)).heap.size = w.heap.size + 1 by simp] at kR
        have hb3 : Below w.heap.size w (((w.alloc (.cells #[.int .u32 a, .int .u32 id, .int .u32 ad, .int .i64 h] 48)).alloc (.cells #[.int .i64 0, .int .i64 0, .int .i64 0, .int .u32 0, .slice none 0 0] 25)).alloc (.cells #[.int .i64 4, .int .i64 a, .int .i64 h, .int .u32 id, .slice none 0 0] 25)) := (((Below.refl _ _).alloc (Nat.le_refl _) _).alloc (by simp) _).alloc (by simp; omega) _
        obtain ⟨W3, hW3⟩ : ∃ W, W = (((w.alloc (.cells #[.int .u32 a, .int .u32 id, .int .u32 ad, .int .i64 h] 48)).alloc (.cells #[.int .i64 0, .int .i64 0, .int .i64 0, .int .u32 0, .slice none 0 0] 25)).alloc (.cells #[.int .i64 4, .int .i64 a, .int .i64 h, .int .u32 id, .slice none 0 0] 25)) := ⟨_, rfl⟩
        rw [← hW3] at kO kR kL hz3 hb3
        have HO := Lib.hid kO; have HR := Lib.hid kR; have HL := Lib.hid kL; have HZ := Lib.hid hz3; have HB := Lib.hid hb3; have HW := Lib.hid hW3
        clear kO kR kL hz2 hz3 hb3 hW3
        go_enter Try.func23, Try.ntmps23
        go_wp2_with fail
        rw [← HW.out]
        refine (Q.out _).mono ?_
        rintro e w1 ⟨A1, c1, rfl, f1, g1, ho1, hb1⟩
        have hs1 : w1.heap.size ≥ w.heap.size + 3 := by have := hb1.size; have := HZ.out; omega
        have kO1 := HO.out.below hb1 HO.out.lt
        have kR1 := HR.out.below hb1 HR.out.lt
        have HK := Lib.hid kO1; have HKR := Lib.hid kR1; have HB1 := Lib.hid (HB.out.trans (hb1.mono HB.out.size)); have HS1 := Lib.hid hs1
        have HOW := Lib.hid (And.intro f1 (And.intro g1 ho1))
        clear hb1 ho1 f1 g1 hs1 kO1 kR1
        have hbx := (Below.refl w1.heap.size w1).alloc (Nat.le_refl _) (.cells #[.int .i64 65, .slice A1 (be32 a).length c1] 54)
        have kO2 := HK.out.below hbx HK.out.lt
        have kR2 := HKR.out.below hbx HKR.out.lt
        have kC2 := Blk.new w1 54 [.int .i64 65, .slice A1 (be32 a).length c1]
        have f5 := free5 kO2
        have c5 := cells5 kO2
        have kO3 := kO2.set 4 (.slice (some ⟨w1.heap.size, 0, none⟩) 1 1)
        have kR3 : Blk ((w1.alloc (.cells #[.int .i64 65, .slice A1 (be32 a).length c1] 54)).setCell ⟨w.heap.size + 2, 4, none⟩ (.slice (some ⟨w1.heap.size, 0, none⟩) 1 1)) (w.heap.size + 1) 25 _ := kR2.grown (grown_setCell (grown_refl _ (some (w.heap.size + 2))) 4 _) (by omega)
        have d5 := cells5 kO3
        have g5 := free5 kR3
        have h5 := cells5 kR3
        have r5 := cells5 (kR3.set5 (.int .i64 4) (.int .i64 a) (.int .i64 h) (.int .u32 id) (.slice (some ⟨w1.heap.size, 0, none⟩) 1 1))
        have kC3 := kC2.grown (grown_setCell (grown_refl _ (some (w.heap.size + 2))) 4 (.slice (some ⟨w1.heap.size, 0, none⟩) 1 1)) (by have := HS1.out; simp; omega)
        have kC4 := kC3.grown (grown_set5 _ (w.heap.size + 1) (.int .i64 4) (.int .i64 a) (.int .i64 h) (.int .u32 id) (.slice (some ⟨w1.heap.size, 0, none⟩) 1 1)) (by have := HS1.out; simp; omega)
        have hyb := ((HOW.out.2.2.below hbx).beside (grown_setCell (grown_refl _ (some (w.heap.size + 2))) 4 (.slice (some ⟨w1.heap.size, 0, none⟩) 1 1)) (by have := HZ.out; omega)).beside (grown_set5 _ (w.heap.size + 1) (.int .i64 4) (.int .i64 a) (.int .i64 h) (.int .u32 id) (.slice (some ⟨w1.heap.size, 0, none⟩) 1 1)) (by have := HZ.out; omega)
        have HFIN := Lib.hid (cap_one kC4 hyb.bytes)
        have HBF := Lib.hid (below5 ((HB1.out.trans (hbx.mono HB1.out.size)).setCell (p := ⟨w.heap.size + 2, 4, none⟩) (show w.heap.size ≤ w.heap.size + 2 by omega) (.slice (some ⟨w1.heap.size, 0, none⟩) 1 1)) (Nat.le_succ w.heap.size) (a := .int .i64 4) (b := .int .i64 a) (c := .int .i64 h) (d := .int .u32 id) (e := .slice (some ⟨w1.heap.size, 0, none⟩) 1 1))
        clear kC3 kC4 hyb
        have HKC := Lib.hid kC2; have HK3 := Lib.hid kO3; have HR3 := Lib.hid kR3; have HBX := Lib.hid hbx
        clear kO2 kR2 kC2 kO3 kR3 hbx
        go_wp2_with fail
        refine bodyPost_ret (v := .agg #[.int .i64 4, .int .i64 a, .int .i64 h, .int .u32 id, .slice (some ⟨w1.heap.size, 0, none⟩) 1 1]) (by simp [results, Try.results23, go_sem, r5]) rfl ?_
        exact ⟨HBF.out, w1.heap.size, A1, c1, by rw [HE.out.1, HE.out.2], HFIN.out, HOW.out.1, HOW.out.2.1⟩
end Go.Proofs.Ytpdnpphkkobhgaa

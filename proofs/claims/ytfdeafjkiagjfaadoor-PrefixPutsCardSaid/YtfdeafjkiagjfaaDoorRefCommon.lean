/-
  What two prefixes have in common, by the document (written by gen02c.py).
-/
import Derived.Test.YtfdeafjkiagjfaaDoorCommon
import Derived.Test.YtfdeafjkiagjfaaDoorRefCovers
namespace Go.Proofs.YtfdeafjkiagjfaaDoor
set_option linter.unusedVariables false
set_option linter.unusedSimpArgs false
open Go.RowKit

theorem cells2 {w : World} {g T : Nat} {u v : Value} (h : Blk w g T [u, v]) : w.cell? ⟨g, 0, none⟩ = some u ∧ w.cell? ⟨g, 1, none⟩ = some v := ⟨h.cell 0, h.cell 1⟩
theorem free2 {w : World} {g T : Nat} {cs : List Value} (h : Blk w g T cs) : w.frozen? ⟨g, 0, none⟩ = false ∧ w.frozen? ⟨g, 1, none⟩ = false := ⟨h.free 0, h.free 1⟩
/-- Four blocks of a call's own. -/
theorem boxes4 (w : World) {w' : World} (c1 c2 c3 c4 : List Value) {T : Nat} (hb : Below ((((w.alloc (.cells c1.toArray T)).alloc (.cells c2.toArray T)).alloc (.cells c3.toArray T)).alloc (.cells c4.toArray T)).heap.size ((((w.alloc (.cells c1.toArray T)).alloc (.cells c2.toArray T)).alloc (.cells c3.toArray T)).alloc (.cells c4.toArray T)) w') :
    Blk w' w.heap.size T c1 ∧ Blk w' (w.heap.size + 1) T c2 ∧ Blk w' (w.heap.size + 1 + 1) T c3 ∧ Blk w' (w.heap.size + 1 + 1 + 1) T c4 := by
  have h1 := Blk.new w T c1
  have h2 := Blk.new (w.alloc (.cells c1.toArray T)) T c2
  have h3 := Blk.new ((w.alloc (.cells c1.toArray T)).alloc (.cells c2.toArray T)) T c3
  have h4 := Blk.new (((w.alloc (.cells c1.toArray T)).alloc (.cells c2.toArray T)).alloc (.cells c3.toArray T)) T c4
  have b3 := below_box hb
  have b2 := below_box b3
  have b1 := below_box b2
  have e2 : (w.alloc (.cells c1.toArray T)).heap.size = w.heap.size + 1 := by simp
  have e3 : ((w.alloc (.cells c1.toArray T)).alloc (.cells c2.toArray T)).heap.size = w.heap.size + 1 + 1 := by simp
  have e4 : (((w.alloc (.cells c1.toArray T)).alloc (.cells c2.toArray T)).alloc (.cells c3.toArray T)).heap.size = w.heap.size + 1 + 1 + 1 := by simp
  refine ⟨h1.below b1 (by simp), ?_, ?_, ?_⟩
  · rw [← e2]; exact h2.below b2 (by simp)
  · rw [← e3]; exact h3.below b3 (by simp)
  · rw [← e4]; exact h4.below hb (by simp)
theorem below_w4 {w w' : World} {o p q r : Obj} (hb : Below (((((w.alloc o).alloc p).alloc q).alloc r).heap.size - 1) ((((w.alloc o).alloc p).alloc q).alloc r) w') (hz : True := trivial) : Below w.heap.size w w' := by
  have h1 : (((((w.alloc o).alloc p).alloc q).alloc r).heap.size - 1) = (((w.alloc o).alloc p).alloc q).heap.size := by simp
  rw [h1] at hb
  exact below_box (below_box (below_box (((Below.refl _ _).alloc (Nat.le_refl _) r).trans hb)))
theorem below_set3 {w w1 : World} {h : Nat} {u v : Value} (hb : Below w.heap.size w w1) (hg : w.heap.size ≤ h) : Below w.heap.size w ((w1.setCell ⟨h, 0, none⟩ u).setCell ⟨h, 1, none⟩ v) :=
  (hb.setCell (p := ⟨h, 0, none⟩) (by simpa using hg) _).setCell (p := ⟨h, 1, none⟩) (by simpa using hg) _

theorem Blk.set2 {w : World} {g g' T : Nat} {cs : List Value} {i k : Nat} {u v : Value} (h : Blk w g T cs) (hg : g ≠ g') : Blk ((w.setCell ⟨g', i, none⟩ u).setCell ⟨g', k, none⟩ v) g T cs :=
  h.grown (grown_setCell (grown_setCell (grown_refl w (some g')) i u) k v) hg
/-- The loop over all beginnings. -/
def ComRel (w : World) (a n b m K : Nat) (i : Value) (wr : World) : Prop :=
  Below w.heap.size w wr ∧ Blk wr w.heap.size 24 [.int .u32 (a : Int), .int .i64 (n : Int)] ∧ Blk wr (w.heap.size + 1) 24 [.int .u32 (b : Int), .int .i64 (m : Int)] ∧ Blk wr (w.heap.size + 1 + 1) 24 [.int .u32 0, .int .i64 0] ∧
    ∃ j : Nat, j ≤ 33 ∧ i = .int .i64 (j : Int) ∧ Blk wr (w.heap.size + 1 + 1 + 1) 24 [.int .u32 ((hi a (min (j - 1) K) : Nat) : Int), .int .i64 ((min (j - 1) K : Nat) : Int)]

set_option maxHeartbeats 3200000 in
theorem RefCommon_any (a b : Nat) (n m : Int) (w : World) (ha : a < 4294967296) (hb : b < 4294967296) :
    Calls Tryd.prog 25 #[.agg #[.int .u32 (a : Int), .int .i64 n], .agg #[.int .u32 (b : Int), .int .i64 m]] w (RetPfx w (comP (a : Int) n (b : Int) m).1 (((comP (a : Int) n (b : Int) m).2 : Nat) : Int)) := by
  have QR := fun w => Lib.hid (RefRight_any a n w ha)
  have QS := fun w => Lib.hid (RefRight_any b m w hb)
  have hb0 : Below ((((w.alloc (.cells #[.int .u32 (a : Int), .int .i64 n] 24)).alloc (.cells #[.int .u32 (b : Int), .int .i64 m] 24)).alloc (.cells #[.int .u32 0, .int .i64 0] 24)).alloc (.cells #[.int .u32 0, .int .i64 0] 24)).heap.size ((((w.alloc (.cells #[.int .u32 (a : Int), .int .i64 n] 24)).alloc (.cells #[.int .u32 (b : Int), .int .i64 m] 24)).alloc (.cells #[.int .u32 0, .int .i64 0] 24)).alloc (.cells #[.int .u32 0, .int .i64 0] 24)) ((((w.alloc (.cells #[.int .u32 (a : Int), .int .i64 n] 24)).alloc (.cells #[.int .u32 (b : Int), .int .i64 m] 24)).alloc (.cells #[.int .u32 0, .int .i64 0] 24)).alloc (.cells #[.int .u32 0, .int .i64 0] 24)) := Below.refl _ _
  cases hok : okP (a : Int) n with
  | false =>
    rw [hok] at QR
    rw [comP_no (m := m) (b := (b : Int)) (.inl hok)]
    clear hok
    go_enter Tryd.func25, Tryd.ntmps25
    go_wp2_with fail
    refine (QR _).out.mono ?_
    rintro e w1 ⟨rfl, hb1'⟩
    have hb1 := hb0.trans (hb1'.mono hb0.size)
    have ⟨k1, k2, k3, k4⟩ := boxes4 w _ _ _ _ hb1
    have c1 := cells2 k1; have c2 := cells2 k2; have c3 := cells2 k3; have c4 := cells2 k4; have f3 := free2 k3
    have HK := Lib.hid k3; have HL := Lib.hid k4; clear k1 k2 k3 k4
    go_wp2_with fail
    refine bodyPost_ret (v := .agg #[.int .u32 0, .int .i64 0]) (by simp [results, Tryd.results25, go_sem, (res_cells (.int .u32 0) (.int .i64 0) HK.out).1, (res_cells (.int .u32 0) (.int .i64 0) HK.out).2]) rfl ⟨rfl, ?_⟩
    exact below_set3 (below_box (below_box (below_box (below_box hb1)))) (by omega)
  | true =>
    rw [hok] at QR
    cases hom : okP (b : Int) m with
    | false =>
      rw [hom] at QS
      rw [comP_no (n := n) (a := (a : Int)) (.inr hom)]
      clear hok hom
      go_enter Tryd.func25, Tryd.ntmps25
      go_wp2_with fail
      refine (QR _).out.mono ?_
      rintro e w1 ⟨rfl, hb1'⟩
      have hb1 := hb0.trans (hb1'.mono hb0.size)
      have c5 := cells2 (boxes4 w _ _ _ _ hb1).2.1
      go_wp2_with fail
      clear c5
      refine (QS _).out.mono ?_
      rintro e w2 ⟨rfl, hb2'⟩
      have hb2 := hb1.trans (hb2'.mono hb1.size)
      have ⟨k1, k2, k3, k4⟩ := boxes4 w _ _ _ _ hb2
      have c1 := cells2 k1; have c2 := cells2 k2; have c3 := cells2 k3; have c4 := cells2 k4; have f3 := free2 k3
      have HK := Lib.hid k3; have HL := Lib.hid k4; clear k1 k2 k3 k4
      go_wp2_with fail
      refine bodyPost_ret (v := .agg #[.int .u32 0, .int .i64 0]) (by simp [results, Tryd.results25, go_sem, (res_cells (.int .u32 0) (.int .i64 0) HK.out).1, (res_cells (.int .u32 0) (.int .i64 0) HK.out).2]) rfl ⟨rfl, ?_⟩
      exact below_set3 (below_box (below_box (below_box (below_box hb2)))) (by omega)
    | true =>
      rw [hom] at QS
      obtain ⟨n, rfl⟩ := Int.eq_ofNat_of_zero_le (okP_range hok).1
      obtain ⟨m, rfl⟩ := Int.eq_ofNat_of_zero_le (okP_range hom).1
      rw [comP_yes hok hom]
      have hK := fun (j : Nat) (hj : j ≤ 32) => comK_iff (n := n) (m := m) ha hb hj
      have hK32 := (comK_le a n b m).1
      have QN := fun (j : Nat) (hj : j ≤ 32) W => Lib.hid (show Calls Tryd.prog 14 #[.int .u32 (a : Int), .int .i64 (j : Int)] W (RetPfx W (hi a j) ((j : Nat) : Int)) by have h := RefNorm_any a (j : Int) W ha; rw [cl_nat hj] at h; exact h)
      have QX := fun (j : Nat) (hj : j ≤ 32) W => Lib.hid (show Calls Tryd.prog 21 #[.agg #[.int .u32 ((hi a j : Nat) : Int), .int .i64 (j : Int)], .agg #[.int .u32 (a : Int), .int .i64 (n : Int)]] W (RetBool W (decide (j ≤ n))) by rw [← covers_hi_self hj hok]; exact RefCovers_any (hi a j) a (j : Int) (n : Int) W (Nat.lt_of_le_of_lt (hi_le _ _) ha) ha)
      have QY := fun (j : Nat) (hj : j ≤ 32) W => Lib.hid (show Calls Tryd.prog 21 #[.agg #[.int .u32 ((hi a j : Nat) : Int), .int .i64 (j : Int)], .agg #[.int .u32 (b : Int), .int .i64 (m : Int)]] W (RetBool W (decide (j ≤ m ∧ hi b j = hi a j))) by rw [← covers_hi hj hom]; exact RefCovers_any (hi a j) b (j : Int) (m : Int) W (Nat.lt_of_le_of_lt (hi_le _ _) ha) hb)
      have h0 := hi_zero ha
      obtain ⟨K, hKK⟩ : ∃ K, K = comK a n b m := ⟨_, rfl⟩
      rw [← hKK] at hK hK32 ⊢
      have HKK := Lib.hid hK
      have HS := Lib.hid (fun (w' : World) hb => boxes4 w (w' := w') [.int .u32 (a : Int), .int .i64 (n : Int)] [.int .u32 (b : Int), .int .i64 (m : Int)] [.int .u32 0, .int .i64 0] [.int .u32 0, .int .i64 0] (T := 24) hb)
      clear hok hom hKK hK
      go_enter Tryd.func25, Tryd.ntmps25
      go_wp2_with fail
      refine (QR _).out.mono ?_
      rintro e w1 ⟨rfl, hb1'⟩
      have hb1 := hb0.trans (hb1'.mono hb0.size)
      have c5 := cells2 (HS.out _ hb1).2.1
      go_wp2_with fail
      clear c5
      refine (QS _).out.mono ?_
      rintro e w2 ⟨rfl, hb2'⟩
      have hb2 := hb1.trans (hb2'.mono hb1.size)
      have hbw := below_box (below_box (below_box (below_box hb2)))
      have HX := Lib.hid (HS.out _ hb2)
      have H0 := Lib.hid h0
      clear hb1' hb2' hb1 hb0 QR QS HS h0
      go_wp2_with fail
      go_loopw [6] (fun i wr => ComRel w a n b m K i wr) (fun i _ => 33 - (intOf i).toNat)
      case atStart =>
        obtain ⟨x1, x2, x3, x4⟩ := HX.out
        refine ⟨hbw, x1, x2, x3, 0, by omega, rfl, ?_⟩
        have e : min (0 - 1) K = 0 := by omega
        rw [e, H0.out]
        exact x4
      case round =>
        clear HX hb2 hbw
        obtain ⟨hbr, k1, k2, k3, j, hj, rfl, k4⟩ := hrel
        by_cases h33 : j = 33
        · subst h33
          have eK : min (33 - 1) K = K := by omega
          rw [eK] at k4
          have c4 := cells2 k4
          have f3 := free2 k3
          have c3 := cells2 k3
          have HK := Lib.hid k3
          obtain ⟨H, hH⟩ : ∃ H, H = hi a K := ⟨_, rfl⟩
          rw [← hH] at c4
          have HHH := Lib.hid hH
          clear k1 k2 k3 k4 eK hH HKK QN QX QY H0
          go_wp2_with fail
          refine bodyPost_ret (v := .agg #[.int .u32 (H : Int), .int .i64 (K : Int)]) (by simp [results, Tryd.results25, go_sem, (res_cells (.int .u32 (H : Int)) (.int .i64 (K : Int)) HK.out).1, (res_cells (.int .u32 (H : Int)) (.int .i64 (K : Int)) HK.out).2]) rfl ⟨by rw [HHH.out], ?_⟩
          exact below_set3 hbr (by omega)
        · have hj32 : j ≤ 32 := by omega
          have hjI : (j : Int) ≤ 32 := by omega
          clear h33
          have qN := Lib.hid (QN j hj32 wr).out
          have qX := fun W => Lib.hid (QX j hj32 W).out
          have qY := fun W => Lib.hid (QY j hj32 W).out
          have HJ := Lib.hid (HKK.out j hj32)
          have H1 := Lib.hid k1; have H2 := Lib.hid k2; have H3 := Lib.hid k3; have H4 := Lib.hid k4
          have c1 := cells2 k1
          obtain ⟨H, hH⟩ : ∃ H, H = hi a j := ⟨_, rfl⟩
          rw [← hH] at qN qX qY
          have HHH := Lib.hid hH
          clear k1 k2 k3 k4 QN QX QY HKK hH
          go_wp2_with fail
          refine qN.out.mono ?_
          rintro e w1 ⟨rfl, hb1⟩
          have hbA := hb1.alloc hb1.size (.cells #[.int .u32 (H : Int), .int .i64 (j : Int)] 24)
          have g1 := cells2 (Blk.new w1 24 [.int .u32 (H : Int), .int .i64 (j : Int)])
          have e1 := cells2 (H1.out.below hbA H1.out.lt)
          clear c1
          go_wp2_with fail
          refine (qX _).out.mono ?_
          rintro e w2 ⟨rfl, hb2⟩
          have hbB := hbA.trans (hb2.mono hbA.size)
          have g2 := cells2 ((Blk.new w1 24 [.int .u32 (H : Int), .int .i64 (j : Int)]).below hb2 (by simp))
          have e2 := cells2 (H2.out.below hbB H2.out.lt)
          clear e1 g1
          by_cases hjn : j ≤ n
          · rw [decide_eq_true hjn]
            go_wp2_with fail
            refine (qY _).out.mono ?_
            rintro e w3 ⟨rfl, hb3⟩
            have hbC := hbB.trans (hb3.mono hbB.size)
            have g3 := cells2 (((Blk.new w1 24 [.int .u32 (H : Int), .int .i64 (j : Int)]).below hb2 (by simp)).below hb3 (Nat.lt_of_lt_of_le (by simp) hb2.size))
            have k4 := H4.out.below hbC H4.out.lt
            have e3 := cells2 k4
            have f4 := free2 k4
            have HK4 := Lib.hid k4
            clear e2 g2 k4
            by_cases hjm : j ≤ m ∧ hi b j = H
            · rw [decide_eq_true hjm]
              have HJ2 := Lib.hid (HJ.out.1 ⟨hjn, hjm.1, by rw [hjm.2, HHH.out]⟩)
              clear hjm
              go_wp2_with fail
              go_roundw
              case rel =>
                refine ⟨below_set3 (hbr.trans (hbC.mono hbr.size)) (by omega), Blk.set2 (H1.out.below hbC H1.out.lt) (by omega), Blk.set2 (H2.out.below hbC H2.out.lt) (by omega), Blk.set2 (H3.out.below hbC H3.out.lt) (by omega), j + 1, by omega, by go_num, ?_⟩
                have e : min (j + 1 - 1) K = j := by have := HJ2.out; omega
                rw [e, ← HHH.out]
                exact (HK4.out.set 0 _).set 1 _
              case measure => simp [intOf]; omega
            · rw [decide_eq_false hjm]
              have HJ2 := Lib.hid (show ¬ j ≤ K from fun h => hjm (by have := HJ.out.2 h; exact ⟨this.2.1, by rw [HHH.out]; exact this.2.2⟩))
              clear hjm
              go_wp2_with fail
              go_roundw
              case rel =>
                refine ⟨hbr.trans (hbC.mono hbr.size), H1.out.below hbC H1.out.lt, H2.out.below hbC H2.out.lt, H3.out.below hbC H3.out.lt, j + 1, by omega, by go_num, ?_⟩
                have e : min (j + 1 - 1) K = min (j - 1) K := by have := HJ2.out; omega
                rw [e]
                exact H4.out.below hbC H4.out.lt
              case measure => simp [intOf]; omega
          · rw [decide_eq_false hjn]
            have HJ2 := Lib.hid (show ¬ j ≤ K from fun h => hjn (HJ.out.2 h).1)
            clear hjn
            go_wp2_with fail
            go_roundw
            case rel =>
              refine ⟨hbr.trans (hbB.mono hbr.size), H1.out.below hbB H1.out.lt, H2.out.below hbB H2.out.lt, H3.out.below hbB H3.out.lt, j + 1, by omega, by go_num, ?_⟩
              have e : min (j + 1 - 1) K = min (j - 1) K := by have := HJ2.out; omega
              rw [e]
              exact H4.out.below hbB H4.out.lt
            case measure => simp [intOf]; omega
end Go.Proofs.YtfdeafjkiagjfaaDoor

/-
  Texts of this seat, put together: RefSame4.
-/
import Derived.Test.YtnaangnmlbgmkaaGreatDoorSame4Mg
import Derived.Test.YtnaangnmlbgmkaaGreatDoorMg4
import Derived.Test.YtnaangnmlbgmkaaGreatDoorMg1
/-
  Whether two attributes are the same, by the document (written by gen04t.py).
-/
namespace Go.Proofs.YtnaangnmlbgmkaaGreatDoor
set_option linter.unusedVariables false
set_option linter.unusedSimpArgs false
open Go.RowKit

theorem raws_next {a b : List Rw} {j : Nat} {s t : Rw} (hs : a[j]? = some s) (ht : b[j]? = some t) (h : (a.take j).map Rw.abs = (b.take j).map Rw.abs) :
    (s.flags = t.flags → s.ty = t.ty → s.data = t.data → (a.take (j + 1)).map Rw.abs = (b.take (j + 1)).map Rw.abs) ∧ ((¬ s.flags = t.flags ∨ ¬ s.ty = t.ty ∨ ¬ s.data = t.data) → sameRs a b = false) := by
  obtain ⟨h1, h2⟩ := sameRs_step hs ht h
  refine ⟨fun e1 e2 e3 => h1 (decide_eq_true (by unfold Rw.abs; rw [e1, e2, e3])), fun hn => h2 (decide_eq_false (fun e => ?_))⟩
  unfold Rw.abs at e
  simp only [Prod.mk.injEq] at e
  rcases hn with q | q | q
  · exact q e.1
  · exact q e.2.1
  · exact q e.2.2
set_option maxRecDepth 100000 in
set_option maxHeartbeats 12800000 in
theorem RefSame4_any (a b : Av) (w : World) (h : a.In w w.heap.size) (h' : b.In w w.heap.size) (hl : a.path.length ≤ 1000000000) (hl2 : a.raws.length ≤ 1000000000) :
    Calls Tryz.prog 34 #[.agg a.row.toArray, .agg b.row.toArray] w fun e w' => e = .returned (.bool (a.same b)) ∧ Below w.heap.size w w' := by
  obtain ⟨aorg, apa, apc, apath, anext, amed, apref, aatomic, ahas, aaas, aaad, aca, acc, acomms, ara, arc, araws⟩ := a
  obtain ⟨borg, bpa, bpc, bpath, bnext, bmed, bpref, batomic, bhas, baas, baad, bca, bcc, bcomms, bra, brc, braws⟩ := b
  obtain ⟨hp, hpc, hcm, hcc, hrw, hrc, hea⟩ := h
  obtain ⟨hp', hpc', hcm', hcc', hrw', hrc', hea'⟩ := h'
  dsimp only at hp hpc hcm hcc hrw hrc hea hp' hpc' hcm' hcc' hrw' hrc' hea' hl hl2
  unfold Av.row Av.same
  dsimp only
  obtain ⟨W0, hW0⟩ : ∃ W0, W0 = (w.alloc (.cells #[.int .i64 aorg, .slice apa apath.length apc, .int .u32 anext, .int .i64 amed, .int .i64 apref, .bool aatomic, .bool ahas, .int .u32 aaas, .int .u32 aaad, .slice aca acomms.length acc, .slice ara araws.length arc] 28)).alloc (.cells #[.int .i64 borg, .slice bpa bpath.length bpc, .int .u32 bnext, .int .i64 bmed, .int .i64 bpref, .bool batomic, .bool bhas, .int .u32 baas, .int .u32 baad, .slice bca bcomms.length bcc, .slice bra braws.length brc] 28) := ⟨_, rfl⟩
  have hb0 : Below w.heap.size w W0 := by rw [hW0]; exact ((Below.refl _ _).alloc (Nat.le_refl _) _).alloc (by simp) _
  have kA : Blk W0 w.heap.size 28 [.int .i64 aorg, .slice apa apath.length apc, .int .u32 anext, .int .i64 amed, .int .i64 apref, .bool aatomic, .bool ahas, .int .u32 aaas, .int .u32 aaad, .slice aca acomms.length acc, .slice ara araws.length arc] := by rw [hW0]; exact (Blk.new w _ _).below ((Below.refl _ _).alloc (Nat.le_refl _) _) (by simp)
  have kB : Blk W0 (w.heap.size + 1) 28 [.int .i64 borg, .slice bpa bpath.length bpc, .int .u32 bnext, .int .i64 bmed, .int .i64 bpref, .bool batomic, .bool bhas, .int .u32 baas, .int .u32 baad, .slice bca bcomms.length bcc, .slice bra braws.length brc] := by
    have := Blk.new (w.alloc (.cells #[.int .i64 aorg, .slice apa apath.length apc, .int .u32 anext, .int .i64 amed, .int .i64 apref, .bool aatomic, .bool ahas, .int .u32 aaas, .int .u32 aaad, .slice aca acomms.length acc, .slice ara araws.length arc] 28)) 28 [.int .i64 borg, .slice bpa bpath.length bpc, .int .u32 bnext, .int .i64 bmed, .int .i64 bpref, .bool batomic, .bool bhas, .int .u32 baas, .int .u32 baad, .slice bca bcomms.length bcc, .slice bra braws.length brc]
    rw [hW0]
    simpa using this
  have hm : acomms.length ≤ 9223372036854775807 := by have h1 := hcc.1; have h2 := hcc.2; unfold maxLen at h2; omega
  have QP := Lib.hid (RefSame3_any apa bpa apc bpc apath bpath W0 ((hp.below hb0 (Nat.le_refl _)).lift hb0.size) ((hp'.below hb0 (Nat.le_refl _)).lift hb0.size) hl)
  have QC := Lib.hid (fun m => nums_quiet (A := aca) (A' := bca) (c := acc) (c' := bcc) (y := acomms) (z := bcomms) (w := W0) ((hcm.below hb0 (Nat.le_refl _)).lift hb0.size) ((hcm'.below hb0 (Nat.le_refl _)).lift hb0.size) hm m)
  have HR1 := Lib.hid ((hrw.below hb0 (Nat.le_refl _)).lift hb0.size)
  have HR2 := Lib.hid ((hrw'.below hb0 (Nat.le_refl _)).lift hb0.size)
  have HKA := Lib.hid kA; have HKB := Lib.hid kB; have HB0 := Lib.hid hb0; have HW0 := Lib.hid hW0
  have a1 : W0.cell? ⟨w.heap.size, 1, none⟩ = some _ := kA.cell 1
  have b1 : W0.cell? ⟨w.heap.size + 1, 1, none⟩ = some _ := kB.cell 1
  have a9 : W0.cell? ⟨w.heap.size, 9, none⟩ = some _ := kA.cell 9
  have b9 : W0.cell? ⟨w.heap.size + 1, 9, none⟩ = some _ := kB.cell 9
  have a10 : W0.cell? ⟨w.heap.size, 10, none⟩ = some _ := kA.cell 10
  have b10 : W0.cell? ⟨w.heap.size + 1, 10, none⟩ = some _ := kB.cell 10
  obtain ⟨P, hP⟩ : ∃ P, P = sameP apath bpath := ⟨_, rfl⟩
  obtain ⟨C, hC⟩ : ∃ C, C = sameZ acomms bcomms := ⟨_, rfl⟩
  rw [← hP, ← hC]
  rw [← hP] at QP
  rw [← hC] at QC
  obtain ⟨V, hV⟩ : ∃ V, V = ((aorg == borg) && (anext == bnext) && (amed == bmed) && (apref == bpref) && (aatomic == batomic) && (ahas == bhas) && (aaas == baas) && (aaad == baad) && P && C && sameRs araws braws) := ⟨_, rfl⟩
  rw [← hV]
  have HV := Lib.hid hV; have HL2 := Lib.hid hl2
  clear hp hpc hcm hcc hrw hrc hea hp' hpc' hcm' hcc' hrw' hrc' hea' hl hl2 hb0 kA kB hm hP hC hV hW0
  by_cases hlen : araws.length = braws.length
  rotate_left
  · have hne : ((araws.length : Int) != (braws.length : Int)) = true := by simp; omega
    have HE := Lib.hid (show V = false by rw [HV.out, sameRs_len hlen]; simp)
    clear hlen HV
    go_enter Tryz.func34, Tryz.ntmps34
    go_wp2_with (rw [← HW0.out])
    go_ret
    exact ⟨by rw [HE.out]; rfl, HB0.out⟩
  have HLEN := Lib.hid hlen
  rw [← hlen] at b10
  have HKB2 := Lib.hid (show Blk W0 (w.heap.size + 1) 28 [.int .i64 borg, .slice bpa bpath.length bpc, .int .u32 bnext, .int .i64 bmed, .int .i64 bpref, .bool batomic, .bool bhas, .int .u32 baas, .int .u32 baad, .slice bca bcomms.length bcc, .slice bra araws.length brc] by rw [hlen]; exact HKB.out)
  clear hlen HKB
  go_enter Tryz.func34, Tryz.ntmps34
  go_wp2_with (rw [← HW0.out])
  refine QP.out.mono ?_
  rintro e w2 ⟨rfl, m2, rfl⟩
  have a29 : (W0.drewN m2).cell? ⟨w.heap.size, 9, none⟩ = some _ := a9
  have b29 : (W0.drewN m2).cell? ⟨w.heap.size + 1, 9, none⟩ = some _ := b9
  have hBD := below_drewN HB0.out m2
  cases P with
  | false =>
    have HE := Lib.hid (show V = false by rw [HV.out]; simp)
    have HBD := Lib.hid hBD
    clear HV hBD
    go_wp2_with fail
    go_ret
    exact ⟨by rw [HE.out]; rfl, HBD.out⟩
  | true =>
    clear hBD
    go_wp2_with fail
    refine (QC.out m2).mono ?_
    rintro e w3 ⟨rfl, m3, rfl⟩
    have HBD := Lib.hid (below_drewN HB0.out m3)
    cases C with
    | false =>
      have HE := Lib.hid (show V = false by rw [HV.out]; simp)
      clear HV
      go_wp2_with fail
      go_ret
      exact ⟨by rw [HE.out]; rfl, HBD.out⟩
    | true =>
      go_wp2_with fail
      go_loopw [5] (fun i wr => ∃ (j m : Nat), wr = W0.drewN m ∧ j ≤ araws.length ∧ i = .int .i64 (j : Int) ∧ Hid ((araws.take j).map Rw.abs = (braws.take j).map Rw.abs)) (fun i _ => araws.length - (intOf i).toNat)
      case atStart => exact ⟨0, m3, rfl, Nat.zero_le _, rfl, Lib.hid rfl⟩
      case round =>
        obtain ⟨j, m, hwr, hj, rfl, hsm⟩ := hrel
        have HW := Lib.hid hwr
        have kA : Blk wr w.heap.size 28 [.int .i64 aorg, .slice apa apath.length apc, .int .u32 anext, .int .i64 amed, .int .i64 apref, .bool aatomic, .bool ahas, .int .u32 aaas, .int .u32 aaad, .slice aca acomms.length acc, .slice ara araws.length arc] := by rw [hwr]; exact HKA.out
        have kB : Blk wr (w.heap.size + 1) 28 [.int .i64 borg, .slice bpa bpath.length bpc, .int .u32 bnext, .int .i64 bmed, .int .i64 bpref, .bool batomic, .bool bhas, .int .u32 baas, .int .u32 baad, .slice bca bcomms.length bcc, .slice bra araws.length brc] := by rw [hwr]; exact HKB2.out
        have HBR := Lib.hid (show Below w.heap.size w wr by rw [hwr]; exact below_drewN HB0.out m)
        by_cases hlt : j < araws.length
        · obtain ⟨s, hs⟩ : ∃ s, araws[j]? = some s := ⟨_, List.getElem?_eq_getElem hlt⟩
          obtain ⟨t, ht⟩ : ∃ t, braws[j]? = some t := ⟨_, List.getElem?_eq_getElem (by rw [← HLEN.out]; exact hlt)⟩
          have R1 : RwIn wr wr.heap.size ara araws := by rw [hwr]; exact HR1.out
          have R2 : RwIn wr wr.heap.size bra braws := by rw [hwr]; exact HR2.out
          obtain ⟨g1, o1, hA1, hg1, k1, k2, k3, hy1⟩ := R1.at hs
          obtain ⟨g2, o2, hA2, hg2, q1, q2, q3, hy2⟩ := R2.at ht
          have HST := Lib.hid (raws_next hs ht hsm.out)
          have QN := Lib.hid (fun n => (show Calls Tryz.prog 10 #[.slice s.adr s.data.length s.cap, .slice t.adr t.data.length t.cap] (wr.drewN n) fun e w'' => e = .returned (.bool (s.data == t.data)) ∧ ∃ q, w'' = wr.drewN q from
            (Same_any s.adr t.adr s.data.length t.data.length s.cap t.cap s.data t.data rfl rfl (wr.drewN n) hy1 hy2).mono fun e w'' h => ⟨h.1, n, h.2.symm⟩))
          have x10 : wr.cell? ⟨w.heap.size, 10, none⟩ = some (.slice ara araws.length arc) := kA.cell 10
          have y10 : wr.cell? ⟨w.heap.size + 1, 10, none⟩ = some (.slice bra araws.length brc) := kB.cell 10
          have HJ := Lib.hid hlt
          have hjI : (j : Int) < (araws.length : Int) := by omega
          have hj9 : (j : Int) ≤ 1000000000 := by have := HL2.out; omega
          subst hA1; subst hA2
          clear hs ht hsm R1 R2 hy1 hy2 kA kB hwr a1 b1 a9 b9 a10 b10 a29 b29
          obtain ⟨sf, sy, sa, sc, sd⟩ := s
          obtain ⟨tf, ty, ta, tc, td⟩ := t
          dsimp only at k1 k2 k3 q1 q2 q3 QN HST
          by_cases e1 : sf = tf
          · have f1 : (sf != tf) = false := by simpa using e1
            by_cases e2 : sy = ty
            · have f2 : (sy != ty) = false := by simpa using e2
              by_cases e3 : sd = td
              · have HN := Lib.hid (HST.out.1 e1 e2 e3)
                have f3 : (sd == td) = true := by simpa using e3
                rw [f3] at QN
                clear HST e1 e2 e3 f3
                go_wp2_with fail
                go_quiet ((go_at_call 10; exact QN.out _))
                go_wp2_with fail
                go_roundw
                case rel => exact ⟨j + 1, _, by rw [HW.out]; exact World.drewN_drewN _ _ _, HJ.out, by go_num, HN⟩
                case measure => have := HJ.out; simp [intOf]; omega
              · have HE := Lib.hid (show V = false by rw [HV.out, HST.out.2 (.inr (.inr e3))]; simp)
                have f3 : (sd == td) = false := by simpa using e3
                rw [f3] at QN
                clear HST e1 e2 e3 f3 HV
                go_wp2_with fail
                go_quiet ((go_at_call 10; exact QN.out _))
                go_wp2_with fail
                go_ret
                exact ⟨by rw [HE.out]; rfl, below_drewN HBR.out _⟩
            · have f2 : (sy != ty) = true := by simpa using e2
              have HE := Lib.hid (show V = false by rw [HV.out, HST.out.2 (.inr (.inl e2))]; simp)
              clear HST e1 e2 HV
              go_wp2_with fail
              go_quiet (fail)
              go_wp2_with fail
              go_ret
              exact ⟨by rw [HE.out]; rfl, below_drewN HBR.out _⟩
          · have f1 : (sf != tf) = true := by simpa using e1
            have HE := Lib.hid (show V = false by rw [HV.out, HST.out.2 (.inl e1)]; simp)
            clear HST e1 HV
            go_wp2_with fail
            go_quiet (fail)
            go_wp2_with fail
            go_ret
            exact ⟨by rw [HE.out]; rfl, below_drewN HBR.out _⟩
        · obtain rfl : j = araws.length := by omega
          have HRS := Lib.hid (show sameRs araws braws = true from sameRs_end HLEN.out hsm.out)
          have x0 : wr.cell? ⟨w.heap.size, 0, none⟩ = some _ := kA.cell 0
          have y0 : wr.cell? ⟨w.heap.size + 1, 0, none⟩ = some _ := kB.cell 0
          have x2 : wr.cell? ⟨w.heap.size, 2, none⟩ = some _ := kA.cell 2
          have y2 : wr.cell? ⟨w.heap.size + 1, 2, none⟩ = some _ := kB.cell 2
          have x3 : wr.cell? ⟨w.heap.size, 3, none⟩ = some _ := kA.cell 3
          have y3 : wr.cell? ⟨w.heap.size + 1, 3, none⟩ = some _ := kB.cell 3
          have x4 : wr.cell? ⟨w.heap.size, 4, none⟩ = some _ := kA.cell 4
          have y4 : wr.cell? ⟨w.heap.size + 1, 4, none⟩ = some _ := kB.cell 4
          have x5 : wr.cell? ⟨w.heap.size, 5, none⟩ = some _ := kA.cell 5
          have y5 : wr.cell? ⟨w.heap.size + 1, 5, none⟩ = some _ := kB.cell 5
          have x6 : wr.cell? ⟨w.heap.size, 6, none⟩ = some _ := kA.cell 6
          have y6 : wr.cell? ⟨w.heap.size + 1, 6, none⟩ = some _ := kB.cell 6
          have x7 : wr.cell? ⟨w.heap.size, 7, none⟩ = some _ := kA.cell 7
          have y7 : wr.cell? ⟨w.heap.size + 1, 7, none⟩ = some _ := kB.cell 7
          have x8 : wr.cell? ⟨w.heap.size, 8, none⟩ = some _ := kA.cell 8
          have y8 : wr.cell? ⟨w.heap.size + 1, 8, none⟩ = some _ := kB.cell 8
          have x10 : wr.cell? ⟨w.heap.size, 10, none⟩ = some _ := kA.cell 10
          have y10 : wr.cell? ⟨w.heap.size + 1, 10, none⟩ = some _ := kB.cell 10
          clear hsm kA kB hwr a1 b1 a9 b9 a10 b10 a29 b29 hlt hj
          by_cases h0 : aorg = borg
          rotate_left
          · have e0 : (aorg != borg) = true := by simpa using h0
            have g0 : (aorg == borg) = false := by simpa using h0
            have HE := Lib.hid (show V = false by rw [HV.out]; simp only [g0]; simp)
            clear HV h0
            go_wp2_with fail
            go_ret
            exact ⟨by rw [HE.out]; rfl, HBR.out⟩
          have e0 : (aorg != borg) = false := by simpa using h0
          have g0 : (aorg == borg) = true := by simpa using h0
          clear h0
          by_cases h1 : anext = bnext
          rotate_left
          · have e1 : (anext != bnext) = true := by simpa using h1
            have g1 : (anext == bnext) = false := by simpa using h1
            have HE := Lib.hid (show V = false by rw [HV.out]; simp only [g0, g1]; simp)
            clear HV h1
            go_wp2_with fail
            go_ret
            exact ⟨by rw [HE.out]; rfl, HBR.out⟩
          have e1 : (anext != bnext) = false := by simpa using h1
          have g1 : (anext == bnext) = true := by simpa using h1
          clear h1
          by_cases h2 : amed = bmed
          rotate_left
          · have e2 : (amed != bmed) = true := by simpa using h2
            have g2 : (amed == bmed) = false := by simpa using h2
            have HE := Lib.hid (show V = false by rw [HV.out]; simp only [g0, g1, g2]; simp)
            clear HV h2
            go_wp2_with fail
            go_ret
            exact ⟨by rw [HE.out]; rfl, HBR.out⟩
          have e2 : (amed != bmed) = false := by simpa using h2
          have g2 : (amed == bmed) = true := by simpa using h2
          clear h2
          by_cases h3 : apref = bpref
          rotate_left
          · have e3 : (apref != bpref) = true := by simpa using h3
            have g3 : (apref == bpref) = false := by simpa using h3
            have HE := Lib.hid (show V = false by rw [HV.out]; simp only [g0, g1, g2, g3]; simp)
            clear HV h3
            go_wp2_with fail
            go_ret
            exact ⟨by rw [HE.out]; rfl, HBR.out⟩
          have e3 : (apref != bpref) = false := by simpa using h3
          have g3 : (apref == bpref) = true := by simpa using h3
          clear h3
          by_cases h4 : aatomic = batomic
          rotate_left
          · have e4 : (aatomic != batomic) = true := by simpa using h4
            have g4 : (aatomic == batomic) = false := by simpa using h4
            have HE := Lib.hid (show V = false by rw [HV.out]; simp only [g0, g1, g2, g3, g4]; simp)
            clear HV h4
            go_wp2_with fail
            go_ret
            exact ⟨by rw [HE.out]; rfl, HBR.out⟩
          have e4 : (aatomic != batomic) = false := by simpa using h4
          have g4 : (aatomic == batomic) = true := by simpa using h4
          clear h4
          by_cases h5 : ahas = bhas
          rotate_left
          · have e5 : (ahas != bhas) = true := by simpa using h5
            have g5 : (ahas == bhas) = false := by simpa using h5
            have HE := Lib.hid (show V = false by rw [HV.out]; simp only [g0, g1, g2, g3, g4, g5]; simp)
            clear HV h5
            go_wp2_with fail
            go_ret
            exact ⟨by rw [HE.out]; rfl, HBR.out⟩
          have e5 : (ahas != bhas) = false := by simpa using h5
          have g5 : (ahas == bhas) = true := by simpa using h5
          clear h5
          by_cases h6 : aaas = baas
          rotate_left
          · have e6 : (aaas != baas) = true := by simpa using h6
            have g6 : (aaas == baas) = false := by simpa using h6
            have HE := Lib.hid (show V = false by rw [HV.out]; simp only [g0, g1, g2, g3, g4, g5, g6]; simp)
            clear HV h6
            go_wp2_with fail
            go_ret
            exact ⟨by rw [HE.out]; rfl, HBR.out⟩
          have e6 : (aaas != baas) = false := by simpa using h6
          have g6 : (aaas == baas) = true := by simpa using h6
          clear h6
          by_cases h7 : aaad = baad
          rotate_left
          · have e7 : (aaad != baad) = true := by simpa using h7
            have g7 : (aaad == baad) = false := by simpa using h7
            have HE := Lib.hid (show V = false by rw [HV.out]; simp only [g0, g1, g2, g3, g4, g5, g6, g7]; simp)
            clear HV h7
            go_wp2_with fail
            go_ret
            exact ⟨by rw [HE.out]; rfl, HBR.out⟩
          have e7 : (aaad != baad) = false := by simpa using h7
          have g7 : (aaad == baad) = true := by simpa using h7
          clear h7
          have HE := Lib.hid (show V = true by rw [HV.out, HRS.out]; simp only [g0, g1, g2, g3, g4, g5, g6, g7]; simp)
          clear HV
          go_wp2_with fail
          go_ret
          exact ⟨by rw [HE.out]; rfl, HBR.out⟩
end Go.Proofs.YtnaangnmlbgmkaaGreatDoor

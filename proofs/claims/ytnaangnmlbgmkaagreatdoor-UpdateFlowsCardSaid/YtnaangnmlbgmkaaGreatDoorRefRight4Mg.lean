/-
  Texts of this seat, put together: RefRight4.
-/
import Derived.Deep.QuietTactic
import Derived.BigQuiet
import Derived.Test.YtnaangnmlbgmkaaGreatDoorMg4
import Derived.Test.YtnaangnmlbgmkaaGreatDoorAttr4Mg
import Derived.Test.YtnaangnmlbgmkaaGreatDoorMg1
/-
  Whether attributes may be, by the document (written by gen04u.py).
-/
namespace Go.Proofs.YtnaangnmlbgmkaaGreatDoor
set_option linter.unusedVariables false
set_option linter.unusedSimpArgs false
open Go.RowKit

/-- How far the document has looked at raw attributes. -/
def RrRel (w : World) (row : List Value) (L : List Rw) (i : Value) (wr : World) : Prop :=
  Below w.heap.size w wr ∧ Blk wr w.heap.size 28 row ∧ ∃ j : Nat, j ≤ L.length ∧ i = .int .i64 (j : Int) ∧ Hid (rawsF (-1) (L.map Rw.abs) = rawsF (aheadN L j) ((L.drop j).map Rw.abs)) ∧ Hid (-1 ≤ aheadN L j)
theorem ahead_next {L : List Rw} {j : Nat} {s : Rw} (hs : L[j]? = some s) : aheadN L (j + 1) = s.ty := by
  unfold aheadN
  simp [List.getD, hs]
set_option maxRecDepth 100000 in
set_option maxHeartbeats 12800000 in
theorem RefRight4_any (a : Av) (w : World) (h : a.In w w.heap.size) (hl : a.path.length ≤ 1152921504606846976) (hl2 : a.raws.length ≤ 1000000000) (hl3 : totN a.path ≤ 1152921504606846976) :
    Calls Tryz.prog 14 #[.agg a.row.toArray] w fun e w' => e = .returned (.bool a.okB) ∧ Below w.heap.size w w' := by
  obtain ⟨org, pa, pc, path, next, med, pref, atomic, has, aas, aad, ca, cc, comms, ra, rc, raws⟩ := a
  obtain ⟨hp, hpc, hcm, hcc, hrw, hrc, hea⟩ := h
  dsimp only at hp hpc hcm hcc hrw hrc hea hl hl2 hl3
  unfold Av.row Av.okB
  dsimp only
  obtain ⟨W0, hW0⟩ : ∃ W0, W0 = w.alloc (.cells #[.int .i64 org, .slice pa path.length pc, .int .u32 next, .int .i64 med, .int .i64 pref, .bool atomic, .bool has, .int .u32 aas, .int .u32 aad, .slice ca comms.length cc, .slice ra raws.length rc] 28) := ⟨_, rfl⟩
  have hb0 : Below w.heap.size w W0 := by rw [hW0]; exact (Below.refl _ _).alloc (Nat.le_refl _) _
  have kO : Blk W0 w.heap.size 28 [.int .i64 org, .slice pa path.length pc, .int .u32 next, .int .i64 med, .int .i64 pref, .bool atomic, .bool has, .int .u32 aas, .int .u32 aad, .slice ca comms.length cc, .slice ra raws.length rc] := by rw [hW0]; exact Blk.new w _ _
  have QR := Lib.hid (fun (W : World) (hb : Below w.heap.size w W) => RefRight_any pa pc path W ((hp.below hb (Nat.le_refl _)).lift hb.size) hpc.1 hpc.2 hl3)
  obtain ⟨R, hR⟩ : ∃ R, R = rightB path := ⟨_, rfl⟩
  obtain ⟨M, hM⟩ : ∃ M, M = saidB med := ⟨_, rfl⟩
  obtain ⟨P, hP⟩ : ∃ P, P = saidB pref := ⟨_, rfl⟩
  rw [← hR] at QR
  rw [← hR, ← hM, ← hP]
  obtain ⟨V, hV⟩ : ∃ V, V = (decide (0 ≤ org) && decide (org ≤ 2) && R && M && P && (has || (decide (aas = 0) && decide (aad = 0))) && decide (comms.length ≤ 32) && (rawsF (-1) (raws.map Rw.abs) && decide (raws.length ≤ 8))) := ⟨_, rfl⟩
  rw [← hV]
  have HV := Lib.hid hV; have HM := Lib.hid hM; have HP := Lib.hid hP
  have HRW := Lib.hid (fun (W : World) (hb : Below w.heap.size w W) => (hrw.below hb (Nat.le_refl _)).lift hb.size)
  have HK := Lib.hid kO; have HB0 := Lib.hid hb0; have HW0 := Lib.hid hW0; have HL2 := Lib.hid hl2
  clear hp hpc hcm hcc hrw hrc hea hl hl2 hl3 hb0 kO hR hM hP hV hW0
  go_enter Tryz.func14, Tryz.ntmps14
  go_wp2_with (rw [← HW0.out])
  go_loopw [3] (fun i wr => RrRel w [.int .i64 org, .slice pa path.length pc, .int .u32 next, .int .i64 med, .int .i64 pref, .bool atomic, .bool has, .int .u32 aas, .int .u32 aad, .slice ca comms.length cc, .slice ra raws.length rc] raws i wr) (fun i _ => raws.length - (intOf i).toNat)
  case atStart => exact ⟨HB0.out, HK.out, 0, Nat.zero_le _, rfl, Lib.hid rfl, Lib.hid (Int.le_refl _)⟩
  case round =>
    obtain ⟨hbr, hk, j, hj, rfl, hrf, hah⟩ := hrel
    have HBR := Lib.hid hbr; have HKR := Lib.hid hk
    by_cases hlt : j < raws.length
    · obtain ⟨s, hs⟩ : ∃ s, raws[j]? = some s := ⟨_, List.getElem?_eq_getElem hlt⟩
      obtain ⟨b, off, hA, hb, k0, k1, k2, hy⟩ := (HRW.out wr hbr).at hs
      have hst := raws_drop hs (aheadN raws j)
      have HN := Lib.hid (show rawOk (aheadN raws j) s.abs = false → V = false from fun q => by rw [HV.out, hrf.out, hst, q]; simp)
      have HG := Lib.hid (show rawOk (aheadN raws j) s.abs = true → rawsF (-1) (raws.map Rw.abs) = rawsF (aheadN raws (j + 1)) ((raws.drop (j + 1)).map Rw.abs) from fun q => by rw [hrf.out, hst, q, ahead_next hs, Bool.true_and])
      have HA1 := Lib.hid (ahead_next hs)
      have hprev : ∀ j', j = j' + 1 → ∃ t, raws[j']? = some t ∧ aheadN raws j = t.ty ∧ wr.cell? ⟨b, off + j' * 3 + 1, none⟩ = some (.int .i64 t.ty) := fun j' e => by
        subst e
        have hlt' : j' < raws.length := by omega
        obtain ⟨t, ht⟩ : ∃ t, raws[j']? = some t := ⟨_, List.getElem?_eq_getElem hlt'⟩
        obtain ⟨b', off', hA', _, q0, q1, _, _⟩ := (HRW.out wr hbr).at ht
        rw [hA] at hA'
        injection hA' with e1
        injection e1 with e1 e2
        subst e1 e2
        exact ⟨t, ht, ahead_next ht, q1⟩
      have HPV := Lib.hid hprev
      subst hA
      have x10 : wr.cell? ⟨w.heap.size, 10, none⟩ = some (.slice (some ⟨b, off, none⟩) raws.length rc) := hk.cell 10
      have hjI : (j : Int) < (raws.length : Int) := by omega
      have hj9 : (j : Int) ≤ 1000000000 := by have := HL2.out; omega
      have HJ := Lib.hid hlt; have HAH := Lib.hid hah.out
      obtain ⟨sf, sy, sa, sc, sd⟩ := s
      obtain ⟨WA, hWA⟩ : ∃ WA, WA = wr.alloc (.cells #[.int .i64 sf, .int .i64 sy, .slice sa sd.length sc] 77) := ⟨_, rfl⟩
      dsimp only at k0 k1 k2
      have hb9 : Below wr.heap.size wr WA := by rw [hWA]; exact (Below.refl _ _).alloc (Nat.le_refl _) _
      have kR : Blk WA wr.heap.size 77 [.int .i64 sf, .int .i64 sy, .slice sa sd.length sc] := by rw [hWA]; exact Blk.new wr _ _
      have c0 : WA.cell? ⟨wr.heap.size, 0, none⟩ = some (.int .i64 sf) := kR.cell 0
      have c1 : WA.cell? ⟨wr.heap.size, 1, none⟩ = some (.int .i64 sy) := kR.cell 1
      have c2 : WA.cell? ⟨wr.heap.size, 2, none⟩ = some (.slice sa sd.length sc) := kR.cell 2
      have y10 : WA.cell? ⟨w.heap.size, 10, none⟩ = some (.slice (some ⟨b, off, none⟩) raws.length rc) := (hk.below hb9 hk.lt).cell 10
      have HBA := Lib.hid (hbr.trans (hb9.mono hbr.size)); have HKA := Lib.hid (hk.below hb9 hk.lt); have HWA := Lib.hid hWA
      have HCP := Lib.hid (fun p v (hp : wr.cell? ⟨b, p, none⟩ = some v) => show WA.cell? ⟨b, p, none⟩ = some v from (hb9.cell (p := ⟨b, p, none⟩) hb).trans hp)
      clear hs hst hrf hah hprev hy hk hbr hWA hb9 kR hlt
      obtain ⟨F, hF⟩ : ∃ F, F = flagsF sy := ⟨_, rfl⟩
      have HKF := Lib.hid (show (F != 0) = knownB sy by rw [hF, known_flags])
      have QF := Lib.hid (fun n => (show Calls Tryz.prog 35 #[.int .i64 sy] (WA.drewN n) fun e w' => e = .returned (.int .i64 F) ∧ ∃ q, w' = WA.drewN q from by rw [hF]; exact (RefFlags_any sy (WA.drewN n)).mono fun e w' h => ⟨h.1, n, h.2.symm⟩))
      clear hF
      go_wp2_with (rw [← HWA.out])
      clear k0 k1 k2 x10 hjI hj9
      by_cases h1 : sy < 0
      · skip
        have HE := Lib.hid (show V = false from HN.out (rawOk_no1 (show sy ≤ aheadN raws j from by have := HAH.out; omega)))
        clear HN HG HV HM HP 
        go_quiet ((go_at_call 35; exact QF.out _))
        go_wp2_with fail
        go_ret
        exact ⟨by rw [HE.out]; rfl, below_drewN HBA.out _⟩
      by_cases h2 : 255 < sy
      · skip
        have HE := Lib.hid (show V = false from HN.out (rawOk_no2 h2))
        clear HN HG HV HM HP 
        go_quiet ((go_at_call 35; exact QF.out _))
        go_wp2_with fail
        go_ret
        exact ⟨by rw [HE.out]; rfl, below_drewN HBA.out _⟩
      by_cases h3 : knownB sy = true
      · have hz : (F != 0) = true := by rw [HKF.out]; exact h3
        have H3 := Lib.hid h3
        clear h3
        have HE := Lib.hid (show V = false from HN.out (rawOk_no3 H3.out))
        clear HN HG HV HM HP 
        go_quiet ((go_at_call 35; exact QF.out _))
        go_wp2_with fail
        go_ret
        exact ⟨by rw [HE.out]; rfl, below_drewN HBA.out _⟩
      have hz : (F != 0) = false := by rw [HKF.out]; simpa using h3
      have H3 := Lib.hid h3
      clear h3
      by_cases h4 : sf = 224
      rotate_left
      · have hf : (sf != 224) = true := by simpa using h4
        have H4 := Lib.hid h4
        clear h4
        have HE := Lib.hid (show V = false from HN.out (rawOk_no4 H4.out))
        clear HN HG HV HM HP 
        go_quiet ((go_at_call 35; exact QF.out _))
        go_wp2_with fail
        go_ret
        exact ⟨by rw [HE.out]; rfl, below_drewN HBA.out _⟩
      have hf : (sf != 224) = false := by simpa using h4
      have H4 := Lib.hid h4
      clear h4
      by_cases h5 : sd.length ≤ 64
      rotate_left
      · have hd : (64 : Int) < (sd.length : Int) := by omega
        have HE := Lib.hid (show V = false from HN.out (rawOk_no5 h5))
        clear HN HG HV HM HP 
        go_quiet ((go_at_call 35; exact QF.out _))
        go_wp2_with fail
        go_ret
        exact ⟨by rw [HE.out]; rfl, below_drewN HBA.out _⟩
      have hd : ¬ (64 : Int) < (sd.length : Int) := by omega
      have HOK := Lib.hid (show aheadN raws j < sy → rawOk (aheadN raws j) (sf, sy, sd) = true from fun q => rawOk_yes (s := ⟨sf, sy, sa, sc, sd⟩) q (by show sy ≤ 255; omega) (by simpa using H3.out) H4.out h5)
      clear h5
      rcases Nat.eq_zero_or_pos j with h0 | hp
      · have hj0 : ¬ (0 : Int) < (j : Int) := by omega
        have hjn : ¬ 0 < j := by omega
        have q := HOK.out (show aheadN raws j < sy from by rw [h0]; show (-1 : Int) < sy; omega)
        have HG2 := Lib.hid (HG.out q)
        have HA2 := Lib.hid (show -1 ≤ aheadN raws (j + 1) from by rw [HA1.out]; show -1 ≤ sy; omega)
        clear q HN HG HOK HV HM HP h0
        go_quiet ((go_at_call 35; exact QF.out _))
        have hj9 : (j : Int) ≤ 1000000000 := by have := HL2.out; have := HJ.out; omega
        go_wp2_with fail
        go_roundw
        case rel => exact ⟨below_drewN HBA.out _, HKA.out, j + 1, HJ.out, by go_num, HG2, HA2⟩
        case measure => have := HJ.out; simp [intOf]; omega
      · obtain ⟨j', hjj⟩ : ∃ j', j = j' + 1 := ⟨j - 1, by omega⟩
        obtain ⟨t, ht, hat, ct⟩ := HPV.out j' hjj
        have d1 := HCP.out _ _ ct
        obtain ⟨ty, hty⟩ : ∃ ty, ty = t.ty := ⟨_, rfl⟩
        rw [← hty] at d1 hat
        have hj0 : (0 : Int) < (j : Int) := by omega
        have hjl : (j' : Int) < (raws.length : Int) := by have := HJ.out; omega
        have HAT := Lib.hid hat
        have hw1 : IntKind.i64.wrap ((j : Int) - 1) = (j' : Int) := by rw [IntWalk.i64_in _ (by have := HL2.out; have := HJ.out; omega)]; omega
        clear ct ht hty hat hjj
        by_cases h6 : ty < sy
        · have h6b : ¬ sy ≤ ty := by omega
          have q := HOK.out (by rw [HAT.out]; exact h6)
          have HG2 := Lib.hid (HG.out q)
          have HA2 := Lib.hid (show -1 ≤ aheadN raws (j + 1) from by rw [HA1.out]; show -1 ≤ sy; omega)
          clear q HN HG HOK HV HM HP h6
          go_quiet ((go_at_call 35; exact QF.out _))
          have hj9 : (j : Int) ≤ 1000000000 := by have := HL2.out; have := HJ.out; omega
          go_wp2_with fail
          go_roundw
          case rel => exact ⟨below_drewN HBA.out _, HKA.out, j + 1, HJ.out, by go_num, HG2, HA2⟩
          case measure => have := HJ.out; simp [intOf]; omega
        · have h6b : sy ≤ ty := by omega
          have HE := Lib.hid (show V = false from HN.out (rawOk_no1 (show sy ≤ aheadN raws j from by rw [HAT.out]; exact h6b)))
          clear HN HG HOK HV HM HP h6
          go_quiet ((go_at_call 35; exact QF.out _))
          go_wp2_with fail
          go_ret
          exact ⟨by rw [HE.out]; rfl, below_drewN HBA.out _⟩
    · obtain rfl : j = raws.length := by omega
      have HRF := Lib.hid (show rawsF (-1) (raws.map Rw.abs) = true by rw [hrf.out, List.drop_length]; rfl)
      have x0 : wr.cell? ⟨w.heap.size, 0, none⟩ = some _ := hk.cell 0
      have x1 : wr.cell? ⟨w.heap.size, 1, none⟩ = some _ := hk.cell 1
      have x3 : wr.cell? ⟨w.heap.size, 3, none⟩ = some _ := hk.cell 3
      have x4 : wr.cell? ⟨w.heap.size, 4, none⟩ = some _ := hk.cell 4
      have x6 : wr.cell? ⟨w.heap.size, 6, none⟩ = some _ := hk.cell 6
      have x7 : wr.cell? ⟨w.heap.size, 7, none⟩ = some _ := hk.cell 7
      have x8 : wr.cell? ⟨w.heap.size, 8, none⟩ = some _ := hk.cell 8
      have x9 : wr.cell? ⟨w.heap.size, 9, none⟩ = some _ := hk.cell 9
      have x10 : wr.cell? ⟨w.heap.size, 10, none⟩ = some _ := hk.cell 10
      have Q := Lib.hid (QR.out wr hbr)
      clear hk hrf hah QR hbr
      by_cases h1 : 0 ≤ org
      rotate_left
      · skip
        have HE := Lib.hid (show V = false by rw [HV.out]; rw [decide_eq_false h1]; simp)
        clear HV HM HP HRF
        go_wp2_with fail
        go_ret
        exact ⟨by rw [HE.out]; rfl, HBR.out⟩
      by_cases h2 : org ≤ 2
      rotate_left
      · skip
        have HE := Lib.hid (show V = false by rw [HV.out]; rw [decide_eq_false h2]; simp)
        clear HV HM HP HRF
        go_wp2_with fail
        go_ret
        exact ⟨by rw [HE.out]; rfl, HBR.out⟩
      cases R with
      | false =>
        have HE := Lib.hid (show V = false by rw [HV.out]; simp)
        clear HV HM HP HRF
        go_wp2_with fail
        refine Q.out.mono ?_
        rintro e w2 ⟨rfl, rfl⟩
        go_wp2_with fail
        go_ret
        exact ⟨by rw [HE.out]; rfl, HBR.out⟩
      | true =>
        by_cases h3 : comms.length ≤ 32
        rotate_left
        · have h3I : (32 : Int) < (comms.length : Int) := by omega
          have HE := Lib.hid (show V = false by rw [HV.out]; rw [decide_eq_false h3]; simp)
          clear HV HM HP HRF
          go_wp2_with fail
          refine Q.out.mono ?_
          rintro e w2 ⟨rfl, rfl⟩
          go_wp2_with fail
          go_ret
          exact ⟨by rw [HE.out]; rfl, HBR.out⟩
        have h3I : ¬ (32 : Int) < (comms.length : Int) := by omega
        by_cases h4 : raws.length ≤ 8
        rotate_left
        · have h4I : (8 : Int) < (raws.length : Int) := by omega
          have HE := Lib.hid (show V = false by rw [HV.out]; rw [decide_eq_false h4]; simp)
          clear HV HM HP HRF
          go_wp2_with fail
          refine Q.out.mono ?_
          rintro e w2 ⟨rfl, rfl⟩
          go_wp2_with fail
          go_ret
          exact ⟨by rw [HE.out]; rfl, HBR.out⟩
        have h4I : ¬ (8 : Int) < (raws.length : Int) := by omega
        by_cases amed : -1 ≤ med
        rotate_left
        · skip
          have HE := Lib.hid (show V = false by rw [HV.out]; rw [HM.out]; unfold saidB; rw [decide_eq_false amed]; simp)
          clear HV HM HP HRF
          go_wp2_with fail
          refine Q.out.mono ?_
          rintro e w2 ⟨rfl, rfl⟩
          go_wp2_with fail
          go_ret
          exact ⟨by rw [HE.out]; rfl, HBR.out⟩
        by_cases bmed : med ≤ 4294967295
        rotate_left
        · have cmed : (4294967295 : Int) < med := by omega
          have HE := Lib.hid (show V = false by rw [HV.out]; rw [HM.out]; unfold saidB; rw [decide_eq_false bmed]; simp)
          clear HV HM HP HRF
          go_wp2_with fail
          refine Q.out.mono ?_
          rintro e w2 ⟨rfl, rfl⟩
          go_wp2_with fail
          go_ret
          exact ⟨by rw [HE.out]; rfl, HBR.out⟩
        have cmed : ¬ (4294967295 : Int) < med := by omega
        by_cases apref : -1 ≤ pref
        rotate_left
        · skip
          have HE := Lib.hid (show V = false by rw [HV.out]; rw [HP.out]; unfold saidB; rw [decide_eq_false apref]; simp)
          clear HV HM HP HRF
          go_wp2_with fail
          refine Q.out.mono ?_
          rintro e w2 ⟨rfl, rfl⟩
          go_wp2_with fail
          go_ret
          exact ⟨by rw [HE.out]; rfl, HBR.out⟩
        by_cases bpref : pref ≤ 4294967295
        rotate_left
        · have cpref : (4294967295 : Int) < pref := by omega
          have HE := Lib.hid (show V = false by rw [HV.out]; rw [HP.out]; unfold saidB; rw [decide_eq_false bpref]; simp)
          clear HV HM HP HRF
          go_wp2_with fail
          refine Q.out.mono ?_
          rintro e w2 ⟨rfl, rfl⟩
          go_wp2_with fail
          go_ret
          exact ⟨by rw [HE.out]; rfl, HBR.out⟩
        have cpref : ¬ (4294967295 : Int) < pref := by omega
        have HM1 : M = true := by rw [HM.out]; unfold saidB; rw [decide_eq_true amed, decide_eq_true bmed]; rfl
        have HP1 : P = true := by rw [HP.out]; unfold saidB; rw [decide_eq_true apref, decide_eq_true bpref]; rfl
        have HV2 := Lib.hid (show V = (has || (decide (aas = 0) && decide (aad = 0))) by rw [HV.out, HM1, HP1, HRF.out, decide_eq_true h1, decide_eq_true h2, decide_eq_true h3, decide_eq_true h4]; simp)
        clear HV HM HP HRF HM1 HP1
        cases has with
        | true =>
          have HE := Lib.hid (show V = true by rw [HV2.out]; rfl)
          clear HV2
          go_wp2_with fail
          refine Q.out.mono ?_
          rintro e w2 ⟨rfl, rfl⟩
          go_wp2_with fail
          go_ret
          exact ⟨by rw [HE.out]; rfl, HBR.out⟩
        | false =>
          by_cases h7 : aas = 0
          rotate_left
          · have e7 : (aas == 0) = false := by simpa using h7
            have HE := Lib.hid (show V = false by rw [HV2.out, decide_eq_false h7]; rfl)
            clear HV2 h7
            go_wp2_with fail
            refine Q.out.mono ?_
            rintro e w2 ⟨rfl, rfl⟩
            go_wp2_with fail
            go_ret
            exact ⟨by rw [HE.out]; rfl, HBR.out⟩
          have e7 : (aas == 0) = true := by simpa using h7
          by_cases h8 : aad = 0
          rotate_left
          · have e8 : (aad == 0) = false := by simpa using h8
            have HE := Lib.hid (show V = false by rw [HV2.out, decide_eq_false h8, decide_eq_true h7]; rfl)
            clear HV2 h8 h7
            go_wp2_with fail
            refine Q.out.mono ?_
            rintro e w2 ⟨rfl, rfl⟩
            go_wp2_with fail
            go_ret
            exact ⟨by rw [HE.out]; rfl, HBR.out⟩
          have e8 : (aad == 0) = true := by simpa using h8
          have HE := Lib.hid (show V = true by rw [HV2.out, decide_eq_true h8, decide_eq_true h7]; rfl)
          clear HV2 h7 h8
          go_wp2_with fail
          refine Q.out.mono ?_
          rintro e w2 ⟨rfl, rfl⟩
          go_wp2_with fail
          go_ret
          exact ⟨by rw [HE.out]; rfl, HBR.out⟩
end Go.Proofs.YtnaangnmlbgmkaaGreatDoor

/-
  Texts of this seat, put together: Same4.
-/
import Derived.Test.YtnaangnmlbgmkaaGreatDoorAttr4Mg
import Derived.Test.YtnaangnmlbgmkaaGreatDoorMg6
import Derived.Test.YtnaangnmlbgmkaaGreatDoorMg4
/-
  Whether two attributes are the same, by the program.
-/
namespace Go.Proofs.YtnaangnmlbgmkaaGreatDoor
set_option linter.unusedVariables false
set_option linter.unusedSimpArgs false
open Go.RowKit

/-- Are two attributes the same? -/
def Av.same (a b : Av) : Bool := (a.org == b.org) && (a.next == b.next) && (a.med == b.med) && (a.pref == b.pref) && (a.atomic == b.atomic) && (a.has == b.has) && (a.aas == b.aas) && (a.aad == b.aad) && sameP a.path b.path && sameZ a.comms b.comms && sameRs a.raws b.raws
set_option maxHeartbeats 6400000 in
theorem Same_attrs (a b : Av) (w : World) (h : a.In w w.heap.size) (h' : b.In w w.heap.size) (hl : a.path.length ≤ 1000000000) (hl2 : a.raws.length ≤ 1000000000) :
    Calls Tryz.prog 40 #[.agg a.row.toArray, .agg b.row.toArray] w fun e w' => e = .returned (.bool (a.same b)) ∧ Below w.heap.size w w' := by
  obtain ⟨aorg, apa, apc, apath, anext, amed, apref, aatomic, ahas, aaas, aaad, aca, acc, acomms, ara, arc, araws⟩ := a
  obtain ⟨borg, bpa, bpc, bpath, bnext, bmed, bpref, batomic, bhas, baas, baad, bca, bcc, bcomms, bra, brc, braws⟩ := b
  obtain ⟨hp, hpc, hcm, hcc, hrw, hrc, hea⟩ := h
  obtain ⟨hp', hpc', hcm', hcc', hrw', hrc', hea'⟩ := h'
  dsimp only at hp hpc hcm hcc hrw hrc hea hp' hpc' hcm' hcc' hrw' hrc' hea' hl hl2
  unfold Av.row Av.same
  dsimp only
  have hb0 := (Below.refl w.heap.size w).alloc (Nat.le_refl _) (.cells #[.int .i64 aorg, .slice apa apath.length apc, .int .u32 anext, .int .i64 amed, .int .i64 apref, .bool aatomic, .bool ahas, .int .u32 aaas, .int .u32 aaad, .slice aca acomms.length acc, .slice ara araws.length arc] 28)
  have hb1 := hb0.alloc hb0.size (.cells #[.int .i64 borg, .slice bpa bpath.length bpc, .int .u32 bnext, .int .i64 bmed, .int .i64 bpref, .bool batomic, .bool bhas, .int .u32 baas, .int .u32 baad, .slice bca bcomms.length bcc, .slice bra braws.length brc] 28)
  have kA := (Blk.new w 28 [.int .i64 aorg, .slice apa apath.length apc, .int .u32 anext, .int .i64 amed, .int .i64 apref, .bool aatomic, .bool ahas, .int .u32 aaas, .int .u32 aaad, .slice aca acomms.length acc, .slice ara araws.length arc]).below ((Below.refl _ _).alloc (Nat.le_refl _) (.cells #[.int .i64 borg, .slice bpa bpath.length bpc, .int .u32 bnext, .int .i64 bmed, .int .i64 bpref, .bool batomic, .bool bhas, .int .u32 baas, .int .u32 baad, .slice bca bcomms.length bcc, .slice bra braws.length brc] 28)) (by simp)
  have kB := Blk.new (w.alloc (.cells #[.int .i64 aorg, .slice apa apath.length apc, .int .u32 anext, .int .i64 amed, .int .i64 apref, .bool aatomic, .bool ahas, .int .u32 aaas, .int .u32 aaad, .slice aca acomms.length acc, .slice ara araws.length arc] 28)) 28 [.int .i64 borg, .slice bpa bpath.length bpc, .int .u32 bnext, .int .i64 bmed, .int .i64 bpref, .bool batomic, .bool bhas, .int .u32 baas, .int .u32 baad, .slice bca bcomms.length bcc, .slice bra braws.length brc]
  simp only [alloc_sz4] at kB
  have a0 : World.cell? _ ⟨w.heap.size, 0, none⟩ = some _ := kA.cell 0
  have b0 : World.cell? _ ⟨w.heap.size + 1, 0, none⟩ = some _ := kB.cell 0
  have a1 : World.cell? _ ⟨w.heap.size, 1, none⟩ = some _ := kA.cell 1
  have b1 : World.cell? _ ⟨w.heap.size + 1, 1, none⟩ = some _ := kB.cell 1
  have a2 : World.cell? _ ⟨w.heap.size, 2, none⟩ = some _ := kA.cell 2
  have b2 : World.cell? _ ⟨w.heap.size + 1, 2, none⟩ = some _ := kB.cell 2
  have a3 : World.cell? _ ⟨w.heap.size, 3, none⟩ = some _ := kA.cell 3
  have b3 : World.cell? _ ⟨w.heap.size + 1, 3, none⟩ = some _ := kB.cell 3
  have a4 : World.cell? _ ⟨w.heap.size, 4, none⟩ = some _ := kA.cell 4
  have b4 : World.cell? _ ⟨w.heap.size + 1, 4, none⟩ = some _ := kB.cell 4
  have a5 : World.cell? _ ⟨w.heap.size, 5, none⟩ = some _ := kA.cell 5
  have b5 : World.cell? _ ⟨w.heap.size + 1, 5, none⟩ = some _ := kB.cell 5
  have a6 : World.cell? _ ⟨w.heap.size, 6, none⟩ = some _ := kA.cell 6
  have b6 : World.cell? _ ⟨w.heap.size + 1, 6, none⟩ = some _ := kB.cell 6
  have a7 : World.cell? _ ⟨w.heap.size, 7, none⟩ = some _ := kA.cell 7
  have b7 : World.cell? _ ⟨w.heap.size + 1, 7, none⟩ = some _ := kB.cell 7
  have a8 : World.cell? _ ⟨w.heap.size, 8, none⟩ = some _ := kA.cell 8
  have b8 : World.cell? _ ⟨w.heap.size + 1, 8, none⟩ = some _ := kB.cell 8
  have a9 : World.cell? _ ⟨w.heap.size, 9, none⟩ = some _ := kA.cell 9
  have b9 : World.cell? _ ⟨w.heap.size + 1, 9, none⟩ = some _ := kB.cell 9
  have a10 : World.cell? _ ⟨w.heap.size, 10, none⟩ = some _ := kA.cell 10
  have b10 : World.cell? _ ⟨w.heap.size + 1, 10, none⟩ = some _ := kB.cell 10
  have HB1 := Lib.hid hb1; have HKA := Lib.hid kA; have HKB := Lib.hid kB
  have hm : acomms.length ≤ 9223372036854775807 := by have h1 := hcc.1; have h2 := hcc.2; unfold maxLen at h2; omega
  have QP := Lib.hid (Same3_any apa bpa apc bpc apath bpath _ ((hp.below hb1 (Nat.le_refl _)).lift hb1.size) ((hp'.below hb1 (Nat.le_refl _)).lift hb1.size) hl)
  have QC := Lib.hid (fun (w2 : World) (hb2 : Below w.heap.size w w2) => Equal32_any aca bca acc bcc acomms bcomms w2 ((hcm.below hb2 (Nat.le_refl _)).lift hb2.size) ((hcm'.below hb2 (Nat.le_refl _)).lift hb2.size) hm)
  have QR := Lib.hid (fun (w2 : World) (hb2 : Below w.heap.size w w2) => EqualRaws_any ara bra arc brc araws braws w2 ((hrw.below hb2 (Nat.le_refl _)).lift hb2.size) ((hrw'.below hb2 (Nat.le_refl _)).lift hb2.size) hl2)
  obtain ⟨P, hP⟩ : ∃ P, P = sameP apath bpath := ⟨_, rfl⟩
  obtain ⟨C, hC⟩ : ∃ C, C = sameZ acomms bcomms := ⟨_, rfl⟩
  obtain ⟨R, hR⟩ : ∃ R, R = sameRs araws braws := ⟨_, rfl⟩
  rw [← hP, ← hC, ← hR]
  rw [← hP] at QP
  rw [← hC] at QC
  rw [← hR] at QR
  obtain ⟨V, hV⟩ : ∃ V, V = ((aorg == borg) && (anext == bnext) && (amed == bmed) && (apref == bpref) && (aatomic == batomic) && (ahas == bhas) && (aaas == baas) && (aaad == baad) && P && C && R) := ⟨_, rfl⟩
  rw [← hV]
  have HV := Lib.hid hV
  clear hp hpc hcm hcc hrw hrc hea hp' hpc' hcm' hcc' hrw' hrc' hea' hl hl2 hb0 hb1 kA kB hm hP hC hR hV
  by_cases h0 : aorg = borg
  rotate_left
  · have e0 : (aorg == borg) = false := by simpa using h0
    have HE := Lib.hid (show V = false by rw [HV.out]; simp only [e0]; simp)
    clear HV QP QC QR h0
    go_enter Tryz.func40, Tryz.ntmps40
    go_wp2_with fail
    go_ret
    exact ⟨by rw [HE.out]; rfl, HB1.out⟩
  have e0 : (aorg == borg) = true := by simpa using h0
  clear h0
  by_cases h1 : anext = bnext
  rotate_left
  · have e1 : (anext == bnext) = false := by simpa using h1
    have HE := Lib.hid (show V = false by rw [HV.out]; simp only [e0, e1]; simp)
    clear HV QP QC QR h1
    go_enter Tryz.func40, Tryz.ntmps40
    go_wp2_with fail
    go_ret
    exact ⟨by rw [HE.out]; rfl, HB1.out⟩
  have e1 : (anext == bnext) = true := by simpa using h1
  clear h1
  by_cases h2 : amed = bmed
  rotate_left
  · have e2 : (amed == bmed) = false := by simpa using h2
    have HE := Lib.hid (show V = false by rw [HV.out]; simp only [e0, e1, e2]; simp)
    clear HV QP QC QR h2
    go_enter Tryz.func40, Tryz.ntmps40
    go_wp2_with fail
    go_ret
    exact ⟨by rw [HE.out]; rfl, HB1.out⟩
  have e2 : (amed == bmed) = true := by simpa using h2
  clear h2
  by_cases h3 : apref = bpref
  rotate_left
  · have e3 : (apref == bpref) = false := by simpa using h3
    have HE := Lib.hid (show V = false by rw [HV.out]; simp only [e0, e1, e2, e3]; simp)
    clear HV QP QC QR h3
    go_enter Tryz.func40, Tryz.ntmps40
    go_wp2_with fail
    go_ret
    exact ⟨by rw [HE.out]; rfl, HB1.out⟩
  have e3 : (apref == bpref) = true := by simpa using h3
  clear h3
  by_cases h4 : aatomic = batomic
  rotate_left
  · have e4 : (aatomic == batomic) = false := by simpa using h4
    have HE := Lib.hid (show V = false by rw [HV.out]; simp only [e0, e1, e2, e3, e4]; simp)
    clear HV QP QC QR h4
    go_enter Tryz.func40, Tryz.ntmps40
    go_wp2_with fail
    go_ret
    exact ⟨by rw [HE.out]; rfl, HB1.out⟩
  have e4 : (aatomic == batomic) = true := by simpa using h4
  clear h4
  by_cases h5 : ahas = bhas
  rotate_left
  · have e5 : (ahas == bhas) = false := by simpa using h5
    have HE := Lib.hid (show V = false by rw [HV.out]; simp only [e0, e1, e2, e3, e4, e5]; simp)
    clear HV QP QC QR h5
    go_enter Tryz.func40, Tryz.ntmps40
    go_wp2_with fail
    go_ret
    exact ⟨by rw [HE.out]; rfl, HB1.out⟩
  have e5 : (ahas == bhas) = true := by simpa using h5
  clear h5
  by_cases h6 : aaas = baas
  rotate_left
  · have e6 : (aaas == baas) = false := by simpa using h6
    have HE := Lib.hid (show V = false by rw [HV.out]; simp only [e0, e1, e2, e3, e4, e5, e6]; simp)
    clear HV QP QC QR h6
    go_enter Tryz.func40, Tryz.ntmps40
    go_wp2_with fail
    go_ret
    exact ⟨by rw [HE.out]; rfl, HB1.out⟩
  have e6 : (aaas == baas) = true := by simpa using h6
  clear h6
  by_cases h7 : aaad = baad
  rotate_left
  · have e7 : (aaad == baad) = false := by simpa using h7
    have HE := Lib.hid (show V = false by rw [HV.out]; simp only [e0, e1, e2, e3, e4, e5, e6, e7]; simp)
    clear HV QP QC QR h7
    go_enter Tryz.func40, Tryz.ntmps40
    go_wp2_with fail
    go_ret
    exact ⟨by rw [HE.out]; rfl, HB1.out⟩
  have e7 : (aaad == baad) = true := by simpa using h7
  clear h7
  have HW := Lib.hid (show V = (P && C && R) by rw [HV.out]; simp only [e0, e1, e2, e3, e4, e5, e6, e7]; simp)
  clear HV
  go_enter Tryz.func40, Tryz.ntmps40
  go_wp2_with fail
  refine QP.out.mono ?_
  rintro e w2 ⟨rfl, hb2⟩
  have HB2 := Lib.hid (HB1.out.trans (hb2.mono HB1.out.size))
  have hkA := HKA.out.below hb2 HKA.out.lt
  have hkB := HKB.out.below hb2 HKB.out.lt
  have d9 : World.cell? _ ⟨w.heap.size, 9, none⟩ = some _ := hkA.cell 9
  have f9 : World.cell? _ ⟨w.heap.size + 1, 9, none⟩ = some _ := hkB.cell 9
  have d10 : World.cell? _ ⟨w.heap.size, 10, none⟩ = some _ := hkA.cell 10
  have f10 : World.cell? _ ⟨w.heap.size + 1, 10, none⟩ = some _ := hkB.cell 10
  clear hb2 QP hkA hkB HKA HKB a0 b0 a1 b1 a2 b2 a3 b3 a4 b4 a5 b5 a6 b6 a7 b7 a8 b8 a9 b9 a10 b10
  cases P with
  | false =>
    have HE := Lib.hid (show V = false by rw [HW.out]; simp)
    clear HW
    go_wp2_with fail
    go_ret
    exact ⟨by rw [HE.out]; rfl, HB2.out⟩
  | true =>
    go_wp2_with fail
    refine (QC.out _ HB2.out).mono ?_
    rintro e w3 ⟨rfl, m, rfl⟩
    have HB3 := Lib.hid (below_drewN HB2.out m)
    have d10' : World.cell? (w2.drewN m) ⟨w.heap.size, 10, none⟩ = some _ := d10
    have f10' : World.cell? (w2.drewN m) ⟨w.heap.size + 1, 10, none⟩ = some _ := f10
    cases C with
    | false =>
      have HE := Lib.hid (show V = false by rw [HW.out]; simp)
      clear HW
      go_wp2_with fail
      go_ret
      exact ⟨by rw [HE.out]; rfl, HB3.out⟩
    | true =>
      have HE := Lib.hid (show V = R by rw [HW.out]; simp)
      clear HW
      go_wp2_with fail
      refine (QR.out _ HB3.out).mono ?_
      rintro e w4 ⟨rfl, hb4⟩
      have HB4 := Lib.hid (HB3.out.trans (hb4.mono HB3.out.size))
      clear hb4 QR
      go_wp2_with fail
      go_ret
      exact ⟨by rw [HE.out]; rfl, HB4.out⟩
end Go.Proofs.YtnaangnmlbgmkaaGreatDoor

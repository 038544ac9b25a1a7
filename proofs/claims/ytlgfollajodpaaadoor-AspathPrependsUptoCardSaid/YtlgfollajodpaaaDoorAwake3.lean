/-
  The example that each statement of this layer asks for.
-/
import Derived.Test.YtlgfollajodpaaaDoorText4
import Derived.Test.YtlgfollajodpaaaDoorPut3
import Derived.Test.YtlgfollajodpaaaDoorHas
namespace Go.Proofs.YtlgfollajodpaaaDoor
set_option linter.unusedVariables false
set_option linter.unusedSimpArgs false
open Go.RowKit

theorem dec1 : dec 1 = [49] := by rw [dec_small (by decide)]; rfl
theorem dec2 : dec 2 = [50] := by rw [dec_small (by decide)]; rfl
theorem dec3 : dec 3 = [51] := by rw [dec_small (by decide)]; rfl
theorem dec4 : dec 4 = [52] := by rw [dec_small (by decide)]; rfl
theorem int1 : intSpec [49] = some 1 := intSpec_of dec1 (by decide)
theorem int2 : intSpec [50] = some 2 := intSpec_of dec2 (by decide)
theorem int3 : intSpec [51] = some 3 := intSpec_of dec3 (by decide)
theorem int4 : intSpec [52] = some 4 := intSpec_of dec4 (by decide)
def exA : List (Int × List Nat) := [(2, [1, 2]), (1, [3, 4])]
theorem ex_split : splitL [49, 32, 50, 32, 123, 51, 44, 52, 125] 32 = [[49], [50], [123, 51, 44, 52, 125]] := by decide
theorem ex_s1 : segL [49] = some (2, [1]) := by
  have h1 : Lib.hasPrefix [49] [123] = false := by decide
  unfold segL
  rw [h1, if_neg (by decide)]
  simp [numsL, int1]
theorem ex_s2 : segL [50] = some (2, [2]) := by
  have h1 : Lib.hasPrefix [50] [123] = false := by decide
  unfold segL
  rw [h1, if_neg (by decide)]
  simp [numsL, int2]
theorem ex_s3 : segL [123, 51, 44, 52, 125] = some (1, [3, 4]) := by
  have h1 : Lib.hasPrefix [123, 51, 44, 52, 125] [123] = true := by decide
  have h2 : Lib.trimPrefix [123, 51, 44, 52, 125] [123] = [51, 44, 52, 125] := by decide
  have h3 : Lib.hasSuffix [51, 44, 52, 125] [125] = true := by decide
  have h4 : Lib.trimSuffix [51, 44, 52, 125] [125] = [51, 44, 52] := by decide
  have h5 : splitL [51, 44, 52] 44 = [[51], [52]] := by decide
  unfold segL
  rw [h1, h2, if_pos rfl, h3, if_pos rfl, h4, h5]
  simp [numsL, int3, int4]
theorem ex_norm : normL [(2, [1]), (2, [2]), (1, [3, 4])] = exA := by decide
theorem ex_norm2 : normL exA = exA := by decide
theorem ex_right : rightA exA = true := by decide
theorem ex_parse : parseL [49, 32, 50, 32, 123, 51, 44, 52, 125] = some exA := by
  have h1 : segsL (splitL [49, 32, 50, 32, 123, 51, 44, 52, 125] 32) = some [(2, [1]), (2, [2]), (1, [3, 4])] := by
    rw [ex_split]
    simp [segsL, ex_s1, ex_s2, ex_s3]
  unfold parseL
  rw [if_neg (by decide), h1]
  show (if rightA (normL [(2, [1]), (2, [2]), (1, [3, 4])]) = true then some (normL [(2, [1]), (2, [2]), (1, [3, 4])]) else none) = some exA
  rw [ex_norm, ex_right, if_pos rfl]
theorem ex_text : textA exA = [49, 32, 50, 32, 123, 51, 44, 52, 125] := by
  have h1 : textS 2 [1, 2] = [49, 32, 50] := by
    unfold textS
    rw [if_neg (by decide)]
    simp only [List.map_cons, List.map_nil, dec1, dec2]
    rfl
  have h2 : textS 1 [3, 4] = [123, 51, 44, 52, 125] := by
    unfold textS
    rw [if_pos rfl]
    simp only [List.map_cons, List.map_nil, dec3, dec4]
    rfl
  unfold textA
  rw [ex_right, if_pos rfl, ex_norm2]
  show joinL [textS 2 [1, 2], textS 1 [3, 4]] 32 = _
  rw [h1, h2]
  rfl
theorem abs_all {M : List Sg} (h : M.map Sg.abs = exA) : M.length = 2 ∧ totN M = 4 ∧ cntN M = 3 ∧ hasB M 4 = true ∧ (putB true M).length = 20 := by
  match M, h with
  | [a, b], h =>
    obtain ⟨k1, A1, c1, z1⟩ := a
    obtain ⟨k2, A2, c2, z2⟩ := b
    simp only [List.map_cons, List.map_nil, Sg.abs, exA, List.cons.injEq, Prod.mk.injEq, and_true] at h
    obtain ⟨⟨rfl, rfl⟩, rfl, rfl⟩ := h
    refine ⟨rfl, rfl, rfl, rfl, rfl⟩
  | [], h => simp [exA] at h
  | [a], h => simp [exA] at h
  | a :: b :: c :: r, h => simp [exA] at h

set_option maxHeartbeats 3200000 in
theorem awake3_any (w : World) (ht : Tab w) : Calls Tryd.prog 5 #[] w fun e w' => e = .returned (.bool true) ∧ Below w.heap.size w w' := by
  have qP := Parse3_any [49, 32, 50, 32, 123, 51, 44, 52, 125] w (by decide) ht
  rw [ex_parse] at qP
  have QP := Lib.hid qP
  have HT := Lib.hid ht; clear ht qP
  go_enter Tryd.func5, Tryd.ntmps5
  go_wp2_with fail
  refine QP.out.mono ?_
  rintro e w1 ⟨M, A, c, rfl, habs, f1, f2, hsg, hb1⟩
  obtain ⟨m1, m2, m3, m4, m5⟩ := abs_all habs
  have qc := Count_any A c M w1 hsg f1 f2 (by omega)
  rw [m3] at qc
  have QC := Lib.hid qc
  have HS := Lib.hid hsg; have HB1 := Lib.hid hb1; have HM := Lib.hid (And.intro habs (And.intro m4 m5)); have HF := Lib.hid (And.intro f1 f2)
  rw [m1] at QC ⊢
  clear habs hsg hb1 m3 m4 m5 qc
  go_wp2_with fail
  refine QC.out.mono ?_
  rintro e w2 ⟨rfl, hb2⟩
  have HS2 := Lib.hid ((HS.out.below hb2 (Nat.le_refl _)).lift hb2.size)
  have HB2 := Lib.hid (HB1.out.trans (hb2.mono HB1.out.size))
  have qt := Text4_any A c M w2 HS2.out HF.out.1 HF.out.2 (by omega) (HT.out.below HB2.out HT.out.lt)
  rw [HM.out.1, ex_text, m1] at qt
  have QT := Lib.hid qt
  clear hb2 qt
  go_wp2_with fail
  refine QT.out.mono ?_
  rintro e w3 ⟨rfl, hb3⟩
  have HS3 := Lib.hid ((HS2.out.below hb3 (Nat.le_refl _)).lift hb3.size)
  have HB3 := Lib.hid (HB2.out.trans (hb3.mono HB2.out.size))
  have qh := Has_any A c M 4 w3 HS3.out (by omega) (by omega)
  rw [HM.out.2.1, m1] at qh
  have QH := Lib.hid qh
  clear hb3 qh
  go_wp2_with fail
  refine QH.out.mono ?_
  rintro e w4 ⟨rfl, hb4⟩
  have HS4 := Lib.hid ((HS3.out.below hb4 (Nat.le_refl _)).lift hb4.size)
  have HB4 := Lib.hid (HB3.out.trans (hb4.mono HB3.out.size))
  have qp := Put3_any A c M true w4 HS4.out (by omega) (by omega)
  rw [m1] at qp
  have QQ := Lib.hid (qp.mono (fun e w' (h : RetBytes w4 (putB true M) e w') => show ∃ A c, e = .returned (.slice A 20 c) ∧ Below w4.heap.size w4 w' from by
    obtain ⟨A', c', h1, _, _, _, h2⟩ := h
    rw [HM.out.2.2] at h1
    exact ⟨A', c', h1, h2⟩))
  clear hb4 qp
  go_wp2_with fail
  refine QQ.out.mono ?_
  rintro e w5 ⟨A5, c5, rfl, hb5⟩
  go_wp2_with fail
  go_ret
  exact ⟨rfl, HB4.out.trans (hb5.mono HB4.out.size)⟩
end Go.Proofs.YtlgfollajodpaaaDoor

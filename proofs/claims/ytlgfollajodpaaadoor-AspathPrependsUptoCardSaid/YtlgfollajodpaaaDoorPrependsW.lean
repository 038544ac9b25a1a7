/-
  P3.2, P3.6: any path with any number ahead, and any path whose sequences are one: the walk (written by gen03pw.py).
-/
import Derived.Test.YtlgfollajodpaaaDoorRefPrep4
import Derived.Test.YtlgfollajodpaaaDoorRefNorm3
import Derived.Test.YtlgfollajodpaaaDoorNormCnt3
import Derived.Test.YtlgfollajodpaaaDoorFirst3
import Derived.Test.YtlgfollajodpaaaDoorRefSame3
import Derived.Test.YtlgfollajodpaaaDoorAwake3
namespace Go.Proofs.YtlgfollajodpaaaDoor.AspathPrepends
open Go.RowKit
set_option linter.unusedVariables false
set_option linter.unusedSimpArgs false

theorem same_of {a b : List Sg} (h : a.map Sg.abs = b.map Sg.abs) : sameP a b = true := decide_eq_true h
theorem prep_cnt (r : List (Int × List Nat)) (a : Nat) : cntA (prepA r a) = cntA r + 1 := by
  unfold prepA
  cases r with
  | nil => simp [cntA]
  | cons s t =>
    by_cases h : s.1 = 2
    · simp [cntA, h]; omega
    · simp [cntA, h]; omega
theorem prep_first {M : List Sg} {r : List (Int × List Nat)} {a : Nat} (h : M.map Sg.abs = prepA r a) : firstL M = (a, true) := by
  obtain ⟨z, t, hp⟩ : ∃ z t, prepA r a = (2, a :: z) :: t := by
    unfold prepA
    cases r with
    | nil => exact ⟨[], [], rfl⟩
    | cons s t =>
      by_cases h : s.1 = 2
      · exact ⟨s.2, t, by simp [h]⟩
      · exact ⟨[], s :: t, by simp [h]⟩
  rw [hp] at h
  cases M with
  | nil => simp at h
  | cons s M =>
    simp only [List.map_cons, List.cons.injEq, Sg.abs, Prod.mk.injEq] at h
    unfold firstL
    simp [h.1.1, h.1.2]
theorem abs_tot (X : List Sg) : totN X = totA (X.map Sg.abs) := by unfold totN totA; rw [List.map_map]; rfl

set_option maxHeartbeats 12800000 in
theorem walk (A : Option Addr) (c : Nat) (L : List Sg) (k : Nat) (w : World) (h : Segs w w.heap.size A L) (hc : L.length ≤ c) (hm : c ≤ maxLen) (htot : fewB L = true → totN L ≤ 1048576) (hk : k < 4294967296) (ht : Tab w) :
    Calls Tryd.prog 3 #[.slice A L.length c, .int .u32 (k : Int)] w fun e w' => e = .returned (.bool true) ∧ Below w.heap.size w w' := by
  have QF := Lib.hid (Few_any A c L w h)
  have HT := Lib.hid (fun (w' : World) (hb : Below w.heap.size w w') => ht.below hb ht.lt)
  have HS := Lib.hid (fun W (hB : Below w.heap.size w W) => (h.below hB (Nat.le_refl _)).lift hB.size)
  clear ht h
  cases hf : fewB L with
  | false =>
    rw [hf] at QF
    clear hf htot
    go_enter Tryd.func3, Tryd.ntmps3
    go_wp2_with fail
    refine QF.out.mono ?_
    rintro e w1 ⟨rfl, rfl⟩
    go_wp2_with fail
    refine (awake3_any _ (HT.out _ (Below.refl _ _))).mono ?_
    rintro e w9 ⟨rfl, g⟩
    go_wp2_with fail
    go_ret
    exact ⟨rfl, g⟩
  | true =>
    rw [hf] at QF
    have hT := htot hf
    have hL12 : L.length ≤ 12 := by
      unfold fewB at hf
      exact (of_decide_eq_true hf).1
    clear hf htot
    have QP := fun W (hB : Below w.heap.size w W) => Lib.hid (Prepend_any A c L k W (HS.out W hB) hc hm (by omega) hk)
    have QQ := fun W (hB : Below w.heap.size w W) => Lib.hid (RefPrepend_any A c L k W (HS.out W hB) hc hm (by omega) hk)
    have QN := fun W (hB : Below w.heap.size w W) => Lib.hid (Norm_any A c L W (HS.out W hB) hc hm (by omega) (by omega))
    have QM := fun W (hB : Below w.heap.size w W) => Lib.hid (RefNorm3_any A c L W (HS.out W hB) (by omega) (by omega))
    have QC := fun W (hB : Below w.heap.size w W) => Lib.hid (RefCount_any A c L W (HS.out W hB) hc hm (by omega))
    have hcl := cnt_le L
    have hNT := norm_tot (L.map Sg.abs)
    rw [← abs_tot, List.length_map] at hNT
    have hNC := norm_cnt (L.map Sg.abs)
    rw [← cnt_abs] at hNC
    obtain ⟨X, hX⟩ : ∃ X, X = normL (L.map Sg.abs) := ⟨_, rfl⟩
    rw [← hX] at hNT hNC
    have QN := fun W (hB : Below w.heap.size w W) => Lib.hid (show Calls Tryd.prog 9 #[.slice A L.length c] W (RetSegs W X) by rw [hX]; exact (QN W hB).out)
    have QM := fun W (hB : Below w.heap.size w W) => Lib.hid (show Calls Tryd.prog 10 #[.slice A L.length c] W (RetSegs W X) by rw [hX]; exact (QM W hB).out)
    have HNT := Lib.hid hNT; have HNC := Lib.hid hNC
    obtain ⟨K, hK⟩ : ∃ K, K = cntN L := ⟨_, rfl⟩
    rw [← hK] at QC hcl
    have HK := Lib.hid hK
    clear hX hNT hNC hK
    have hKI : (K : Int) ≤ 2000000 := by omega
    cases hr : rightA (L.map Sg.abs) with
    | false =>
      have q1 := QP w (Below.refl _ _)
      have q2 := fun W hB => QQ W hB
      unfold PrepPost at q1 q2
      simp only [hr, if_false, Bool.false_eq_true] at q1 q2
      go_enter Tryd.func3, Tryd.ntmps3
      go_wp2_with fail
      refine QF.out.mono ?_
      rintro e w0 ⟨rfl, rfl⟩
      go_wp2_with fail
      refine q1.out.mono ?_
      rintro e w1 ⟨rfl, hbc⟩
      go_wp2_with fail
      refine (q2 _ hbc).out.mono ?_
      rintro e w2 ⟨rfl, g⟩
      replace hbc := hbc.trans (g.mono hbc.size)
      clear g
      have QS := Lib.hid (RefSame3_any none none 0 0 [] [] w2 (Segs.nil _ _ _) (Segs.nil _ _ _) (by simp))
      rw [same_of rfl] at QS
      simp only [List.length_nil] at QS
      go_wp2_with fail
      refine QS.out.mono ?_
      rintro e w3 ⟨rfl, m0, rfl⟩
      replace hbc := below_drewN hbc m0
      go_wp2_with fail
      refine (QN _ hbc).out.mono ?_
      rintro e wa ⟨Ma, Aa, ca, rfl, ha1, ha2, ha3, ha4, g⟩
      replace hbc := hbc.trans (g.mono hbc.size)
      have HA4 := Lib.hid ha4; have HA1 := Lib.hid ha1
      clear g ha4 ha1
      go_wp2_with fail
      refine (QM _ hbc).out.mono ?_
      rintro e wb ⟨Mb, Ab, cb, rfl, hv1, hv2, hv3, hv4, g⟩
      have HA5 := Lib.hid ((HA4.out.below g (Nat.le_refl _)).lift g.size)
      replace hbc := hbc.trans (g.mono hbc.size)
      have QSn := Lib.hid (RefSame3_any Aa Ab ca cb Ma Mb wb HA5.out hv4 (by have e := congrArg List.length HA1.out; rw [List.length_map] at e; have := HNT.out.2; omega))
      rw [same_of (HA1.out.trans hv1.symm)] at QSn
      clear g hv4 hv1
      go_wp2_with fail
      refine QSn.out.mono ?_
      rintro e wc ⟨rfl, m, rfl⟩
      replace hbc := below_drewN hbc m
      go_wp2_with fail
      refine (QN _ hbc).out.mono ?_
      rintro e wd ⟨Md, Ad, cd, rfl, hd1, hd2, hd3, hd4, g⟩
      replace hbc := hbc.trans (g.mono hbc.size)
      have QCd := Lib.hid (Count_any Ad cd Md wd hd4 hd2 hd3 (by have e := congrArg List.length hd1; rw [List.length_map] at e; have h9 := HNT.out; rw [abs_tot, hd1]; omega))
      rw [show cntN Md = K by rw [cnt_abs, hd1, HNC.out, HK.out]] at QCd
      clear g hd4 hd1
      go_wp2_with fail
      refine QCd.out.mono ?_
      rintro e we ⟨rfl, g⟩
      replace hbc := hbc.trans (g.mono hbc.size)
      clear g
      go_wp2_with fail
      refine (QC _ hbc).out.mono ?_
      rintro e wf ⟨rfl, rfl⟩
      go_wp2_with fail
      refine (awake3_any _ (HT.out _ hbc)).mono ?_
      rintro e w9 ⟨rfl, g⟩
      replace hbc := hbc.trans (g.mono hbc.size)
      go_wp2_with fail
      go_ret
      exact ⟨rfl, hbc⟩
    | true =>
      cases hp : rightA (prepA (L.map Sg.abs) k) with
      | false =>
        have q1 := QP w (Below.refl _ _)
        have q2 := fun W hB => QQ W hB
        unfold PrepPost at q1 q2
        simp only [hr, hp, if_true, if_false, Bool.false_eq_true] at q1 q2
        go_enter Tryd.func3, Tryd.ntmps3
        go_wp2_with fail
        refine QF.out.mono ?_
        rintro e w0 ⟨rfl, rfl⟩
        go_wp2_with fail
        refine q1.out.mono ?_
        rintro e w1 ⟨rfl, hbc⟩
        go_wp2_with fail
        refine (q2 _ hbc).out.mono ?_
        rintro e w2 ⟨rfl, g⟩
        replace hbc := hbc.trans (g.mono hbc.size)
        clear g
        have QS := Lib.hid (RefSame3_any none none 0 0 [] [] w2 (Segs.nil _ _ _) (Segs.nil _ _ _) (by simp))
        rw [same_of rfl] at QS
        simp only [List.length_nil] at QS
        go_wp2_with fail
        refine QS.out.mono ?_
        rintro e w3 ⟨rfl, m0, rfl⟩
        replace hbc := below_drewN hbc m0
        go_wp2_with fail
        refine (QN _ hbc).out.mono ?_
        rintro e wa ⟨Ma, Aa, ca, rfl, ha1, ha2, ha3, ha4, g⟩
        replace hbc := hbc.trans (g.mono hbc.size)
        have HA4 := Lib.hid ha4; have HA1 := Lib.hid ha1
        clear g ha4 ha1
        go_wp2_with fail
        refine (QM _ hbc).out.mono ?_
        rintro e wb ⟨Mb, Ab, cb, rfl, hv1, hv2, hv3, hv4, g⟩
        have HA5 := Lib.hid ((HA4.out.below g (Nat.le_refl _)).lift g.size)
        replace hbc := hbc.trans (g.mono hbc.size)
        have QSn := Lib.hid (RefSame3_any Aa Ab ca cb Ma Mb wb HA5.out hv4 (by have e := congrArg List.length HA1.out; rw [List.length_map] at e; have := HNT.out.2; omega))
        rw [same_of (HA1.out.trans hv1.symm)] at QSn
        clear g hv4 hv1
        go_wp2_with fail
        refine QSn.out.mono ?_
        rintro e wc ⟨rfl, m, rfl⟩
        replace hbc := below_drewN hbc m
        go_wp2_with fail
        refine (QN _ hbc).out.mono ?_
        rintro e wd ⟨Md, Ad, cd, rfl, hd1, hd2, hd3, hd4, g⟩
        replace hbc := hbc.trans (g.mono hbc.size)
        have QCd := Lib.hid (Count_any Ad cd Md wd hd4 hd2 hd3 (by have e := congrArg List.length hd1; rw [List.length_map] at e; have h9 := HNT.out; rw [abs_tot, hd1]; omega))
        rw [show cntN Md = K by rw [cnt_abs, hd1, HNC.out, HK.out]] at QCd
        clear g hd4 hd1
        go_wp2_with fail
        refine QCd.out.mono ?_
        rintro e we ⟨rfl, g⟩
        replace hbc := hbc.trans (g.mono hbc.size)
        clear g
        go_wp2_with fail
        refine (QC _ hbc).out.mono ?_
        rintro e wf ⟨rfl, rfl⟩
        go_wp2_with fail
        refine (awake3_any _ (HT.out _ hbc)).mono ?_
        rintro e w9 ⟨rfl, g⟩
        replace hbc := hbc.trans (g.mono hbc.size)
        go_wp2_with fail
        go_ret
        exact ⟨rfl, hbc⟩
      | true =>
        have q1 := QP w (Below.refl _ _)
        have q2 := fun W hB => QQ W hB
        unfold PrepPost at q1 q2
        simp only [hr, hp, if_true] at q1 q2
        have hP8 : (prepA (L.map Sg.abs) k).length ≤ 8 ∧ totA (prepA (L.map Sg.abs) k) ≤ 64 := by
          unfold rightA at hp
          simp only [Bool.and_eq_true, decide_eq_true_eq] at hp
          exact ⟨hp.1, hp.2.2⟩
        have HP8 := Lib.hid hP8
        clear hP8
        go_enter Tryd.func3, Tryd.ntmps3
        go_wp2_with fail
        refine QF.out.mono ?_
        rintro e w0 ⟨rfl, rfl⟩
        go_wp2_with fail
        refine q1.out.mono ?_
        rintro e w1 ⟨M1, A1, c1, rfl, m1, f1, f2, s1, hbc⟩
        have M1L := Lib.hid (show M1.length ≤ 8 by have e := congrArg List.length m1; rw [List.length_map] at e; have := HP8.out.1; omega)
        have H1 := Lib.hid m1; have S1 := Lib.hid (show ∀ W, Below w1.heap.size w1 W → Segs W W.heap.size A1 M1 from fun W g => (s1.below g (Nat.le_refl _)).lift g.size)
        have hb1 := Below.refl w1.heap.size w1
        have HF1 := Lib.hid (And.intro f1 f2)
        clear m1 s1 f1 f2
        go_wp2_with fail
        refine (q2 _ hbc).out.mono ?_
        rintro e w2 ⟨M2, A2, c2, rfl, m2, f3, f4, s2, g⟩
        replace hb1 := hb1.trans g
        replace hbc := hbc.trans (g.mono hbc.size)
        have QS := Lib.hid (RefSame3_any A1 A2 c1 c2 M1 M2 w2 (S1.out _ hb1) s2 (by have := M1L.out; omega))
        rw [same_of (H1.out.trans m2.symm)] at QS
        clear g m2 s2 f3 f4
        go_wp2_with fail
        refine QS.out.mono ?_
        rintro e w3 ⟨rfl, m0, rfl⟩
        replace hbc := below_drewN hbc m0
        replace hb1 := below_drewN hb1 m0
        go_wp2_with fail
        refine (QN _ hbc).out.mono ?_
        rintro e wa ⟨Ma, Aa, ca, rfl, ha1, ha2, ha3, ha4, g⟩
        replace hb1 := hb1.trans (g.mono hb1.size)
        replace hbc := hbc.trans (g.mono hbc.size)
        have HA4 := Lib.hid ha4; have HA1 := Lib.hid ha1
        clear g ha4 ha1
        go_wp2_with fail
        refine (QM _ hbc).out.mono ?_
        rintro e wb ⟨Mb, Ab, cb, rfl, hv1, hv2, hv3, hv4, g⟩
        have HA5 := Lib.hid ((HA4.out.below g (Nat.le_refl _)).lift g.size)
        replace hb1 := hb1.trans (g.mono hb1.size)
        replace hbc := hbc.trans (g.mono hbc.size)
        have QSn := Lib.hid (RefSame3_any Aa Ab ca cb Ma Mb wb HA5.out hv4 (by have e := congrArg List.length HA1.out; rw [List.length_map] at e; have := HNT.out.2; omega))
        rw [same_of (HA1.out.trans hv1.symm)] at QSn
        clear g hv4 hv1
        go_wp2_with fail
        refine QSn.out.mono ?_
        rintro e wc ⟨rfl, m, rfl⟩
        replace hb1 := below_drewN hb1 m
        replace hbc := below_drewN hbc m
        go_wp2_with fail
        refine (QN _ hbc).out.mono ?_
        rintro e wd ⟨Md, Ad, cd, rfl, hd1, hd2, hd3, hd4, g⟩
        replace hb1 := hb1.trans (g.mono hb1.size)
        replace hbc := hbc.trans (g.mono hbc.size)
        have QCd := Lib.hid (Count_any Ad cd Md wd hd4 hd2 hd3 (by have e := congrArg List.length hd1; rw [List.length_map] at e; have h9 := HNT.out; rw [abs_tot, hd1]; omega))
        rw [show cntN Md = K by rw [cnt_abs, hd1, HNC.out, HK.out]] at QCd
        clear g hd4 hd1
        go_wp2_with fail
        refine QCd.out.mono ?_
        rintro e we ⟨rfl, g⟩
        replace hb1 := hb1.trans (g.mono hb1.size)
        replace hbc := hbc.trans (g.mono hbc.size)
        clear g
        go_wp2_with fail
        refine (QC _ hbc).out.mono ?_
        rintro e wf ⟨rfl, rfl⟩
        go_wp2_with fail
        have QFi := Lib.hid (First_any A1 c1 M1 _ (S1.out _ hb1))
        rw [prep_first H1.out] at QFi
        unfold retFirst at QFi
        refine QFi.out.mono ?_
        rintro e wg ⟨rfl, rfl⟩
        go_wp2_with fail
        have QC1 := Lib.hid (Count_any A1 c1 M1 _ (S1.out _ hb1) HF1.out.1 HF1.out.2 (by rw [abs_tot, H1.out]; have := HP8.out.2; have := M1L.out; omega))
        rw [show cntN M1 = K + 1 by rw [cnt_abs, H1.out, prep_cnt, ← cnt_abs, HK.out]] at QC1
        refine QC1.out.mono ?_
        rintro e wh ⟨rfl, g⟩
        replace hbc := hbc.trans (g.mono hbc.size)
        clear g
        go_wp2_with fail
        refine (QC _ hbc).out.mono ?_
        rintro e wi ⟨rfl, rfl⟩
        go_wp2_with fail
        refine (awake3_any _ (HT.out _ hbc)).mono ?_
        rintro e w9 ⟨rfl, g⟩
        replace hbc := hbc.trans (g.mono hbc.size)
        go_wp2_with fail
        go_ret
        exact ⟨rfl, hbc⟩
end Go.Proofs.YtlgfollajodpaaaDoor.AspathPrepends

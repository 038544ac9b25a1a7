/-
  P3.5, P3.6: any narrow path, and any wide one, together: the walk, of paths that are small.
-/
import Derived.Test.YtiegfellgnfiiaaDoorAwake3
import Derived.Test.YtiegfellgnfiiaaDoorRefSame3
import Derived.Test.YtiegfellgnfiiaaDoorRefMerge3
namespace Go.Proofs.YtiegfellgnfiiaaDoor.AspathMerges
open Go.RowKit
set_option linter.unusedVariables false
set_option linter.unusedSimpArgs false

theorem okA_all {r : List (Int × List Nat)} (h : r.all okA = true) : ∀ s ∈ r, (s.1 = 1 ∨ s.1 = 2) ∧ s.2 ≠ [] := by
  intro s hs
  have h1 := List.all_eq_true.1 h s hs
  unfold okA at h1
  simp only [Bool.and_eq_true, Bool.or_eq_true, beq_iff_eq, bne_iff_ne] at h1
  exact ⟨h1.1, fun e => h1.2 (by rw [e]; rfl)⟩
theorem cnt_cons (s : Int × List Nat) (r : List (Int × List Nat)) : cntA (s :: r) = (if s.1 = 1 then 1 else s.2.length) + cntA r := by simp [cntA]
theorem cnt_app (a b : List (Int × List Nat)) : cntA (a ++ b) = cntA a + cntA b := by simp [cntA]
theorem begL_cnt : ∀ (r : List (Int × List Nat)) (n : Nat), (∀ s ∈ r, s.1 = 1 ∨ s.1 = 2) → n ≤ cntA r → cntA (begL r n) = n := by
  intro r
  induction r with
  | nil => intro n _ h; simp [cntA] at h; subst h; simp [begL, cntA]
  | cons s r ih =>
    intro n hk h
    have hk2 : ∀ t ∈ r, t.1 = 1 ∨ t.1 = 2 := fun t ht => hk t (List.mem_cons_of_mem _ ht)
    rw [cnt_cons] at h
    unfold begL
    by_cases h0 : n = 0
    · rw [if_pos h0, h0]
      rfl
    · rw [if_neg h0]
      by_cases h2 : s.1 = 2
      · have h1 : ¬ s.1 = 1 := by omega
        rw [if_neg h1] at h
        rw [if_pos h2, cnt_cons, if_neg (show ¬ (2 : Int) = 1 by decide), ih _ hk2 (by omega)]
        simp only [List.length_take]
        omega
      · have h1 : s.1 = 1 := by rcases hk s (by simp) with e | e; exact e; exact absurd e h2
        rw [if_pos h1] at h
        rw [if_neg h2, cnt_cons, if_pos h1, ih _ hk2 (by omega)]
        omega
theorem merge_cnt (a b : List (Int × List Nat)) : cntA (mergeL a b) = cntA a := by
  unfold mergeL
  split
  · rfl
  · rename_i h
    split
    · have hr : rightA a = true := by
        cases e : rightA a with
        | true => rfl
        | false => exact absurd (.inr (.inr (.inl e))) h
      have hn : ¬ cntA a < cntA b := fun e => h (.inl e)
      unfold rightA at hr
      simp only [Bool.and_eq_true, decide_eq_true_eq] at hr
      have hk := okA_all hr.2.1
      rw [cnt_app, begL_cnt a _ (fun s hs => (hk s hs).1) (by omega)]
      omega
    · rfl
theorem merge_small (a b : List (Int × List Nat)) : (mergeL a b).length ≤ a.length + 8 ∧ totA (mergeL a b) ≤ totA a + 64 := by
  unfold mergeL
  split
  · omega
  · split
    · rename_i h
      unfold rightA at h
      simp only [Bool.and_eq_true, decide_eq_true_eq] at h
      omega
    · omega

set_option maxHeartbeats 6400000 in
theorem walk (A A' : Option Addr) (c c' : Nat) (L N : List Sg) (w : World) (h : Segs w w.heap.size A L) (h' : Segs w w.heap.size A' N) (hc : L.length ≤ c) (hm : c ≤ maxLen) (hc' : N.length ≤ c') (hm' : c' ≤ maxLen)
    (htot : fewB L = true → totN L ≤ 1048576) (htot' : fewB N = true → totN N ≤ 1048576) (ht : Tab w) :
    Calls Tryd.prog 10 #[.slice A L.length c, .slice A' N.length c'] w fun e w' => e = .returned (.bool true) ∧ Below w.heap.size w w' := by
  have QF := Lib.hid (Few_any A c L w h)
  have QG := Lib.hid (Few_any A' c' N w h')
  cases hf : fewB L with
  | false =>
    rw [hf] at QF
    have QA := Lib.hid (awake3_any w ht)
    clear h h' ht hf htot htot' QG
    go_enter Tryd.func10, Tryd.ntmps10
    go_wp2_with fail
    refine QF.out.mono ?_
    rintro e w1 ⟨rfl, rfl⟩
    go_wp2_with fail
    refine QA.out.mono ?_
    rintro e w2 ⟨rfl, hb2⟩
    go_wp2_with fail
    go_ret
    exact ⟨rfl, hb2⟩
  | true =>
    rw [hf] at QF
    cases hg : fewB N with
    | false =>
      rw [hg] at QG
      have QA := Lib.hid (awake3_any w ht)
      clear h h' ht hf hg htot htot'
      go_enter Tryd.func10, Tryd.ntmps10
      go_wp2_with fail
      refine QF.out.mono ?_
      rintro e w1 ⟨rfl, rfl⟩
      go_wp2_with fail
      refine QG.out.mono ?_
      rintro e w1 ⟨rfl, rfl⟩
      go_wp2_with fail
      refine QA.out.mono ?_
      rintro e w2 ⟨rfl, hb2⟩
      go_wp2_with fail
      go_ret
      exact ⟨rfl, hb2⟩
    | true =>
      rw [hg] at QG
      have hl12 : L.length ≤ 12 := (of_decide_eq_true hf : L.length ≤ 12 ∧ fewN L ≤ 300).1
      have hn12 : N.length ≤ 12 := (of_decide_eq_true hg : N.length ≤ 12 ∧ fewN N ≤ 300).1
      have htl := htot hf
      have htn := htot' hg
      have HL := Lib.hid (fun W (hB : Below w.heap.size w W) => (h.below hB (Nat.le_refl _)).lift hB.size)
      have HN := Lib.hid (fun W (hB : Below w.heap.size w W) => (h'.below hB (Nat.le_refl _)).lift hB.size)
      have HT := Lib.hid (fun W (hB : Below w.heap.size w W) => ht.below hB ht.lt)
      have Q1 := Lib.hid (Merge3_any A A' c c' L N w h h' hc hm hc' hm' htl hl12 htn hn12)
      have Q2 := Lib.hid (fun W (hB : Below w.heap.size w W) => RefMerge3_any A A' c c' L N W (HL.out W hB) (HN.out W hB) hc hm hc' hm' htl hl12 htn hn12)
      have Q5 := Lib.hid (fun W (hB : Below w.heap.size w W) => RefCount_any A c L W (HL.out W hB) hc hm (by omega))
      have hms := merge_small (L.map Sg.abs) (N.map Sg.abs)
      rw [List.length_map, ← tot_abs] at hms
      have HMS := Lib.hid (show (mergeL (L.map Sg.abs) (N.map Sg.abs)).length ≤ 20 ∧ totA (mergeL (L.map Sg.abs) (N.map Sg.abs)) ≤ 2000000 by omega)
      have HMC := Lib.hid (show cntA (mergeL (L.map Sg.abs) (N.map Sg.abs)) = cntN L by rw [merge_cnt, cnt_abs])
      obtain ⟨R, hR⟩ : ∃ R, R = mergeL (L.map Sg.abs) (N.map Sg.abs) := ⟨_, rfl⟩
      rw [← hR] at Q1 Q2 HMS HMC
      obtain ⟨cn, hcn⟩ : ∃ cn, cn = cntN L := ⟨_, rfl⟩
      rw [← hcn] at Q5 HMC
      clear h h' ht hf hg htot htot' htl htn hms hR hcn hl12 hn12
      go_enter Tryd.func10, Tryd.ntmps10
      go_wp2_with fail
      refine QF.out.mono ?_
      rintro e w1 ⟨rfl, rfl⟩
      go_wp2_with fail
      refine QG.out.mono ?_
      rintro e w1 ⟨rfl, rfl⟩
      go_wp2_with fail
      refine Q1.out.mono ?_
      rintro e w1 ⟨M1, A1, c1, rfl, hM1, f1, f2, hs1, hb1⟩
      have HB1 := Lib.hid hb1; have HS1 := Lib.hid hs1; have HM1 := Lib.hid hM1
      have HF := Lib.hid (And.intro f1 f2)
      clear hb1 hs1 hM1 f1 f2
      go_wp2_with fail
      refine (Q2.out _ HB1.out).mono ?_
      rintro e w2 ⟨M2, A2, c2, rfl, hM2, f1, f2, hs2, hb2⟩
      have HB2 := Lib.hid (HB1.out.trans (hb2.mono HB1.out.size))
      have hsame : sameP M1 M2 = true := decide_eq_true (by rw [HM1.out, hM2])
      have hl1 : M1.length ≤ 20 := by
        have h1 := congrArg List.length HM1.out
        have h2 := HMS.out.1
        rw [List.length_map] at h1
        omega
      have ht1 : totN M1 ≤ 2000000 := by rw [tot_abs, HM1.out]; exact HMS.out.2
      have hs12 := (HS1.out.below hb2 (Nat.le_refl _)).lift hb2.size
      have Q3 := RefSame3_any A1 A2 c1 c2 M1 M2 w2 hs12 hs2 (by omega)
      rw [hsame] at Q3
      have Q3 := Lib.hid Q3
      have Q4 := Lib.hid (fun m => show Calls Tryd.prog 17 #[.slice A1 M1.length c1] (w2.drewN m) (fun e w' => e = .returned (.int .i64 (cn : Int)) ∧ Below (w2.drewN m).heap.size (w2.drewN m) w') from by
        have h1 := Count_any A1 c1 M1 (w2.drewN m) (show Segs (w2.drewN m) (w2.drewN m).heap.size A1 M1 from hs12) HF.out.1 HF.out.2 (by omega)
        rw [cnt_abs, HM1.out, HMC.out] at h1
        exact h1)
      clear hb2 hs2 hM2 f1 f2 hsame hl1 ht1 hs12
      go_wp2_with fail
      refine Q3.out.mono ?_
      rintro e w3 ⟨rfl, m, rfl⟩
      go_wp2_with fail
      refine (Q4.out m).mono ?_
      rintro e w4 ⟨rfl, hb4⟩
      have HB4 := Lib.hid ((below_drewN HB2.out m).trans (hb4.mono (below_drewN HB2.out m).size))
      have QA := Lib.hid (awake3_any _ (HT.out _ HB4.out))
      clear hb4
      go_wp2_with fail
      refine (Q5.out _ HB4.out).mono ?_
      rintro e w5 ⟨rfl, rfl⟩
      go_wp2_with fail
      refine QA.out.mono ?_
      rintro e w6 ⟨rfl, hb6⟩
      go_wp2_with fail
      go_ret
      exact ⟨rfl, HB4.out.trans (hb6.mono HB4.out.size)⟩
end Go.Proofs.YtiegfellgnfiiaaDoor.AspathMerges

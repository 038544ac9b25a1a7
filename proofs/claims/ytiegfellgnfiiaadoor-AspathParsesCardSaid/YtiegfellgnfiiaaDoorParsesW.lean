/-
  P3.3: which path any text is; what is read is written so: the walk.
-/
import Derived.Test.YtiegfellgnfiiaaDoorAwake3
import Derived.Test.YtiegfellgnfiiaaDoorRefSame3
import Derived.Test.YtiegfellgnfiiaaDoorRefParse3
namespace Go.Proofs.YtiegfellgnfiiaaDoor.AspathParses
open Go.RowKit
set_option linter.unusedVariables false
set_option linter.unusedSimpArgs false

theorem parse_right {l : List UInt8} {r : List (Int × List Nat)} (h : parseL l = some r) : rightA r = true := by
  unfold parseL at h
  split at h
  · cases h
    rfl
  · cases hs : segsL (splitL l 32) with
    | none => rw [hs] at h; cases h
    | some rs =>
      rw [hs] at h
      simp only at h
      split at h
      · rename_i hr
        cases h
        exact hr
      · cases h

set_option maxHeartbeats 3200000 in
theorem walk (l : List UInt8) (w : World) (hm : l.length ≤ maxLen) (ht : Tab w) :
    Calls Tryd.prog 7 #[.string ⟨l.toArray⟩] w fun e w' => e = .returned (.bool true) ∧ Below w.heap.size w w' := by
  by_cases hl : l.length ≤ 1000
  · have hlI : ¬ (1000 : Int) < (l.length : Int) := by omega
    have Q1 := Lib.hid (Parse3_any l w hl ht)
    have HT := Lib.hid (fun W (hB : Below w.heap.size w W) => ht.below hB ht.lt)
    have Q2 := Lib.hid (fun W => RefParse3_any l W hl)
    cases hr : parseL l with
    | none =>
      rw [hr] at Q1 Q2
      clear ht hr hl hm
      go_enter Tryd.func7, Tryd.ntmps7
      go_wp2_with fail
      refine Q1.out.mono ?_
      rintro e w1 ⟨rfl, hb1⟩
      have HB1 := Lib.hid hb1; clear hb1
      go_wp2_with fail
      refine (Q2.out _).mono ?_
      rintro e w2 ⟨rfl, hb2⟩
      have HB2 := Lib.hid (HB1.out.trans (hb2.mono HB1.out.size)); clear hb2
      go_wp2_with fail
      have Q3 := Lib.hid (show Calls Tryd.prog 25 #[.slice none 0 0, .slice none 0 0] w2 fun e w' => e = .returned (.bool true) ∧ ∃ m, w' = w2.drewN m from RefSame3_any none none 0 0 [] [] w2 (Segs.nil _ _ _) (Segs.nil _ _ _) (by decide))
      refine Q3.out.mono ?_
      rintro e w3 ⟨rfl, m, rfl⟩
      have HB3 := Lib.hid (below_drewN HB2.out m)
      have QA := Lib.hid (awake3_any _ (HT.out _ HB3.out))
      go_wp2_with fail
      refine QA.out.mono ?_
      rintro e w4 ⟨rfl, hb4⟩
      go_wp2_with fail
      go_ret
      exact ⟨rfl, HB3.out.trans (hb4.mono HB3.out.size)⟩
    | some r =>
      have hra := parse_right hr
      have hr8 : r.length ≤ 8 ∧ totA r ≤ 64 := by
        have h4 := hra
        unfold rightA at h4
        simp only [Bool.and_eq_true, decide_eq_true_eq] at h4
        exact ⟨h4.1, h4.2.2⟩
      have HR8 := Lib.hid hr8
      have HTP := Lib.hid (text_parse hr)
      rw [hr] at Q1 Q2
      clear ht hr hl hr8 hra hm
      go_enter Tryd.func7, Tryd.ntmps7
      go_wp2_with fail
      refine Q1.out.mono ?_
      rintro e w1 ⟨M1, A1, c1, rfl, hM1, f1, f2, hs1, hb1⟩
      have HB1 := Lib.hid hb1; have HS1 := Lib.hid hs1; have HM1 := Lib.hid hM1
      have HF := Lib.hid (And.intro f1 f2)
      clear hb1 hs1 hM1 f1 f2
      go_wp2_with fail
      refine (Q2.out _).mono ?_
      rintro e w2 ⟨M2, A2, c2, rfl, hM2, f1, f2, hs2, hb2⟩
      have HB2 := Lib.hid (HB1.out.trans (hb2.mono HB1.out.size))
      have hsame : sameP M1 M2 = true := decide_eq_true (by rw [HM1.out, hM2])
      have hl1 : M1.length ≤ 8 := by
        have h1 := congrArg List.length HM1.out
        have h2 := HR8.out
        rw [List.length_map] at h1
        omega
      have ht1 : totN M1 ≤ 64 := by
        have h2 := HR8.out.2
        rw [tot_abs, HM1.out]
        exact h2
      have hs12 := (HS1.out.below hb2 (Nat.le_refl _)).lift hb2.size
      have Q3 := RefSame3_any A1 A2 c1 c2 M1 M2 w2 hs12 hs2 (by omega)
      rw [hsame] at Q3
      have Q3 := Lib.hid Q3
      have Q4 := Lib.hid (fun m => show Calls Tryd.prog 30 #[.slice A1 M1.length c1] (w2.drewN m) (fun e w' => e = .returned (.string ⟨l.toArray⟩) ∧ Below (w2.drewN m).heap.size (w2.drewN m) w') from by
        have h1 := Text4_any A1 c1 M1 (w2.drewN m) (show Segs (w2.drewN m) (w2.drewN m).heap.size A1 M1 from hs12) HF.out.1 HF.out.2 (by omega) (HT.out _ (below_drewN HB2.out m))
        rw [HM1.out, HTP.out] at h1
        exact h1)
      clear hb2 hs2 hM2 f1 f2 hsame hl1 ht1 hs12
      go_wp2_with fail
      refine Q3.out.mono ?_
      rintro e w3 ⟨rfl, m, rfl⟩
      go_wp2_with fail
      refine (Q4.out m).mono ?_
      rintro e w4 ⟨rfl, hb4⟩
      have HB4 := Lib.hid ((below_drewN HB2.out m).trans (hb4.mono (below_drewN HB2.out m).size))
      have QA := Lib.hid (awake3_any _ (HT.out _ HB4.out))
      clear hb4
      go_wp2_with fail
      refine QA.out.mono ?_
      rintro e w5 ⟨rfl, hb5⟩
      go_wp2_with fail
      go_ret
      exact ⟨rfl, HB4.out.trans (hb5.mono HB4.out.size)⟩
  · have hlI : (1000 : Int) < (l.length : Int) := by omega
    have QA := Lib.hid (awake3_any w ht)
    clear ht hl hm
    go_enter Tryd.func7, Tryd.ntmps7
    go_wp2_with fail
    refine QA.out.mono ?_
    rintro e w2 ⟨rfl, hb2⟩
    go_wp2_with fail
    go_ret
    exact ⟨rfl, hb2⟩
end Go.Proofs.YtiegfellgnfiiaaDoor.AspathParses

/-
  P3.4: which path any bytes are: the walk.
-/
import Derived.Test.YtiegfellgnfiiaaDoorAwake3
import Derived.Test.YtiegfellgnfiiaaDoorRefSame3
import Derived.Test.YtiegfellgnfiiaaDoorRefRead3
namespace Go.Proofs.YtiegfellgnfiiaaDoor.AspathReads
open Go.RowKit
set_option linter.unusedVariables false

set_option maxHeartbeats 3200000 in
theorem walk (A : Option Addr) (c : Nat) (l : List UInt8) (wide : Bool) (w : World) (h : Bytes w A l) (hc : l.length ≤ c) (hm : c ≤ maxLen) (ht : Tab w) :
    Calls Tryd.prog 9 #[.slice A l.length c, .bool wide] w fun e w' => e = .returned (.bool true) ∧ Below w.heap.size w w' := by
  by_cases hl : l.length ≤ 1000
  · have hlI : ¬ (1000 : Int) < (l.length : Int) := by omega
    have Q1 := Lib.hid (Read3_any A c l wide w h hc hm (by omega))
    have HT := Lib.hid (fun W (hB : Below w.heap.size w W) => ht.below hB ht.lt)
    have Q2 := Lib.hid (fun W (hB : Below w.heap.size w W) => RefRead3_any A c l wide W (h.below hB) hc hm (by omega))
    cases hr : readL wide l with
    | none =>
      rw [hr] at Q1 Q2
      clear h ht hr hl
      go_enter Tryd.func9, Tryd.ntmps9
      go_wp2_with fail
      refine Q1.out.mono ?_
      rintro e w1 ⟨rfl, hb1⟩
      have HB1 := Lib.hid hb1; clear hb1
      go_wp2_with fail
      refine (Q2.out _ HB1.out).mono ?_
      rintro e w2 ⟨rfl, hb2⟩
      have HB2 := Lib.hid (HB1.out.trans (hb2.mono HB1.out.size)); clear hb2
      go_wp2_with fail
      have Q3 := Lib.hid (show Calls Tryd.prog 25 #[.slice none 0 0, .slice none 0 0] w2 fun e w' => e = .returned (.bool true) ∧ ∃ m, w' = w2.drewN m from RefSame3_any none none 0 0 [] [] w2 (Segs.nil _ _ _) (Segs.nil _ _ _) (by decide))
      refine Q3.out.mono ?_
      rintro e w3 ⟨rfl, m, rfl⟩
      have HB3 := Lib.hid (below_drewN HB2.out m)
      have QA := Lib.hid (awake3_any _ (HT.out _ HB3.out))
      go_wp2_with fail
      refine QA.out.mono ?_
      rintro e w4 ⟨rfl, hb4⟩
      go_wp2_with fail
      go_ret
      exact ⟨rfl, HB3.out.trans (hb4.mono HB3.out.size)⟩
    | some r =>
      have hr8 : r.length ≤ 8 := by
        unfold readL at hr
        split at hr
        · rename_i h2
          injection hr with h3
          have h4 := h2.2
          rw [h3] at h4
          unfold rightA at h4
          simp only [Bool.and_eq_true, decide_eq_true_eq] at h4
          exact h4.1
        · cases hr
      have HR8 := Lib.hid hr8
      rw [hr] at Q1 Q2
      clear h ht hr hl hr8
      go_enter Tryd.func9, Tryd.ntmps9
      go_wp2_with fail
      refine Q1.out.mono ?_
      rintro e w1 ⟨M1, A1, c1, rfl, hM1, f1, f2, hs1, hb1⟩
      have HB1 := Lib.hid hb1; have HS1 := Lib.hid hs1; have HM1 := Lib.hid hM1; clear hb1 hs1 hM1 f1 f2
      go_wp2_with fail
      refine (Q2.out _ HB1.out).mono ?_
      rintro e w2 ⟨M2, A2, c2, rfl, hM2, f1, f2, hs2, hb2⟩
      have HB2 := Lib.hid (HB1.out.trans (hb2.mono HB1.out.size))
      have hsame : sameP M1 M2 = true := decide_eq_true (by rw [HM1.out, hM2])
      have hl1 : M1.length ≤ 1000000000 := by
        have h1 := congrArg List.length HM1.out
        have h2 := HR8.out
        rw [List.length_map] at h1
        omega
      have Q3 := RefSame3_any A1 A2 c1 c2 M1 M2 w2 ((HS1.out.below hb2 (Nat.le_refl _)).lift hb2.size) hs2 hl1
      rw [hsame] at Q3
      have Q3 := Lib.hid Q3
      clear hb2 hs2 hM2 f1 f2 hsame hl1
      go_wp2_with fail
      refine Q3.out.mono ?_
      rintro e w3 ⟨rfl, m, rfl⟩
      have HB3 := Lib.hid (below_drewN HB2.out m)
      have QA := Lib.hid (awake3_any _ (HT.out _ HB3.out))
      go_wp2_with fail
      refine QA.out.mono ?_
      rintro e w4 ⟨rfl, hb4⟩
      go_wp2_with fail
      go_ret
      exact ⟨rfl, HB3.out.trans (hb4.mono HB3.out.size)⟩
  · have hlI : (1000 : Int) < (l.length : Int) := by omega
    have QA := Lib.hid (awake3_any w ht)
    clear h ht hl
    go_enter Tryd.func9, Tryd.ntmps9
    go_wp2_with fail
    refine QA.out.mono ?_
    rintro e w2 ⟨rfl, hb2⟩
    go_wp2_with fail
    go_ret
    exact ⟨rfl, hb2⟩
end Go.Proofs.YtiegfellgnfiiaaDoor.AspathReads

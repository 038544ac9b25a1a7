/-
  P3.4, P3.6: any path's bytes, in wide and narrow numbers; a right one, put wide, is read as it was: the walk, of a path that is small.
-/
import Derived.Test.YtiegfellgnfiiaaDoorAwake3
import Derived.Test.YtiegfellgnfiiaaDoorRefSame3
import Derived.Test.YtiegfellgnfiiaaDoorRefPut3
import Derived.Test.YtiegfellgnfiiaaDoorRight3
import Derived.Test.YtiegfellgnfiiaaDoorRead3
import Derived.Test.YtiegfellgnfiiaaDoorSame
namespace Go.Proofs.YtiegfellgnfiiaaDoor.AspathPuts
open Go.RowKit
set_option linter.unusedVariables false

theorem segs_fit {w : World} {B : Nat} {A : Option Addr} {L : List Sg} (h : Segs w B A L) : ∀ s ∈ L, ∀ x ∈ s.nums, x < 4294967296 := fun s hs => by
  obtain ⟨j, hj, e⟩ := List.mem_iff_getElem.1 hs
  obtain ⟨_, _, _, _, _, _, hok⟩ := h.at (j := j) (s := s) (by rw [List.getElem?_eq_getElem hj, e])
  exact hok.2.2.2.1

set_option maxHeartbeats 6400000 in
theorem walk (A : Option Addr) (c : Nat) (L : List Sg) (wide : Bool) (w : World) (h : Segs w w.heap.size A L) (hc : L.length ≤ c) (hm : c ≤ maxLen) (htot : fewB L = true → totN L ≤ 1048576) (ht : Tab w) :
    Calls Tryd.prog 8 #[.slice A L.length c, .bool wide] w fun e w' => e = .returned (.bool true) ∧ Below w.heap.size w w' := by
  have QF := Lib.hid (Few_any A c L w h)
  cases hf : fewB L with
  | false =>
    rw [hf] at QF
    have QA := Lib.hid (awake3_any w ht)
    clear h ht hf htot
    go_enter Tryd.func8, Tryd.ntmps8
    go_wp2_with fail
    refine QF.out.mono ?_
    rintro e w1 ⟨rfl, rfl⟩
    go_wp2_with fail
    refine QA.out.mono ?_
    rintro e w2 ⟨rfl, hb2⟩
    go_wp2_with fail
    go_ret
    exact ⟨rfl, hb2⟩
  | true =>
    rw [hf] at QF
    have hl12 : L.length ≤ 12 := (of_decide_eq_true hf : L.length ≤ 12 ∧ fewN L ≤ 300).1
    have htt := htot hf
    have HL := Lib.hid (fun W (hB : Below w.heap.size w W) => (h.below hB (Nat.le_refl _)).lift hB.size)
    have HT := Lib.hid (fun W (hB : Below w.heap.size w W) => ht.below hB ht.lt)
    have Q1 := Lib.hid (Put3_any A c L wide w h (by omega) (by omega))
    have K2 := Lib.hid (fun W (hB : Below w.heap.size w W) => RefPut3_any A c L wide W (HL.out W hB) hl12 (by omega))
    have K3 := Lib.hid (fun W (hB : Below w.heap.size w W) => RefRight_any A c L W (HL.out W hB) hc hm (by omega))
    have K4 := Lib.hid (fun W (hB : Below w.heap.size w W) => RefCount_any A c L W (HL.out W hB) hc hm (by omega))
    have hpl := putB_len wide L
    have HPL := Lib.hid (show (putB wide L).length ≤ 10000000 by omega)
    have HRP := Lib.hid (fun (hr : rightB L = true) => readL_put wide hr (segs_fit h))
    have HL12 := Lib.hid hl12
    obtain ⟨b, hb⟩ : ∃ b, b = putB wide L := ⟨_, rfl⟩
    rw [← hb] at Q1 K2 HPL HRP
    clear h ht hf htot htt hpl hb hl12
    go_enter Tryd.func8, Tryd.ntmps8
    go_wp2_with fail
    refine QF.out.mono ?_
    rintro e w1 ⟨rfl, rfl⟩
    go_wp2_with fail
    refine Q1.out.mono ?_
    rintro e w1 ⟨A1, c1, rfl, f1, f2, ho1, hb1⟩
    have HO1 := Lib.hid ho1; have HB1 := Lib.hid hb1; clear ho1 hb1
    go_wp2_with fail
    refine (K2.out _ HB1.out).mono ?_
    rintro e w2 ⟨A2, c2, rfl, g1, g2, ho2, hb2⟩
    have Q3 := Same_any A1 A2 b.length b.length c1 c2 b b rfl rfl w2 ((HO1.out.below hb2).bytes) ho2.bytes
    rw [show (b == b) = true by simp] at Q3
    have Q3 := Lib.hid Q3
    have HB2 := Lib.hid (HB1.out.trans (hb2.mono HB1.out.size))
    have Q4 := Lib.hid (Read3_any A1 c1 b wide w2 ((HO1.out.below hb2).bytes) f1 f2 HPL.out)
    clear ho2 hb2 g1 g2 f1 f2
    go_wp2_with fail
    refine Q3.out.mono ?_
    rintro e w3 ⟨rfl, rfl⟩
    go_wp2_with fail
    cases hr : rightB L with
    | false =>
      rw [hr] at K3
      obtain ⟨R, hR⟩ : ∃ R, R = readL wide b := ⟨_, rfl⟩
      rw [← hR] at Q4
      clear hR hr HRP
      cases R with
      | none =>
        refine Q4.out.mono ?_
        rintro e w4 ⟨rfl, hb4⟩
        have HB4 := Lib.hid (HB2.out.trans (hb4.mono HB2.out.size)); clear hb4
        have QA := Lib.hid (awake3_any w4 (HT.out _ HB4.out))
        go_wp2_with fail
        refine (K3.out _ HB4.out).mono ?_
        rintro e w5 ⟨rfl, rfl⟩
        go_wp2_with fail
        refine QA.out.mono ?_
        rintro e w5 ⟨rfl, hb5⟩
        go_wp2_with fail
        go_ret
        exact ⟨rfl, HB4.out.trans (hb5.mono HB4.out.size)⟩
      | some r =>
        refine Q4.out.mono ?_
        rintro e w4 ⟨M, A4, c4, rfl, _, _, _, _, hb4⟩
        have HB4 := Lib.hid (HB2.out.trans (hb4.mono HB2.out.size)); clear hb4
        have QA := Lib.hid (awake3_any w4 (HT.out _ HB4.out))
        go_wp2_with fail
        refine (K3.out _ HB4.out).mono ?_
        rintro e w5 ⟨rfl, rfl⟩
        go_wp2_with fail
        refine QA.out.mono ?_
        rintro e w5 ⟨rfl, hb5⟩
        go_wp2_with fail
        go_ret
        exact ⟨rfl, HB4.out.trans (hb5.mono HB4.out.size)⟩
    | true =>
      rw [hr] at K3
      rw [HRP.out hr] at Q4
      have hr3 := right_each hr
      have HR3 := Lib.hid hr3.2.1
      clear hr HRP hr3
      refine Q4.out.mono ?_
      rintro e w4 ⟨M, A4, c4, rfl, hM, f1, f2, hs4, hb4⟩
      have hlen : M.length = L.length := by have := congrArg List.length hM; simpa using this
      have hcnt : cntN M = cntN L := by rw [cnt_abs, hM, cnt_nar]
      have htM : totN M = totN L := by
        rw [tot_abs, hM]
        unfold totA totN
        rw [List.map_map]
        congr 1
        apply List.map_congr_left
        intro s _
        simp [narS]
      have HB4 := Lib.hid (HB2.out.trans (hb4.mono HB2.out.size)); clear hb4
      have Q5 := Count_any A4 c4 M w4 hs4 f1 f2 (by have := HR3.out; have := HL12.out; omega)
      rw [hcnt] at Q5
      have Q5 := Lib.hid Q5
      have HLE := Lib.hid hlen
      rw [hlen]
      have HS4 := Lib.hid hs4
      have HM := Lib.hid hM
      obtain ⟨cn, hcn⟩ : ∃ cn, cn = cntN L := ⟨_, rfl⟩
      rw [← hcn] at Q5 K4
      clear hlen hcnt htM hs4 hM hcn f1 f2
      cases wide with
      | false =>
        go_wp2_with fail
        refine (K3.out _ HB4.out).mono ?_
        rintro e w5 ⟨rfl, rfl⟩
        go_wp2_with fail
        rw [← HLE.out]
        refine Q5.out.mono ?_
        rintro e w5 ⟨rfl, hb5⟩
        have HB5 := Lib.hid (HB4.out.trans (hb5.mono HB4.out.size)); clear hb5
        have QA := Lib.hid (awake3_any w5 (HT.out _ HB5.out))
        rw [HLE.out]
        go_wp2_with fail
        refine (K4.out _ HB5.out).mono ?_
        rintro e w6 ⟨rfl, rfl⟩
        go_wp2_with fail
        refine QA.out.mono ?_
        rintro e w6 ⟨rfl, hb6⟩
        go_wp2_with fail
        go_ret
        exact ⟨rfl, HB5.out.trans (hb6.mono HB5.out.size)⟩
      | true =>
        have hsm : sameP M L = true := decide_eq_true (by rw [HM.out, narS_wide])
        have HSM := Lib.hid hsm
        clear hsm
        go_wp2_with fail
        refine (K3.out _ HB4.out).mono ?_
        rintro e w5 ⟨rfl, rfl⟩
        go_wp2_with fail
        rw [← HLE.out]
        refine Q5.out.mono ?_
        rintro e w5 ⟨rfl, hb5⟩
        have HB5 := Lib.hid (HB4.out.trans (hb5.mono HB4.out.size))
        have Q6 := RefSame3_any A4 A c4 c M L w5 ((HS4.out.below hb5 (Nat.le_refl _)).lift hb5.size) (HL.out _ HB5.out) (by have := HLE.out; have := HL12.out; omega)
        rw [HSM.out, HLE.out] at Q6
        have Q6 := Lib.hid Q6
        clear hb5
        rw [HLE.out]
        go_wp2_with fail
        refine (K4.out _ HB5.out).mono ?_
        rintro e w6 ⟨rfl, rfl⟩
        go_wp2_with fail
        refine Q6.out.mono ?_
        rintro e w6 ⟨rfl, m, rfl⟩
        have HB6 := Lib.hid (below_drewN HB5.out m)
        have QA := Lib.hid (awake3_any _ (HT.out _ HB6.out))
        go_wp2_with fail
        refine QA.out.mono ?_
        rintro e w7 ⟨rfl, hb7⟩
        go_wp2_with fail
        go_ret
        exact ⟨rfl, HB6.out.trans (hb7.mono HB6.out.size)⟩
end Go.Proofs.YtiegfellgnfiiaaDoor.AspathPuts

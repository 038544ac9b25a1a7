/-
  P3.1: whether any two paths are the same: the walk.
-/
import Derived.Test.YtgnedkgniiondaaDoorAwake3
import Derived.Test.YtgnedkgniiondaaDoorRefSame3
namespace Go.Proofs.YtgnedkgniiondaaDoor.AspathSame
open Go.RowKit
set_option linter.unusedVariables false

theorem few_len {L : List Sg} (h : fewB L = true) : L.length ≤ 1000000000 := by
  have h1 : L.length ≤ 12 ∧ fewN L ≤ 300 := of_decide_eq_true h
  omega

/-! THE WALK. -/
set_option maxHeartbeats 1600000 in
theorem walk (A A' : Option Addr) (c c' : Nat) (a b : List Sg) (w : World) (ha : Segs w w.heap.size A a) (hb : Segs w w.heap.size A' b) (ht : Tab w) :
    Calls Tryd.prog 4 #[.slice A a.length c, .slice A' b.length c'] w fun e w' => e = .returned (.bool true) ∧ Below w.heap.size w w' := by
  have QA := Lib.hid (awake3_any w ht)
  have QF := Lib.hid (Few_any A c a w ha)
  have QG := Lib.hid (Few_any A' c' b w hb)
  cases hfa : fewB a with
  | false =>
    rw [hfa] at QF
    clear ha hb ht hfa QG
    go_enter Tryd.func4, Tryd.ntmps4
    go_wp2_with fail
    refine QF.out.mono ?_
    rintro e w1 ⟨rfl, rfl⟩
    go_wp2_with fail
    refine QA.out.mono ?_
    rintro e w2 ⟨rfl, hb2⟩
    go_wp2_with fail
    go_ret
    exact ⟨rfl, hb2⟩
  | true =>
    rw [hfa] at QF
    cases hfb : fewB b with
    | false =>
      rw [hfb] at QG
      clear ha hb ht hfa hfb
      go_enter Tryd.func4, Tryd.ntmps4
      go_wp2_with fail
      refine QF.out.mono ?_
      rintro e w1 ⟨rfl, rfl⟩
      go_wp2_with fail
      refine QG.out.mono ?_
      rintro e w1 ⟨rfl, rfl⟩
      go_wp2_with fail
      refine QA.out.mono ?_
      rintro e w2 ⟨rfl, hb2⟩
      go_wp2_with fail
      go_ret
      exact ⟨rfl, hb2⟩
    | true =>
      rw [hfb] at QG
      have la := few_len hfa
      have lb := few_len hfb
      have HA := Lib.hid (fun W (hB : Below w.heap.size w W) => (ha.below hB (Nat.le_refl _)).lift hB.size)
      have HB := Lib.hid (fun W (hB : Below w.heap.size w W) => (hb.below hB (Nat.le_refl _)).lift hB.size)
      have HT := Lib.hid (fun W (hB : Below w.heap.size w W) => ht.below hB ht.lt)
      have Q1 := Lib.hid (Same3_any A A' c c' a b w ha hb la)
      clear ha hb ht hfa hfb QA
      go_enter Tryd.func4, Tryd.ntmps4
      go_wp2_with fail
      refine QF.out.mono ?_
      rintro e w1 ⟨rfl, rfl⟩
      go_wp2_with fail
      refine QG.out.mono ?_
      rintro e w1 ⟨rfl, rfl⟩
      go_wp2_with fail
      refine Q1.out.mono ?_
      rintro e w2 ⟨rfl, hb2⟩
      have Q2 := Lib.hid (RefSame3_any A A' c c' a b w2 (HA.out _ hb2) (HB.out _ hb2) la)
      have HB2 := Lib.hid hb2; clear hb2
      go_wp2_with fail
      refine Q2.out.mono ?_
      rintro e w3 ⟨rfl, m, rfl⟩
      have HB3 := Lib.hid (below_drewN HB2.out m)
      have Q3 := Lib.hid (Same3_any A' A c' c b a (w2.drewN m) (HB.out _ HB3.out) (HA.out _ HB3.out) lb)
      rw [sameP_comm b a] at Q3
      go_wp2_with fail
      refine Q3.out.mono ?_
      rintro e w4 ⟨rfl, hb4⟩
      have HB4 := Lib.hid (HB3.out.trans (hb4.mono HB3.out.size)); clear hb4
      have Q4 := Lib.hid (RefSame3_any A A' c c' a b w4 (HA.out _ HB4.out) (HB.out _ HB4.out) la)
      go_wp2_with fail
      refine Q4.out.mono ?_
      rintro e w5 ⟨rfl, m2, rfl⟩
      have HB5 := Lib.hid (below_drewN HB4.out m2)
      have Q5 := Lib.hid (awake3_any (w4.drewN m2) (HT.out _ HB5.out))
      go_wp2_with fail
      refine Q5.out.mono ?_
      rintro e w6 ⟨rfl, hb6⟩
      go_wp2_with fail
      go_ret
      exact ⟨rfl, HB5.out.trans (hb6.mono HB5.out.size)⟩
end Go.Proofs.YtgnedkgniiondaaDoor.AspathSame

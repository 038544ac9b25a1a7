/-
  P3.1: whether any path may be, how long it counts, its numbers, its first one: the walk.
-/
import Derived.Test.YtgnedkgniiondaaDoorAwake3
import Derived.Test.YtgnedkgniiondaaDoorRefSame3
import Derived.Test.YtgnedkgniiondaaDoorRefFlat3
import Derived.Test.YtgnedkgniiondaaDoorFirst3
import Derived.Test.YtgnedkgniiondaaDoorRight3
namespace Go.Proofs.YtgnedkgniiondaaDoor.AspathParts
open Go.RowKit
set_option linter.unusedVariables false

theorem same_self (y : List Nat) : sameZ y y = true := decide_eq_true rfl
theorem sameP_self (L : List Sg) : sameP L L = true := decide_eq_true rfl
set_option maxHeartbeats 3200000 in
theorem walk (A : Option Addr) (c : Nat) (L : List Sg) (v : Nat) (w : World) (h : Segs w w.heap.size A L) (hc : L.length ≤ c) (hm : c ≤ maxLen) (htot : fewB L = true → totN L ≤ 35184372088832) (ht : Tab w) :
    Calls Tryd.prog 3 #[.slice A L.length c, .int .u32 (v : Int)] w fun e w' => e = .returned (.bool true) ∧ Below w.heap.size w w' := by
  have QF := Lib.hid (Few_any A c L w h)
  cases hf : fewB L with
  | false =>
    rw [hf] at QF
    have QA := Lib.hid (awake3_any w ht)
    clear h ht hf htot
    go_enter Tryd.func3, Tryd.ntmps3
    go_wp2_with fail
    refine QF.out.mono ?_
    rintro e w1 ⟨rfl, rfl⟩
    go_wp2_with fail
    refine QA.out.mono ?_
    rintro e w2 ⟨rfl, hb2⟩
    go_wp2_with fail
    go_ret
    exact ⟨rfl, hb2⟩
  | true =>
    rw [hf] at QF
    have hl12 : L.length ≤ 12 := (of_decide_eq_true hf : L.length ≤ 12 ∧ fewN L ≤ 300).1
    have htt := htot hf
    have HL := Lib.hid (fun W (hB : Below w.heap.size w W) => (h.below hB (Nat.le_refl _)).lift hB.size)
    have HT := Lib.hid (fun W (hB : Below w.heap.size w W) => ht.below hB ht.lt)
    have Q1 := Lib.hid (First_any A c L w h)
    have Q2 := Lib.hid (RefFirst_any A c L w h)
    obtain ⟨p, hp⟩ : ∃ p, p = firstL L := ⟨_, rfl⟩
    rw [← hp] at Q1 Q2
    obtain ⟨p1, p2⟩ := p
    simp only [retFirst] at Q1 Q2
    have Q3 := Lib.hid (Right_any A c L w h hc hm (by omega))
    obtain ⟨rb, hrb⟩ : ∃ b, b = rightB L := ⟨_, rfl⟩
    rw [← hrb] at Q3
    obtain ⟨cn, hcn⟩ : ∃ n, n = cntN L := ⟨_, rfl⟩
    obtain ⟨hb, hhb⟩ : ∃ b, b = hasB L v := ⟨_, rfl⟩
    have K4 := Lib.hid (fun W (hB : Below w.heap.size w W) => hrb ▸ RefRight_any A c L W (HL.out W hB) hc hm (by omega))
    have K5 := Lib.hid (fun W (hB : Below w.heap.size w W) => hcn ▸ Count_any A c L W (HL.out W hB) hc hm (by omega))
    have K6 := Lib.hid (fun W (hB : Below w.heap.size w W) => hcn ▸ RefCount_any A c L W (HL.out W hB) hc hm (by omega))
    have K7 := Lib.hid (fun W (hB : Below w.heap.size w W) => Flat_any A c L W (HL.out W hB) (by omega) htt)
    have K8 := Lib.hid (fun W (hB : Below w.heap.size w W) => RefFlat_any A c L W (HL.out W hB) (by omega) htt)
    have K9 := Lib.hid (fun W (hB : Below w.heap.size w W) => hhb ▸ Has_any A c L v W (HL.out W hB) (by omega) (by omega))
    have K10 := Lib.hid (fun W (hB : Below w.heap.size w W) => hhb ▸ RefHas_any A c L v W (HL.out W hB) (by omega) htt)
    have K11 := Lib.hid (fun W (hB : Below w.heap.size w W) => sameP_self L ▸ Same3_any A A c c L L W (HL.out W hB) (HL.out W hB) (by omega))
    have hfl := flatN_len L
    obtain ⟨z, hz⟩ : ∃ z, z = flatN L := ⟨_, rfl⟩
    rw [← hz] at K7 K8 hfl
    have HZ := Lib.hid (show z.length ≤ 9223372036854775807 by omega)
    clear h ht hf htot hp hrb hcn hhb hfl hz
    go_enter Tryd.func3, Tryd.ntmps3
    go_wp2_with fail
    refine QF.out.mono ?_
    rintro e w1 ⟨rfl, rfl⟩
    go_wp2_with fail
    refine Q1.out.mono ?_
    rintro e w1 ⟨rfl, rfl⟩
    go_wp2_with fail
    refine Q2.out.mono ?_
    rintro e w1 ⟨rfl, rfl⟩
    go_wp2_with fail
    refine Q3.out.mono ?_
    rintro e w1 ⟨rfl, hb1⟩
    have HB1 := Lib.hid hb1; clear hb1
    go_wp2_with fail
    refine (K4.out _ HB1.out).mono ?_
    rintro e w2 ⟨rfl, rfl⟩
    go_wp2_with fail
    refine (K5.out _ HB1.out).mono ?_
    rintro e w2 ⟨rfl, hb2⟩
    have HB2 := Lib.hid (HB1.out.trans (hb2.mono HB1.out.size)); clear hb2
    go_wp2_with fail
    refine (K6.out _ HB2.out).mono ?_
    rintro e w3 ⟨rfl, rfl⟩
    go_wp2_with fail
    refine (K7.out _ HB2.out).mono ?_
    rintro e w3 ⟨A3, c3, rfl, f1, f2, ho3, hb3⟩
    have HO3 := Lib.hid ho3
    have HB3 := Lib.hid (HB2.out.trans (hb3.mono HB2.out.size)); clear hb3 ho3
    go_wp2_with fail
    refine (K8.out _ HB3.out).mono ?_
    rintro e w4 ⟨A4, c4, rfl, f3, f4, ho4, hb4⟩
    have Q9 := Lib.hid (same_self z ▸ Nums_any A3 A4 c3 c4 z z w4 ((HO3.out.below hb4).at) ho4.at HZ.out)
    have HB4 := Lib.hid (HB3.out.trans (hb4.mono HB3.out.size)); clear hb4 ho4 f1 f2 f3 f4
    go_wp2_with fail
    refine Q9.out.mono ?_
    rintro e w5 ⟨rfl, m, rfl⟩
    have HB5 := Lib.hid (below_drewN HB4.out m)
    go_wp2_with fail
    refine (K9.out _ HB5.out).mono ?_
    rintro e w6 ⟨rfl, hb6⟩
    have HB6 := Lib.hid (HB5.out.trans (hb6.mono HB5.out.size)); clear hb6
    go_wp2_with fail
    refine (K10.out _ HB6.out).mono ?_
    rintro e w7 ⟨rfl, hb7⟩
    have HB7 := Lib.hid (HB6.out.trans (hb7.mono HB6.out.size)); clear hb7
    go_wp2_with fail
    refine (K11.out _ HB7.out).mono ?_
    rintro e w8 ⟨rfl, hb8⟩
    have HB8 := Lib.hid (HB7.out.trans (hb8.mono HB7.out.size)); clear hb8
    have Q12 := Lib.hid (awake3_any w8 (HT.out _ HB8.out))
    go_wp2_with fail
    refine Q12.out.mono ?_
    rintro e w9 ⟨rfl, hb9⟩
    go_wp2_with fail
    go_ret
    exact ⟨rfl, HB8.out.trans (hb9.mono HB8.out.size)⟩
end Go.Proofs.YtgnedkgniiondaaDoor.AspathParts

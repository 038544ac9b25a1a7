/-
  Texts of this seat, put together: Puts5W.
-/
import Derived.Test.YtnaangnmlbgmkaaGreatDoorMg22
import Derived.Test.YtnaangnmlbgmkaaGreatDoorMg8
import Derived.Test.YtnaangnmlbgmkaaGreatDoorAwake5Mg
import Derived.Test.YtnaangnmlbgmkaaGreatDoorMg1
/-
  P5.1: any update's body, or why there is none: the walk.
-/
namespace Go.Proofs.YtnaangnmlbgmkaaGreatDoor
set_option linter.unusedVariables false
set_option linter.unusedSimpArgs false
open Go.RowKit

theorem putF_e {u : Uv} {d : List UInt8} {E : Int} (hE : E = 0 ∨ E = 1) : (putF u d E).2 = 0 ∨ (putF u d E).2 = 1 ∨ (putF u d E).2 = 4 := by
  have hs : (sayF u d E).2 = 0 ∨ (sayF u d E).2 = 1 := by
    unfold sayF
    split
    · split
      · exact .inl rfl
      · exact hE
    · exact .inr rfl
  unfold putF
  split
  · rcases hs with h | h
    · exact .inl h
    · exact .inr (.inl h)
  · split
    · exact .inl rfl
    · exact .inr (.inr rfl)
set_option maxRecDepth 100000 in
set_option maxHeartbeats 25600000 in
theorem UpdatePuts.walk (u : Uv) (wide : Bool) (W : World) (ht : TabK W) (hu : u.In W W.heap.size) (ha : AvArg W u.attrs) (hwt : Wt reachBytes u.attrs.path) :
    Calls Tryz.prog 3 #[.agg u.row.toArray, .bool wide] W fun e w' => e = .returned (.bool true) ∧ Below W.heap.size W w' := by
  have hb1 := (Below.refl W.heap.size W).alloc (Nat.le_refl _) (.cells u.row.toArray 30)
  have kA := Blk.new W 30 u.row
  obtain ⟨W0, hW0⟩ : ∃ W0, W0 = W.alloc (.cells u.row.toArray 30) := ⟨_, rfl⟩
  rw [← hW0] at hb1 kA
  have HW0 := Lib.hid hW0; have HB1 := Lib.hid hb1
  have HQ := fun (w : World) (h : Below W0.heap.size W0 w) => hb1.trans (h.mono hb1.size)
  have HUV := Lib.hid (fun (w : World) (h : Below W0.heap.size W0 w) => uv_blk (kA.below h kA.lt))
  have HIN := Lib.hid (fun (w : World) (h : Below W0.heap.size W0 w) => (hu.below (HQ w h) (Nat.le_refl _)).lift (HQ w h).size)
  have HTK := Lib.hid (fun (w : World) (h : Below W0.heap.size W0 w) => ht.below (HQ w h) ht.lt)
  have QW := Lib.hid (fun (w : World) (h : Below W0.heap.size W0 w) => awake5_any w (HTK.out w h))
  have QFA := Lib.hid (fun (w : World) (h : Below W0.heap.size W0 w) => Few5_any u 1000 w (HIN.out w h) (by decide))
  have HPT := Lib.hid (fun (h1 : u.attrs.path.length ≤ 10000) (h2 : totN u.attrs.path ≤ 1152921504606846976) (h3 : u.attrs.raws.length ≤ 1000) => puts5 u.attrs wide W ht ha h1 h2 h3)
  have HBW := Lib.hid HQ
  clear hb1 kA hW0 ha ht hu HQ
  go_enter Tryz.func3, Tryz.ntmps3
  go_wp2_with (first
    | (refine wpList_boxU _ rfl (.tmp 0) rfl u rfl ?_)
    | (rw [← HW0.out]; refine wpList_loadU _ rfl (.tmp 2) rfl W.heap.size u rfl (HUV.out _ (Below.refl _ _)) ?_))
  refine (QFA.out _ (Below.refl _ _)).mono ?_
  rintro e w1 ⟨qa, rfl, hb1, hfa⟩
  have HA := Lib.hid hb1
  clear hb1
  cases qa with
  | false =>
    clear hfa
    go_wp2_with fail
    refine (QW.out _ HA.out).mono ?_
    rintro e w2 ⟨rfl, hb2⟩
    have HB2 := Lib.hid (below_two6 HB1.out ((below_two6 HA.out hb2)))
    clear hb2
    go_wp2_with fail
    go_ret
    exact ⟨rfl, HB2.out⟩
  | true =>
    obtain ⟨⟨_, _, b, hbe, hf, _⟩, hg, hn⟩ := hfa rfl
    obtain rfl : b = true := by simpa using hbe.symm
    obtain ⟨hf1, hf2, hf3, hf4⟩ := hf rfl
    have h2 : u.attrs.path.length ≤ 12 ∧ fewN u.attrs.path ≤ 300 := of_decide_eq_true hf1
    have htt := few_tot_le hf1 (fun s hs => Nat.le_trans (hwt s hs) (by unfold reachBytes; decide))
    obtain ⟨d, E, hE, hdl, hd⟩ := HPT.out (by omega) (by omega) (by omega)
    have hlen : u.gone.length ≤ 100000 ∧ u.news.length ≤ 100000 := by omega
    have HE := Lib.hid (putF_e (u := u) (d := d) hE)
    have Q1 := Lib.hid (fun (w : World) (h : Below W0.heap.size W0 w) => UPut_any u wide w (HIN.out w h) hlen d E hdl (fun W' q' => (hd W' ((HBW.out w h).trans (q'.mono (HBW.out w h).size))).1))
    have Q2 := Lib.hid (fun (w : World) (h : Below W0.heap.size W0 w) => RefUPut_any u wide w (HIN.out w h) hlen d E hE hdl (fun W' q' => (hd W' ((HBW.out w h).trans (q'.mono (HBW.out w h).size))).2))
    clear hd hf1 hf2 hf3 hf4 h2 htt hfa hwt hbe hf HPT hg hn hlen hE hdl
    obtain ⟨r, hr⟩ : ∃ r, r = putF u d E := ⟨_, rfl⟩
    rw [← hr] at Q1 Q2 HE
    clear hr
    obtain ⟨rd, re⟩ := r
    dsimp only at Q1 Q2 HE
    go_wp2_with (refine wpList_loadU _ rfl (.tmp 2) rfl W.heap.size u rfl (HUV.out _ HA.out) ?_)
    refine (Q1.out _ HA.out).mono ?_
    rintro e w2 ⟨A1, c1, rfl, f1, f2, ho1, hb2⟩
    have HB := Lib.hid (below_two6 HA.out hb2)
    have HO1 := Lib.hid ho1.bytes
    clear f1 f2 ho1 hb2
    go_wp2_with (refine wpList_loadU _ rfl (.tmp 2) rfl W.heap.size u rfl (HUV.out _ HB.out) ?_)
    refine (Q2.out _ HB.out).mono ?_
    rintro e w3 ⟨A2, c2, rfl, f1, f2, ho2, hb3⟩
    have HC := Lib.hid (below_two6 HB.out hb3)
    have HO1b := Lib.hid (HO1.out.below hb3)
    have HO2 := Lib.hid ho2.bytes
    have hdd : (rd == rd) = true := by simp
    clear f1 f2 ho2 hb3
    go_wp2_with fail
    refine (Same_any A1 A2 rd.length rd.length c1 c2 rd rd rfl rfl w3 HO1b.out HO2.out).mono ?_
    rintro e w4 ⟨rfl, rfl⟩
    rw [hdd]
    go_wp2_with fail
    refine (QW.out _ HC.out).mono ?_
    rintro e w5 ⟨rfl, hb5⟩
    have HD := Lib.hid (below_two6 HB1.out ((below_two6 HC.out hb5)))
    clear hb5
    go_wp2_with fail
    go_ret
    exact ⟨rfl, HD.out⟩
end Go.Proofs.YtnaangnmlbgmkaaGreatDoor

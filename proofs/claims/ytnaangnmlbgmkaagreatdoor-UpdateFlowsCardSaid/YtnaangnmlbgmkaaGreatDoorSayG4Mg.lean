/-
  Texts of this seat, put together: SayG4.
-/
import Derived.Test.YtnaangnmlbgmkaaGreatDoorMg19
/-
  What an aggregator's attribute says is taken in, in wide numbers.
-/
namespace Go.Proofs.YtnaangnmlbgmkaaGreatDoor
set_option linter.unusedVariables false
set_option linter.unusedSimpArgs false
open Go.RowKit

/-- Where say stands once it has written what was read so far. -/
structure SayG (w : World) (gx : Nat) (cs : List Value) (W : World) : Prop where
  blk : Blk W gx 99 cs
  lt : gx < w.heap.size
  res : Blk W (w.heap.size + 1) 43 [.int .i64 0, .int .i64 0, .slice none 0 0]
  grown : w.grownBy W (some gx)
theorem SaySt.g {w W : World} {gx : Nat} {cs : List Value} {l : List UInt8} (S : SaySt w gx cs l W) : SayG w gx cs W := ⟨S.blk, S.lt, S.res, grown_below S.below (grown_refl _ _)⟩
theorem SayG.set {w W : World} {gx : Nat} {cs : List Value} (S : SayG w gx cs W) (i : Nat) (v : Value) : SayG w gx (cs.set i v) (W.setCell ⟨gx, i, none⟩ v) :=
  ⟨S.blk.set i v, S.lt, S.res.grown (grown_setCell (grown_refl _ (some gx)) i v) (by have := S.lt; omega), grown_setCell S.grown i v⟩
theorem SayG.later {w W W' : World} {gx : Nat} {cs : List Value} (S : SayG w gx cs W) (hb : Below W.heap.size W W') : SayG w gx cs W' :=
  ⟨S.blk.below hb S.blk.lt, S.lt, S.res.below hb S.res.lt, below_grown S.grown hb⟩
theorem SayG.fin {w W : World} {gx : Nat} {cs : List Value} (S : SayG w gx cs W) :
    Blk (((W.setCell ⟨w.heap.size + 1, 0, none⟩ (.int .i64 0)).setCell ⟨w.heap.size + 1, 1, none⟩ (.int .i64 0)).setCell ⟨w.heap.size + 1, 2, none⟩ (.slice none 0 0)) gx 99 cs ∧ w.grownBy (((W.setCell ⟨w.heap.size + 1, 0, none⟩ (.int .i64 0)).setCell ⟨w.heap.size + 1, 1, none⟩ (.int .i64 0)).setCell ⟨w.heap.size + 1, 2, none⟩ (.slice none 0 0)) (some gx) :=
  ⟨S.blk.grown (grown_set3 _ (w.heap.size + 1) (.int .i64 0) (.int .i64 0) (.slice none 0 0)) (by have := S.lt; omega),
   grown_new S.grown (grown_set3 _ (w.heap.size + 1) (.int .i64 0) (.int .i64 0) (.slice none 0 0)) (by omega)⟩
theorem rdTake_four (l : List UInt8) (hl : 4 ≤ l.length) : rdTake l false 4 = (l.take 4, l.drop 4, false) := by
  unfold rdTake
  rw [if_pos ⟨by omega, by omega⟩]
  rfl
set_option maxHeartbeats 3200000 in
theorem aggr8_any (A : Option Addr) (c : Nat) (l : List UInt8) (w : World) (h : Bytes w A l) (hc : l.length ≤ c) (hm : c ≤ maxLen) (hl : l.length = 8) :
    Calls Tryz.prog 106 #[.slice A l.length c, .bool true] w fun e w' => e = .returned (.tuple #[.int .u32 (num (l.take 4) : Int), .int .u32 (num (l.drop 4) : Int)]) ∧ Below w.heap.size w w' := by
  have QN := Lib.hid (New_any A l.length c l rfl w h hc hm)
  have HL := Lib.hid hl
  clear h hc hm hl
  go_enter Tryz.func106, Tryz.ntmps106
  go_wp2_with fail
  refine QN.out.mono ?_
  rintro e w1 ⟨rfl, hr1, hb1⟩
  have Q1 := Lib.hid (U32_any w.heap.size w.heap.size l false w1 hr1)
  rw [rdTake_four l (by have := HL.out; omega)] at Q1
  have HB1 := Lib.hid hb1
  clear hr1 hb1
  go_wp2_with fail
  refine Q1.out.mono ?_
  rintro e w2 ⟨rfl, hr2, hg2⟩
  have Q2 := Lib.hid (U32_any w.heap.size w.heap.size (l.drop 4) false w2 hr2)
  rw [rdTake_all (l.drop 4) 4 (by have := HL.out; simp; omega)] at Q2
  have HB2 := Lib.hid (HB1.out.grown hg2 HB1.out.size (fun k hk => by cases hk; exact Nat.le_refl _))
  obtain ⟨x, hx⟩ : ∃ x, x = num (l.take 4) := ⟨_, rfl⟩
  obtain ⟨y, hy⟩ : ∃ y, y = num (l.drop 4) := ⟨_, rfl⟩
  have HX := Lib.hid hx; have HY := Lib.hid hy
  simp only [← hy] at Q2
  simp only [← hx]
  clear hr2 hg2 hx hy
  go_wp2_with fail
  refine Q2.out.mono ?_
  rintro e w3 ⟨rfl, hr3, hg3⟩
  have HB3 := Lib.hid (HB2.out.grown hg3 HB2.out.size (fun k hk => by cases hk; exact Nat.le_refl _))
  clear hr3 hg3
  go_wp2_with fail
  go_ret2
  exact ⟨by rw [← HX.out, ← HY.out]; rfl, HB3.out⟩
set_option maxHeartbeats 6400000 in
theorem say7_any (gx B' : Nat) (vo vp vn vm vf va vh vs vd vc vr vk vw vg : Value) (f : Int) (A A2 : Option Addr) (c n2 c2 : Nat) (l : List UInt8) (w : World) (hx : Blk w gx 99 [.bool true, vo, vp, vn, vm, vf, va, vh, vs, vd, vc, vr, vk, vw, vg]) (ho : Own w B' 5 (.slice A l.length c) l) (hc : l.length ≤ c) (hm : c ≤ maxLen) (hv : l.length = 8) :
    Calls Tryz.prog 104 #[.pointer (some ⟨gx, 0, none⟩), .agg #[.int .i64 f, .int .i64 7, .slice A l.length c, .slice A2 n2 c2]] w (SayPost w gx [.bool true, vo, vp, vn, vm, vf, va, .bool true, .int .u32 (num (l.take 4) : Int), .int .u32 (num (l.drop 4) : Int), vc, vr, vk, vw, vg]) := by
  obtain ⟨W0, hW0⟩ : ∃ W0, W0 = (w.alloc (.cells #[.int .i64 f, .int .i64 7, .slice A l.length c, .slice A2 n2 c2] 101)).alloc (.cells #[.int .i64 0, .int .i64 0, .slice none 0 0] 43) := ⟨_, rfl⟩
  have hb1 : Below w.heap.size w W0 := by rw [hW0]; exact ((Below.refl _ _).alloc (Nat.le_refl _) _).alloc (by simp) _
  have kp : Blk W0 w.heap.size 101 [.int .i64 f, .int .i64 7, .slice A l.length c, .slice A2 n2 c2] := by
    rw [hW0]
    exact (Blk.new w _ _).below ((Below.refl _ _).alloc (Nat.le_refl _) _) (by simp)
  have p2 : W0.cell? ⟨w.heap.size, 2, none⟩ = some (.slice A l.length c) := kp.cell 2
  have QN := Lib.hid (New_any A l.length c l rfl W0 (ho.bytes.below hb1) hc hm)
  have HOW := Lib.hid (fun (w1 : World) (hb : Below W0.heap.size W0 w1) => Own.below (Own.below ho hb1) hb)
  have HST := Lib.hid (fun (w1 : World) (hr : Rd w1 W0.heap.size W0.heap.size l false) (hb : Below W0.heap.size W0 w1) => SaySt.start hx hW0 hr hb)
  have hz : W0.heap.size = w.heap.size + 2 := by rw [hW0]; simp
  have HZ := Lib.hid hz
  have hsx : ¬ w.heap.size = gx := by have := hx.lt; omega
  have HKP := Lib.hid (fun (w1 : World) (hb : Below W0.heap.size W0 w1) => kp.below hb kp.lt)
  have HW0 := Lib.hid hW0; have HV := Lib.hid hv; have HLT := Lib.hid hx.lt; have HCM := Lib.hid (And.intro hc hm)
  clear hb1 kp hW0 hz hx ho hc hm hv
  go_enter Tryz.func104, Tryz.ntmps104
  go_wp2_with (rw [← HW0.out])
  refine QN.out.mono ?_
  rintro e w1 ⟨rfl, hr1, hb1⟩
  have S1 := Lib.hid (HST.out w1 hr1 hb1)
  have kp1 := HKP.out w1 hb1
  have p1 : w1.cell? ⟨w.heap.size, 1, none⟩ = some (.int .i64 7) := kp1.cell 1
  rw [HZ.out]
  have p22 : w1.cell? ⟨w.heap.size, 2, none⟩ = some (.slice A l.length c) := kp1.cell 2
  have x0 : w1.cell? ⟨gx, 0, none⟩ = some (.bool true) := S1.out.blk.cell 0
  have x7 : w1.cell? ⟨gx, 7, none⟩ = some vh := S1.out.blk.cell 7
  have y7 := S1.out.blk.free 7
  obtain ⟨W1, hW1⟩ : ∃ W, W = w1.setCell ⟨gx, 7, none⟩ (.bool true) := ⟨_, rfl⟩
  have HO1 := Lib.hid (show Own W1 B' 5 (.slice A l.length c) l from by rw [hW1]; exact row_keep (HOW.out w1 hb1) S1.out.blk (by decide) (grown_setCell (grown_refl _ (some gx)) 7 (.bool true)))
  have SG := Lib.hid (show SayG w gx [.bool true, vo, vp, vn, vm, vf, va, .bool true, vs, vd, vc, vr, vk, vw, vg] W1 from by rw [hW1]; exact S1.out.g.set 7 (.bool true))
  have Q := Lib.hid (aggr8_any A c l W1.drew HO1.out.bytes.drew HCM.out.1 HCM.out.2 HV.out)
  have SG2 := Lib.hid (fun (W : World) (q : Below W1.drew.heap.size W1.drew W) => SG.out.later (below_undrew q))
  have HW1 := Lib.hid hW1
  obtain ⟨x, hx⟩ : ∃ x, x = num (l.take 4) := ⟨_, rfl⟩
  obtain ⟨y, hy⟩ : ∃ y, y = num (l.drop 4) := ⟨_, rfl⟩
  have HX := Lib.hid hx; have HY := Lib.hid hy
  rw [← hx, ← hy] at Q
  clear hr1 hb1 p2 QN HST HW0 HKP kp1 hW1 HOW hx hy
  go_wp2_with fail
  rw [HW1.out] at Q SG2
  go_region_law ((try go_simp); go_at_call 106; refine Q.out.mono ?_; rintro e w2 ⟨rfl, hb2⟩; have S2 := Lib.hid (SG2.out _ hb2); have x8 : w2.cell? ⟨gx, 8, none⟩ = some vs := S2.out.blk.cell 8; have y8 := S2.out.blk.free 8; have x9 : w2.cell? ⟨gx, 9, none⟩ = some vd := S2.out.blk.cell 9; have y9 := S2.out.blk.free 9; clear hb2)
  all_goals
    have S3 := Lib.hid ((S2.out.set 8 (.int .u32 (x : Int))).set 9 (.int .u32 (y : Int)))
    have kr := S3.out.res
    have c3 := cells3 kr
    have f3 := free3 kr
    have r3 := cells3 (kr.set3 (.int .i64 0) (.int .i64 0) (.slice none 0 0))
    have HE := Lib.hid S3.out.fin
    have hlt := HLT.out
    have hne1 : ¬ gx = w.heap.size + 1 := by omega
    have hne2 : ¬ w.heap.size + 1 = gx := by omega
    clear kr hlt
    go_wp2_with fail
    refine bodyPost_ret (v := fault0) (by simp [results, Tryz.results104, go_sem, fault0, r3]) rfl ?_
    rw [← HX.out, ← HY.out]
    exact ⟨rfl, HE.out⟩
end Go.Proofs.YtnaangnmlbgmkaaGreatDoor

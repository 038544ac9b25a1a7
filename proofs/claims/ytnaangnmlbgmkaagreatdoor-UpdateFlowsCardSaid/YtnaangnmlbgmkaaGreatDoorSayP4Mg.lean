/-
  Texts of this seat, put together: SayP4.
-/
import Derived.Test.YtnaangnmlbgmkaaGreatDoorMg15
import Derived.Test.YtnaangnmlbgmkaaGreatDoorMg4
/-
  What one attribute says is taken in: a path, narrow or wide (written by gen04y.py).
-/
namespace Go.Proofs.YtnaangnmlbgmkaaGreatDoor
set_option linter.unusedVariables false
set_option linter.unusedSimpArgs false
open Go.RowKit

/-- What say leaves that took in a path. -/
def SayPath (W : World) (gx : Nat) (cs : Value → List Value) (L : List (Int × List Nat)) (e : Ending) (W' : World) : Prop :=
  ∃ (M : List Sg) (A : Option Addr) (c H B : Nat), e = .returned fault0 ∧ Blk W' gx 99 (cs (.slice A M.length c)) ∧ M.map Sg.abs = L ∧ M.length ≤ c ∧ c ≤ maxLen ∧ OwnSegs W' B H (.slice A M.length c) M ∧ W.heap.size ≤ B ∧ W.grownBy W' (some gx)
theorem SaySt.later {w W W' : World} {gx : Nat} {cs : List Value} {l : List UInt8} (S : SaySt w gx cs l W) (hb : Below W.heap.size W W') : SaySt w gx cs l W' :=
  ⟨S.blk.below hb S.blk.lt, S.lt, S.res.below hb S.res.lt, S.below.trans (hb.mono S.below.size), S.rd.below hb S.rd.lt⟩
theorem segs_set {w w' : World} {B H g : Nat} {v : Value} {M : List Sg} (h : OwnSegs w B H v M) (hg : w.grownBy w' (some g)) (hB : g < B) : OwnSegs w' B H v M := h.apart hg hB
set_option maxHeartbeats 3200000 in
theorem say2_any (gx : Nat) (wide : Bool) (vo vp vn vm vf va vh vs vd vc vr vk vw vg : Value) (f : Int) (A A2 : Option Addr) (c n2 c2 : Nat) (l : List UInt8) (w : World) (hx : Blk w gx 99 [.bool wide, vo, vp, vn, vm, vf, va, vh, vs, vd, vc, vr, vk, vw, vg]) (h : Bytes w A l) (hc : l.length ≤ c) (hm : c ≤ maxLen) (L : List (Int × List Nat)) (hl : l.length ≤ 10000000) (hv : readL wide l = some L) :
    Calls Tryz.prog 104 #[.pointer (some ⟨gx, 0, none⟩), .agg #[.int .i64 f, .int .i64 2, .slice A l.length c, .slice A2 n2 c2]] w (SayPath w gx (fun V => [.bool wide, vo, V, vn, vm, vf, va, vh, vs, vd, vc, vr, vk, vw, vg]) L) := by
  obtain ⟨W0, hW0⟩ : ∃ W0, W0 = (w.alloc (.cells #[.int .i64 f, .int .i64 2, .slice A l.length c, .slice A2 n2 c2] 101)).alloc (.cells #[.int .i64 0, .int .i64 0, .slice none 0 0] 43) := ⟨_, rfl⟩
  have hb1 : Below w.heap.size w W0 := by rw [hW0]; exact ((Below.refl _ _).alloc (Nat.le_refl _) _).alloc (by simp) _
  have kp : Blk W0 w.heap.size 101 [.int .i64 f, .int .i64 2, .slice A l.length c, .slice A2 n2 c2] := by
    rw [hW0]
    exact (Blk.new w _ _).below ((Below.refl _ _).alloc (Nat.le_refl _) _) (by simp)
  have p2 : W0.cell? ⟨w.heap.size, 2, none⟩ = some (.slice A l.length c) := kp.cell 2
  have QN := Lib.hid (New_any A l.length c l rfl W0 (h.below hb1) hc hm)
  have HBY := Lib.hid (fun (w1 : World) (hb : Below W0.heap.size W0 w1) => (h.below hb1).below hb)
  have HCM := Lib.hid (And.intro hc hm)
  have HST := Lib.hid (fun (w1 : World) (hr : Rd w1 W0.heap.size W0.heap.size l false) (hb : Below W0.heap.size W0 w1) => SaySt.start hx hW0 hr hb)
  have hz : W0.heap.size = w.heap.size + 2 := by rw [hW0]; simp
  have HZ := Lib.hid hz
  have hsx : ¬ w.heap.size = gx := by have := hx.lt; omega
  have HKP := Lib.hid (fun (w1 : World) (hb : Below W0.heap.size W0 w1) => kp.below hb kp.lt)
  have HW0 := Lib.hid hW0; have HV := Lib.hid hv; have HLT := Lib.hid hx.lt
  clear hb1 kp hW0 hz hx h hc hm hv
  go_enter Tryz.func104, Tryz.ntmps104
  go_wp2_with (rw [← HW0.out])
  refine QN.out.mono ?_
  rintro e w1 ⟨rfl, hr1, hb1⟩
  have S1 := Lib.hid (HST.out w1 hr1 hb1)
  have kp1 := HKP.out w1 hb1
  have p1 : w1.cell? ⟨w.heap.size, 1, none⟩ = some (.int .i64 2) := kp1.cell 1
  rw [HZ.out]
  have p22 : w1.cell? ⟨w.heap.size, 2, none⟩ = some (.slice A l.length c) := kp1.cell 2
  have x0 : w1.cell? ⟨gx, 0, none⟩ = some (.bool wide) := S1.out.blk.cell 0
  have HB := Lib.hid (HBY.out w1 hb1)
  clear hr1 hb1 p2 QN HST HW0 HKP kp1
  have Q := Lib.hid (Read3_any A c l wide w1.drew HB.out.drew HCM.out.1 HCM.out.2 hl)
  rw [HV.out] at Q
  go_wp2_with fail
  have HL1 := Lib.hid (show w.heap.size + 2 < w1.heap.size from S1.out.rd.lt)
  go_region_law ((try go_simp); go_at_call 127; refine Q.out.mono ?_; rintro e w2 ⟨M, A3, d3, rfl, hM, f1, f2, ⟨H, ho⟩, hb2⟩; have S2 := Lib.hid (S1.out.later (below_undrew hb2)); have HO := Lib.hid ho; have HM := Lib.hid hM; have HF := Lib.hid (And.intro f1 f2); have hsz := hb2.size; clear hb2 ho hM f1 f2 Q S1 HB p22 x0)
  all_goals
    have x1 : w2.cell? ⟨gx, 2, none⟩ = some vp := S2.out.blk.cell 2
    have y1 := S2.out.blk.free 2
    have kr := S2.out.resAt 2 (.slice A3 M.length d3)
    have c3 := cells3 kr
    have f3 := free3 kr
    have r3 := cells3 (kr.set3 (.int .i64 0) (.int .i64 0) (.slice none 0 0))
    have HE := Lib.hid (S2.out.end 2 (.slice A3 M.length d3))
    have hlt := HLT.out
    have hne1 : ¬ gx = w.heap.size + 1 := by omega
    have hne2 : ¬ w.heap.size + 1 = gx := by omega
    clear kr hlt
    have HOF := Lib.hid ((HO.out.apart (grown_setCell (grown_refl w2 (some gx)) 2 (.slice A3 M.length d3)) (by show gx < w1.heap.size + 1; have := HLT.out; have := HL1.out; omega)).apart (grown_set3 _ (w.heap.size + 1) (.int .i64 0) (.int .i64 0) (.slice none 0 0)) (by show w.heap.size + 1 < w1.heap.size + 1; have := HL1.out; omega))
    have HBL := Lib.hid (show w.heap.size ≤ w1.heap.size + 1 from by have := HL1.out; omega)
    go_wp2_with fail
    exact bodyPost_ret (v := fault0) (by simp [results, Tryz.results104, go_sem, fault0, r3]) rfl ⟨M, A3, d3, H, _, rfl, HE.out.1, HM.out, HF.out.1, HF.out.2, HOF.out, HBL.out, HE.out.2⟩
set_option maxHeartbeats 3200000 in
theorem say17_any (gx : Nat) (wide : Bool) (vo vp vn vm vf va vh vs vd vc vr vk vw vg : Value) (f : Int) (A A2 : Option Addr) (c n2 c2 : Nat) (l : List UInt8) (w : World) (hx : Blk w gx 99 [.bool wide, vo, vp, vn, vm, vf, va, vh, vs, vd, vc, vr, vk, vw, vg]) (h : Bytes w A l) (hc : l.length ≤ c) (hm : c ≤ maxLen) (hl : l.length ≤ 10000000) (hv : True) :
    Calls Tryz.prog 104 #[.pointer (some ⟨gx, 0, none⟩), .agg #[.int .i64 f, .int .i64 17, .slice A l.length c, .slice A2 n2 c2]] w (SayPath w gx (fun V => [.bool wide, vo, vp, vn, vm, vf, va, vh, vs, vd, vc, vr, vk, V, vg]) ((readL true l).getD [])) := by
  obtain ⟨W0, hW0⟩ : ∃ W0, W0 = (w.alloc (.cells #[.int .i64 f, .int .i64 17, .slice A l.length c, .slice A2 n2 c2] 101)).alloc (.cells #[.int .i64 0, .int .i64 0, .slice none 0 0] 43) := ⟨_, rfl⟩
  have hb1 : Below w.heap.size w W0 := by rw [hW0]; exact ((Below.refl _ _).alloc (Nat.le_refl _) _).alloc (by simp) _
  have kp : Blk W0 w.heap.size 101 [.int .i64 f, .int .i64 17, .slice A l.length c, .slice A2 n2 c2] := by
    rw [hW0]
    exact (Blk.new w _ _).below ((Below.refl _ _).alloc (Nat.le_refl _) _) (by simp)
  have p2 : W0.cell? ⟨w.heap.size, 2, none⟩ = some (.slice A l.length c) := kp.cell 2
  have QN := Lib.hid (New_any A l.length c l rfl W0 (h.below hb1) hc hm)
  have HBY := Lib.hid (fun (w1 : World) (hb : Below W0.heap.size W0 w1) => (h.below hb1).below hb)
  have HCM := Lib.hid (And.intro hc hm)
  have HST := Lib.hid (fun (w1 : World) (hr : Rd w1 W0.heap.size W0.heap.size l false) (hb : Below W0.heap.size W0 w1) => SaySt.start hx hW0 hr hb)
  have hz : W0.heap.size = w.heap.size + 2 := by rw [hW0]; simp
  have HZ := Lib.hid hz
  have hsx : ¬ w.heap.size = gx := by have := hx.lt; omega
  have HKP := Lib.hid (fun (w1 : World) (hb : Below W0.heap.size W0 w1) => kp.below hb kp.lt)
  have HW0 := Lib.hid hW0; have HV := Lib.hid hv; have HLT := Lib.hid hx.lt
  clear hb1 kp hW0 hz hx h hc hm hv
  go_enter Tryz.func104, Tryz.ntmps104
  go_wp2_with (rw [← HW0.out])
  refine QN.out.mono ?_
  rintro e w1 ⟨rfl, hr1, hb1⟩
  have S1 := Lib.hid (HST.out w1 hr1 hb1)
  have kp1 := HKP.out w1 hb1
  have p1 : w1.cell? ⟨w.heap.size, 1, none⟩ = some (.int .i64 17) := kp1.cell 1
  rw [HZ.out]
  have p22 : w1.cell? ⟨w.heap.size, 2, none⟩ = some (.slice A l.length c) := kp1.cell 2
  have x0 : w1.cell? ⟨gx, 0, none⟩ = some (.bool wide) := S1.out.blk.cell 0
  have HB := Lib.hid (HBY.out w1 hb1)
  clear hr1 hb1 p2 QN HST HW0 HKP kp1
  have Q := Lib.hid (Read3_any A c l true w1 HB.out HCM.out.1 HCM.out.2 hl)
  have HL1 := Lib.hid (show w.heap.size + 2 < w1.heap.size from S1.out.rd.lt)
  cases hr : readL true l with
  | none =>
    rw [hr] at Q
    have HR := Lib.hid hr
    clear hr
    go_wp2_with fail
    refine Q.out.mono ?_
    rintro e w2 ⟨rfl, hb2⟩
    have S2 := Lib.hid (S1.out.later hb2)
    clear hb2 Q S1 HB p22 x0
    have x1 : w2.cell? ⟨gx, 13, none⟩ = some vw := S2.out.blk.cell 13
    have y1 := S2.out.blk.free 13
    have kr := S2.out.resAt 13 (.slice none 0 0)
    have c3 := cells3 kr
    have f3 := free3 kr
    have r3 := cells3 (kr.set3 (.int .i64 0) (.int .i64 0) (.slice none 0 0))
    have HE := Lib.hid (S2.out.end 13 (.slice none 0 0))
    have hlt := HLT.out
    have hne1 : ¬ gx = w.heap.size + 1 := by omega
    have hne2 : ¬ w.heap.size + 1 = gx := by omega
    clear kr hlt
    go_wp2_with fail
    exact bodyPost_ret (v := fault0) (by simp [results, Tryz.results104, go_sem, fault0, r3]) rfl ⟨[], none, 0, 0, w.heap.size, rfl, HE.out.1, by rw [HR.out]; rfl, Nat.le_refl _, Nat.zero_le _, OwnSegs.nil _ _ _, Nat.le_refl _, HE.out.2⟩
  | some L =>
    rw [hr] at Q
    have HR := Lib.hid hr
    clear hr
    go_wp2_with fail
    refine Q.out.mono ?_
    rintro e w2 ⟨M, A3, d3, rfl, hM, f1, f2, ⟨H, ho⟩, hb2⟩
    have S2 := Lib.hid (S1.out.later hb2); have HO := Lib.hid ho; have HM := Lib.hid hM; have HF := Lib.hid (And.intro f1 f2)
    clear hb2 ho hM f1 f2 Q S1 HB p22 x0
    have x1 : w2.cell? ⟨gx, 13, none⟩ = some vw := S2.out.blk.cell 13
    have y1 := S2.out.blk.free 13
    have kr := S2.out.resAt 13 (.slice A3 M.length d3)
    have c3 := cells3 kr
    have f3 := free3 kr
    have r3 := cells3 (kr.set3 (.int .i64 0) (.int .i64 0) (.slice none 0 0))
    have HE := Lib.hid (S2.out.end 13 (.slice A3 M.length d3))
    have hlt := HLT.out
    have hne1 : ¬ gx = w.heap.size + 1 := by omega
    have hne2 : ¬ w.heap.size + 1 = gx := by omega
    clear kr hlt
    have HOF := Lib.hid ((HO.out.apart (grown_setCell (grown_refl w2 (some gx)) 13 (.slice A3 M.length d3)) (by show gx < w1.heap.size + 1; have := HLT.out; have := HL1.out; omega)).apart (grown_set3 _ (w.heap.size + 1) (.int .i64 0) (.int .i64 0) (.slice none 0 0)) (by show w.heap.size + 1 < w1.heap.size + 1; have := HL1.out; omega))
    have HBL := Lib.hid (show w.heap.size ≤ w1.heap.size + 1 from by have := HL1.out; omega)
    go_wp2_with fail
    exact bodyPost_ret (v := fault0) (by simp [results, Tryz.results104, go_sem, fault0, r3]) rfl ⟨M, A3, d3, H, _, rfl, HE.out.1, by rw [HR.out, HM.out]; rfl, HF.out.1, HF.out.2, HOF.out, HBL.out, HE.out.2⟩
end Go.Proofs.YtnaangnmlbgmkaaGreatDoor

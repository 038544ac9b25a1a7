/-
  Texts of this seat, put together: Take4.
-/
import Derived.Test.YtnaangnmlbgmkaaGreatDoorMg15
/-
  An attribute that is known is taken in.
-/
namespace Go.Proofs.YtnaangnmlbgmkaaGreatDoor
set_option linter.unusedVariables false
set_option linter.unusedSimpArgs false
open Go.RowKit

theorem below_grown {w w1 w2 : World} {g : Nat} (h : w.grownBy w1 (some g)) (k : Below w1.heap.size w1 w2) : w.grownBy w2 (some g) :=
  ⟨k.os.trans h.os, k.tape.trans h.tape, k.output.trans h.output, Nat.le_trans h.size k.size, fun i hi hne => (k.block i (Nat.lt_of_lt_of_le hi h.size)).trans (h.block i hi hne)⟩
set_option maxRecDepth 100000 in
set_option maxHeartbeats 12800000 in
theorem take_known (gx : Nat) (wide : Bool) (R : List Value) (f g : Nat) (k fl na wi un : Int) (A A2 : Option Addr) (c n2 c2 : Nat) (l : List UInt8) (w : World) (Q : World → Prop) (hx : Blk w gx 99 (.bool wide :: R)) (ht : TabK w)
    (hlk : lookN k = some (k, fl, na, wi, un)) (hg : g = 64 ∨ g = 128 ∨ g = 192) (hfl : fl = (g : Int)) (hf : flOk f g = true)
    (hfit : ∀ W, Calls Tryz.prog 103 #[.agg #[.int .i64 k, .int .i64 fl, .int .i64 na, .int .i64 wi, .int .i64 un], .int .i64 (l.length : Int), .bool wide] W fun e w' => e = .returned (.bool true) ∧ Below W.heap.size W w')
    (hQ : ∀ W2 W3, Q W2 → Blk W2 (w.heap.size + 1) 43 [.int .i64 0, .int .i64 0, .slice none 0 0] → W2.grownBy W3 (some (w.heap.size + 1)) → Q W3)
    (hsay : ∀ W, Below w.heap.size w W → w.heap.size + 2 ≤ W.heap.size → Calls Tryz.prog 104 #[.pointer (some ⟨gx, 0, none⟩), .agg #[.int .i64 (f : Int), .int .i64 k, .slice A l.length c, .slice A2 n2 c2]] W fun e W' => e = .returned fault0 ∧ W.grownBy W' (some gx) ∧ Q W') :
    Calls Tryz.prog 62 #[.pointer (some ⟨gx, 0, none⟩), .agg #[.int .i64 (f : Int), .int .i64 k, .slice A l.length c, .slice A2 n2 c2]] w fun e W' => e = .returned fault0 ∧ w.grownBy W' (some gx) ∧ Q W' := by
  obtain ⟨W0, hW0⟩ : ∃ W0, W0 = (w.alloc (.cells #[.int .i64 (f : Int), .int .i64 k, .slice A l.length c, .slice A2 n2 c2] 101)).alloc (.cells #[.int .i64 0, .int .i64 0, .slice none 0 0] 43) := ⟨_, rfl⟩
  have hb1 : Below w.heap.size w W0 := by rw [hW0]; exact ((Below.refl _ _).alloc (Nat.le_refl _) _).alloc (by simp) _
  have kp : Blk W0 w.heap.size 101 [.int .i64 (f : Int), .int .i64 k, .slice A l.length c, .slice A2 n2 c2] := by
    rw [hW0]
    exact (Blk.new w _ _).below ((Below.refl _ _).alloc (Nat.le_refl _) _) (by simp)
  have kf : Blk W0 (w.heap.size + 1) 43 [.int .i64 0, .int .i64 0, .slice none 0 0] := by
    have := Blk.new (w.alloc (.cells #[.int .i64 (f : Int), .int .i64 k, .slice A l.length c, .slice A2 n2 c2] 101)) 43 [.int .i64 0, .int .i64 0, .slice none 0 0]
    rw [hW0]
    simpa using this
  have kx := hx.below hb1 hx.lt
  have QL := Lib.hid (lookOf_any k W0 (ht.below hb1 ht.lt))
  rw [hlk] at QL
  unfold retLook at QL
  have QB := Lib.hid (fun W => bears_ok k fl na wi un f g W hg hfl hf)
  have QF := Lib.hid hfit
  have p1 : W0.cell? ⟨w.heap.size, 1, none⟩ = some (.int .i64 k) := kp.cell 1
  have HB1 := Lib.hid hb1; have HW0 := Lib.hid hW0; have HLT := Lib.hid hx.lt
  have HP := Lib.hid (fun (W : World) (hb : Below W0.heap.size W0 W) => cells4 (kp.below hb kp.lt))
  have HF := Lib.hid (fun (W : World) (hb : Below W0.heap.size W0 W) => kf.below hb kf.lt)
  have HX := Lib.hid (fun (W : World) (hb : Below W0.heap.size W0 W) => show W.cell? ⟨gx, 0, none⟩ = some (.bool wide) from (kx.below hb kx.lt).cell 0)
  have HSAY := Lib.hid hsay; have HQ := Lib.hid hQ
  have HZ := Lib.hid (show W0.heap.size = w.heap.size + 2 by rw [hW0]; simp)
  clear hb1 kp kf kx hx ht hlk hg hfl hf hfit hsay hQ hW0
  go_enter Tryz.func62, Tryz.ntmps62
  go_wp2_with (rw [← HW0.out])
  refine QL.out.mono ?_
  rintro e w1 ⟨rfl, hb⟩
  have HA := Lib.hid hb
  have hbL := hb.alloc hb.size (.cells #[.int .i64 k, .int .i64 fl, .int .i64 na, .int .i64 wi, .int .i64 un] 121)
  have kl := Blk.new w1 121 [.int .i64 k, .int .i64 fl, .int .i64 na, .int .i64 wi, .int .i64 un]
  obtain ⟨W1, hW1⟩ : ∃ W1, W1 = w1.alloc (.cells #[.int .i64 k, .int .i64 fl, .int .i64 na, .int .i64 wi, .int .i64 un] 121) := ⟨_, rfl⟩
  rw [← hW1] at hbL
  have kl1 : Blk W1 w1.heap.size 121 [.int .i64 k, .int .i64 fl, .int .i64 na, .int .i64 wi, .int .i64 un] := by rw [hW1]; exact kl
  have HL := Lib.hid (fun (W : World) (hb : Below W1.heap.size W1 W) => kl1.below hb kl1.lt)
  have HB := Lib.hid hbL; have HW1 := Lib.hid hW1
  have pp := HP.out W1 hbL
  have l0 : W1.cell? ⟨w1.heap.size, 0, none⟩ = some _ := kl1.cell 0
  have l1 : W1.cell? ⟨w1.heap.size, 1, none⟩ = some _ := kl1.cell 1
  have l2 : W1.cell? ⟨w1.heap.size, 2, none⟩ = some _ := kl1.cell 2
  have l3 : W1.cell? ⟨w1.heap.size, 3, none⟩ = some _ := kl1.cell 3
  have l4 : W1.cell? ⟨w1.heap.size, 4, none⟩ = some _ := kl1.cell 4
  clear hb hbL kl hW1 kl1 p1 QL
  go_wp2_with (rw [← HW1.out])
  refine (QB.out _).mono ?_
  rintro e w2 ⟨rfl, hb⟩
  have hb2 := HB.out.trans (hb.mono HB.out.size)
  have kl2 := HL.out w2 hb
  have HB2 := Lib.hid hb2; have HL2 := Lib.hid (fun (W : World) (hb' : Below w2.heap.size w2 W) => HL.out W (hb.trans (hb'.mono hb.size)))
  have pp2 := HP.out w2 hb2
  have x2 := HX.out w2 hb2
  have m0 : w2.cell? ⟨w1.heap.size, 0, none⟩ = some _ := kl2.cell 0
  have m1 : w2.cell? ⟨w1.heap.size, 1, none⟩ = some _ := kl2.cell 1
  have m2 : w2.cell? ⟨w1.heap.size, 2, none⟩ = some _ := kl2.cell 2
  have m3 : w2.cell? ⟨w1.heap.size, 3, none⟩ = some _ := kl2.cell 3
  have m4 : w2.cell? ⟨w1.heap.size, 4, none⟩ = some _ := kl2.cell 4
  clear hb hb2 kl2 pp l0 l1 l2 l3 l4 QB HA
  go_wp2_with fail
  go_region_law ((try go_simp); go_at_call 103; refine (QF.out _).mono ?_; rintro e w3 ⟨rfl, hb3⟩; have HB3 := Lib.hid (HB2.out.trans ((below_undrew hb3).mono HB2.out.size)); clear hb3 pp2 x2 m0 m1 m2 m3 m4 QF)
  all_goals
    have pp3 := HP.out w3 HB3.out
    have QS := Lib.hid (HSAY.out w3 (HB1.out.trans (HB3.out.mono HB1.out.size)) (by have := HB3.out.size; have := HZ.out; omega))
    go_wp2_with fail
    refine QS.out.mono ?_
    rintro e w4 ⟨rfl, hg4, hq4⟩
    have kr := (HF.out w3 HB3.out).grown hg4 (by have := HLT.out; omega)
    have c3 := cells3 kr
    have f3 := free3 kr
    have r3 := cells3 (kr.set3 (.int .i64 0) (.int .i64 0) (.slice none 0 0))
    have hset := grown_set3 w4 (w.heap.size + 1) (.int .i64 0) (.int .i64 0) (.slice none 0 0)
    have HE := Lib.hid (And.intro (grown_new (grown_below (HB1.out.trans (HB3.out.mono HB1.out.size)) hg4) hset (by omega)) (HQ.out _ _ hq4 kr hset))
    clear kr hg4 hq4 hset QS pp3
    unfold fault0
    go_wp2_with fail
    exact bodyPost_ret (v := fault0) (by simp [results, Tryz.results62, go_sem, fault0, r3]) rfl ⟨rfl, HE.out.1, HE.out.2⟩
end Go.Proofs.YtnaangnmlbgmkaaGreatDoor

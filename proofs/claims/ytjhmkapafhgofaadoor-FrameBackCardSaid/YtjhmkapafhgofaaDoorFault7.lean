/-
  What a stream's Fault and Left tell.
-/
import Derived.Test.YtjhmkapafhgofaaDoorStream7
import Derived.Test.YtjhmkapafhgofaaDoorMsg7
namespace Go.Proofs.YtjhmkapafhgofaaDoor
set_option linter.unusedVariables false
set_option linter.unusedSimpArgs false
open Go.RowKit

def FaultVal (w : World) (C U : Nat) (D : List UInt8) (e : Ending) (w' : World) : Prop :=
  Below w.heap.size w w' ∧ ∃ A c, e = .returned (.agg #[.int .i64 (C : Int), .int .i64 (U : Int), .slice A D.length c]) ∧ Bytes w' A D
set_option maxHeartbeats 3200000 in
theorem fault_core (g C U dc : Nat) (A : Option Addr) (D : List UInt8) (v : Value) (w : World) (hk : Blk w g 55 [v, .int .i64 (C : Int), .int .i64 (U : Int), .slice A D.length dc]) (hD : Bytes w A D) (hl : D.length ≤ 1000000) :
    Calls Tryd.prog 21 #[.pointer (some ⟨g, 0, none⟩)] w (FaultVal w C U D) := by
  have hb0 := (Below.refl w.heap.size w).alloc (Nat.le_refl _) (.cells #[.int .i64 0, .int .i64 0, .slice none 0 0] 33)
  have k1 : World.cell? _ ⟨g, 1, none⟩ = some _ := (hk.below hb0 hk.lt).cell 1
  have k2 : World.cell? _ ⟨g, 2, none⟩ = some _ := (hk.below hb0 hk.lt).cell 2
  have k3 : World.cell? _ ⟨g, 3, none⟩ = some _ := (hk.below hb0 hk.lt).cell 3
  have kR := Blk.new w 33 [.int .i64 0, .int .i64 0, .slice none 0 0]
  have hb1 := hb0.alloc (by simp) (.cells #[.int .i64 (C : Int), .int .i64 (U : Int), .slice A D.length dc] 33)
  have kR1 := kR.below ((Below.refl _ _).alloc (Nat.le_refl _) (.cells #[.int .i64 (C : Int), .int .i64 (U : Int), .slice A D.length dc] 33)) kR.lt
  have kF := Blk.new (w.alloc (.cells #[.int .i64 0, .int .i64 0, .slice none 0 0] 33)) 33 [.int .i64 (C : Int), .int .i64 (U : Int), .slice A D.length dc]
  have hz : (w.alloc (.cells #[.int .i64 0, .int .i64 0, .slice none 0 0] 33)).heap.size = w.heap.size + 1 := by simp
  rw [hz] at kF
  have Q := Lib.hid (Clone_any A D.length dc D rfl _ (hD.below hb1) hl)
  have HR := Lib.hid kR1; have HF := Lib.hid kF; have HB1 := Lib.hid hb1
  clear hb0 kR kR1 kF hb1 hk hD hz
  go_enter Tryd.func21, Tryd.ntmps21
  go_wp2_with fail
  refine Q.out.mono ?_
  rintro e w2 ⟨A2, c2, rfl, f2, g2, ho2, hb2⟩
  have kr := HR.out.below hb2 HR.out.lt
  have kf := HF.out.below hb2 HF.out.lt
  have cF := cells3 kf
  have fF := free3 kf
  have cR := cells3 kr
  have fR := free3 kr
  have hgr := grown_setCell (grown_refl w2 (some (w.heap.size + 1))) 2 (.slice A2 D.length c2)
  have kr2 := kr.grown hgr (by omega)
  have kf2 := kf.set 2 (.slice A2 D.length c2)
  have r7 := res3 (.int .i64 (C : Int)) (.int .i64 (U : Int)) (.slice A2 D.length c2) kr2
  have HB2 := Lib.hid (HB1.out.trans (hb2.mono HB1.out.size))
  have hlt : w.heap.size + 1 < ((w.alloc (.cells #[.int .i64 0, .int .i64 0, .slice none 0 0] 33)).alloc (.cells #[.int .i64 (C : Int), .int .i64 (U : Int), .slice A D.length dc] 33)).heap.size := by simp
  have HO2 := Lib.hid (ho2.beside hgr hlt)
  have HKR := Lib.hid kr2
  have cF2 : World.cell? _ ⟨w.heap.size + 1, 2, none⟩ = some _ := kf2.cell 2
  have cF0 : World.cell? _ ⟨w.heap.size + 1, 0, none⟩ = some _ := kf2.cell 0
  have cF1 : World.cell? _ ⟨w.heap.size + 1, 1, none⟩ = some _ := kf2.cell 1
  have HLT := Lib.hid hlt
  clear kr kf hb2 ho2 hgr kr2 kf2 hlt Q
  go_wp2_with fail
  refine bodyPost_ret (v := .agg #[.int .i64 (C : Int), .int .i64 (U : Int), .slice A2 D.length c2]) (by simp [results, Tryd.results21, go_sem, r7.1, r7.2.1, r7.2.2]) rfl ⟨?_, A2, c2, rfl, ?_⟩
  · exact below_set3' (HB2.out.setCell (p := ⟨w.heap.size + 1, 2, none⟩) (by simp) _) (Nat.le_refl _)
  · exact (HO2.out.beside (grown_set3 _ _ _ _ _) (by have := HLT.out; omega)).bytes
theorem FaultOk_any (g : Nat) (v : Value) (R : List UInt8) (w : World) (h : StOk w g v R) :
    Calls Tryd.prog 21 #[.pointer (some ⟨g, 0, none⟩)] w (FaultVal w 0 0 []) := fault_core g 0 0 0 none [] v w h.1 (Bytes.nil _ _) (by simp)
theorem FaultBad_any (g U : Nat) (D : List UInt8) (w : World) (h : StBad w g U D) (hl : D.length ≤ 1000000) :
    Calls Tryd.prog 21 #[.pointer (some ⟨g, 0, none⟩)] w (FaultVal w 1 U D) := by
  obtain ⟨A, dc, hk, f, q, ho⟩ := h
  exact fault_core g 1 U dc A D _ w hk ho.bytes hl
end Go.Proofs.YtjhmkapafhgofaaDoor

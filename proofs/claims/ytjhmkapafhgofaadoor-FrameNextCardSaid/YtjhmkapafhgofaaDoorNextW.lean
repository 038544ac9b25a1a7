/-
  P7.2: the first message of any bytes, or which fault they have: the walk.
-/
import Derived.Test.YtjhmkapafhgofaaDoorAwake7
import Derived.Test.YtjhmkapafhgofaaDoorRefNext7
import Derived.Test.YtjhmkapafhgofaaDoorSameF7
namespace Go.Proofs.YtjhmkapafhgofaaDoor.FrameNext
set_option linter.unusedVariables false
open Go.RowKit

set_option maxHeartbeats 3200000 in
theorem walk (A : Option Addr) (c : Nat) (l : List UInt8) (w : World) (hc : l.length ≤ c) (hm : c ≤ maxLen) (h : Bytes w A l) (ht : TabL w) :
    Calls Tryd.prog 4 #[.slice A l.length c] w fun e w' => e = .returned (.bool true) ∧ Below w.heap.size w w' := by
  by_cases hl : l.length ≤ 5000
  · have hlI : ¬ (5000 : Int) < (l.length : Int) := by omega
    have q1 := Next_any A c l w h hc hm (by omega) ht
    have HT := Lib.hid (fun W (hB : Below w.heap.size w W) => ht.below hB ht.lt)
    have q2 := fun W (hB : Below w.heap.size w W) => RefNext_any A c l W (h.below hB) hc hm (by omega)
    obtain ⟨x, hx⟩ : ∃ x, x = nextF l := ⟨_, rfl⟩
    rw [← hx] at q1 q2
    obtain ⟨K, T, S, C, U, D⟩ := x
    have Q1 := Lib.hid q1; have Q2 := Lib.hid q2
    clear q1 q2 hx ht h hl
    go_enter Tryd.func4, Tryd.ntmps4
    go_wp2_with fail
    refine Q1.out.mono ?_
    rintro e w1 ⟨hb1, A1, c1, A2, c2, rfl, ⟨f1, g1, ho1⟩, ⟨f2, g2, ho2⟩⟩
    dsimp only at f1 ho1 f2 ho2
    have hal := (Below.refl w1.heap.size w1).alloc (Nat.le_refl _) (.cells #[.int .i64 (C : Int), .int .i64 (U : Int), .slice A2 D.length c2] 33)
    have HK1 := Lib.hid (Blk.new w1 33 [.int .i64 (C : Int), .int .i64 (U : Int), .slice A2 D.length c2])
    have HB1 := Lib.hid (hb1.trans (hal.mono hb1.size))
    have HY1 := Lib.hid (ho1.bytes.below hal); have HY2 := Lib.hid (ho2.bytes.below hal)
    clear hal hb1 ho1 ho2 Q1
    go_wp2_with fail
    refine (Q2.out _ HB1.out).mono ?_
    rintro e w2 ⟨hb2, A3, c3, A4, c4, rfl, ⟨f3, g3, ho3⟩, ⟨f4, g4, ho4⟩⟩
    dsimp only at f3 ho3 f4 ho4
    have hal := (Below.refl w2.heap.size w2).alloc (Nat.le_refl _) (.cells #[.int .i64 (C : Int), .int .i64 (U : Int), .slice A4 D.length c4] 33)
    have hb2' := hb2.trans (hal.mono hb2.size)
    have hB2 := HB1.out.trans (hb2'.mono HB1.out.size)
    have hk2 := HK1.out.below hb2' (by simp)
    have c3' := cells3 hk2
    have QS := Lib.hid (Same_any A1 A3 T.length T.length c1 c3 T T rfl rfl _ (HY1.out.below hb2') (ho3.below hal))
    have QF := Lib.hid (SameFault_any (C : Int) (U : Int) (C : Int) (U : Int) A2 A4 c2 c4 D D _ (HY2.out.below hb2') (ho4.below hal))
    simp only [beq_self_eq_true, Bool.and_self] at QS QF
    have QA := Lib.hid (fun W (hB : Below w.heap.size w W) => awake7_any W (HT.out _ hB))
    have HB2 := Lib.hid hB2
    clear hal hb2 hb2' hB2 hk2 ho3 ho4 Q2
    go_wp2_with fail
    refine QS.out.mono ?_
    rintro e w3 ⟨rfl, rfl⟩
    go_wp2_with fail
    refine QF.out.mono ?_
    rintro e w4 ⟨rfl, hb4⟩
    have HB4 := Lib.hid (HB2.out.trans (hb4.mono HB2.out.size))
    clear hb4
    go_wp2_with fail
    refine (QA.out _ HB4.out).mono ?_
    rintro e w5 ⟨rfl, hb5⟩
    go_wp2_with fail
    go_ret
    exact ⟨rfl, HB4.out.trans (hb5.mono HB4.out.size)⟩
  · have hlI : (5000 : Int) < (l.length : Int) := by omega
    have QA := Lib.hid (awake7_any w ht)
    clear h ht hl
    go_enter Tryd.func4, Tryd.ntmps4
    go_wp2_with fail
    refine QA.out.mono ?_
    rintro e w2 ⟨rfl, hb2⟩
    go_wp2_with fail
    go_ret
    exact ⟨rfl, hb2⟩
end Go.Proofs.YtjhmkapafhgofaaDoor.FrameNext

/-
  When two faults are the same to the document.
-/
import Derived.Test.YtjhmkapafhgofaaDoorStr7
import Derived.Test.YtjhmkapafhgofaaDoorSame
namespace Go.Proofs.YtjhmkapafhgofaaDoor
set_option linter.unusedVariables false
open Go.RowKit

set_option maxHeartbeats 1600000 in
theorem SameFault_any (a b a' b' : Int) (A A' : Option Addr) (c c' : Nat) (d d' : List UInt8) (w : World) (h : Bytes w A d) (h' : Bytes w A' d') :
    Calls Tryd.prog 16 #[.agg #[.int .i64 a, .int .i64 b, .slice A d.length c], .agg #[.int .i64 a', .int .i64 b', .slice A' d'.length c']] w fun e w' => e = .returned (.bool (a == a' && (b == b' && d == d'))) ∧ Below w.heap.size w w' := by
  have hb := ((Below.refl w.heap.size w).alloc (Nat.le_refl _) (.cells #[.int .i64 a, .int .i64 b, .slice A d.length c] 33)).alloc (by simp) (.cells #[.int .i64 a', .int .i64 b', .slice A' d'.length c'] 33)
  have Q := Lib.hid (Same_any A A' d.length d'.length c c' d d' rfl rfl _ (h.below hb) (h'.below hb))
  have HB := Lib.hid hb
  clear h h' hb
  cases h1 : a == a' with
  | false =>
    go_enter Tryd.func16, Tryd.ntmps16
    go_wp2_with fail
    go_ret
    exact ⟨rfl, HB.out⟩
  | true =>
    cases h2 : b == b' with
    | false =>
      go_enter Tryd.func16, Tryd.ntmps16
      go_wp2_with fail
      go_ret
      exact ⟨rfl, HB.out⟩
    | true =>
      go_enter Tryd.func16, Tryd.ntmps16
      go_wp2_with fail
      refine Q.out.mono ?_
      rintro e w1 ⟨rfl, rfl⟩
      go_wp2_with fail
      go_ret
      exact ⟨rfl, HB.out⟩
end Go.Proofs.YtjhmkapafhgofaaDoor

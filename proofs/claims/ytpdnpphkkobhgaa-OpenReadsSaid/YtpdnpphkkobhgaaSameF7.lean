/-
  When two faults are the same to the document.
-/
import Derived.Test.YtpdnpphkkobhgaaStr7
import Derived.Test.YtpdnpphkkobhgaaSame
namespace Go.Proofs.Ytpdnpphkkobhgaa
set_option linter.unusedVariables false
open Go.RowKit

set_option maxHeartbeats 1600000 in
theorem SameFault_any (a b a' b' : Int) (A A' : Option Addr) (c c' : Nat) (d d' : List UInt8) (w : World) (h : Bytes w A d) (h' : Bytes w A' d') :
    Calls Try.prog 15 #[.agg #[.int .i64 a, .int .i64 b, .slice A d.length c], .agg #[.int .i64 a', .int .i64 b', .slice A' d'.length c']] w fun e w' => e = .returned (.bool (a == a' && (b == b' && d == d'))) ∧ Below w.heap.size w w' := by
  have hb := ((Below.refl w.heap.size w).alloc (Nat.le_refl _) (.cells #[.int .i64 a, .int .i64 b, .slice A d.length c] 36)).alloc (by simp) (.cells #[.int .i64 a', .int .i64 b', .slice A' d'.length c'] 36)
  have Q := Lib.hid (Same_any A A' d.length d'.length c c' d d' rfl rfl _ (h.below hb) (h'.below hb))
  have HB := Lib.hid hb
  clear h h' hb
  cases h1 : a == a' with
  | false =>
    go_enter Try.func15, Try.ntmps15
    go_wp2_with fail
    go_ret
    exact ⟨rfl, HB.out⟩
  | true =>
    cases h2 : b == b' with
    | false =>
      go_enter Try.func15, Try.ntmps15
      go_wp2_with fail
      go_ret
      exact ⟨rfl, HB.out⟩
    | true =>
      go_enter Try.func15, Try.ntmps15
      go_wp2_with fail
      refine Q.out.mono ?_
      rintro e w1 ⟨rfl, rfl⟩
      go_wp2_with fail
      go_ret
      exact ⟨rfl, HB.out⟩
end Go.Proofs.Ytpdnpphkkobhgaa

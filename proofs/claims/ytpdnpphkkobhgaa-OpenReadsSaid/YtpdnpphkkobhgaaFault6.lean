/-
  A fault of Code 2, as open makes it.
-/
import Derived.Test.YtpdnpphkkobhgaaStr7
namespace Go.Proofs.Ytpdnpphkkobhgaa
set_option linter.unusedVariables false
open Go.RowKit

theorem fault6_any (U : Int) (A : Option Addr) (n c : Nat) (w : World) :
    Calls Try.prog 40 #[.int .i64 U, .slice A n c] w fun e w' => e = .returned (.agg #[.int .i64 2, .int .i64 U, .slice A n c]) ∧ Below w.heap.size w w' := by
  go_enter Try.func40, Try.ntmps40
  go_wp2_with fail
  exact bodyPost_ret (v := .agg #[.int .i64 2, .int .i64 U, .slice A n c]) (by simp [results, Try.results40, go_sem]) rfl ⟨rfl, (Below.refl _ _).alloc (Nat.le_refl _) _⟩
end Go.Proofs.Ytpdnpphkkobhgaa

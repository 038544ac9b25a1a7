/-
  Three slices of bytes, one behind another.
-/
import Derived.Test.YtpdnpphkkobhgaaByte
import Derived.Lib.AppendZeros
import Derived.WalkLawsBesides
namespace Go.Proofs.Ytpdnpphkkobhgaa
set_option linter.unusedVariables false
set_option linter.unusedSimpArgs false
open Go.RowKit

set_option maxHeartbeats 1600000 in
theorem GrowNil_any (n : Nat) (w : World) (hn : n ≤ 70368744177664) :
    Calls Try.prog 46 #[.slice none 0 0, .int .i64 (n : Int)] w fun e w' => ∃ A c, e = .returned (.slice A 0 c) ∧ Own w' w.heap.size 5 (.slice A 0 c) [] ∧ Below w.heap.size w w' := by
  by_cases h0 : n = 0
  · subst h0
    go_enter Try.func46, Try.ntmps46
    go_wp2
    go_ret
    exact ⟨none, 0, rfl, Own.nil _ _ _, Below.refl _ _⟩
  · have hG1 := grownCap_ge w n 0 5
    have hG2 := grownCap_le_maxLen w n 0 5 (by unfold maxLen; omega)
    have hsz : (Builtin.zeroCells #[Value.int .u8 0] n ++ Builtin.zeroCells #[Value.int .u8 0] (grownCap w n 0 5 - n)).size = grownCap w n 0 5 * 1 := by
      rw [Array.size_append, size_zeroCells, size_zeroCells]
      have e : (#[Value.int .u8 0]).size = 1 := rfl
      rw [e]; omega
    have HG := Lib.hid hG2; have HS := Lib.hid hsz
    clear hG1 hG2 hsz
    have hp : (0 : Int) < (n : Int) := by omega
    have eb : Try.t5.bytes = 1 := rfl
    have g1 : ¬ 281474976710656 < (n : Int) * (Try.t5.bytes : Int) := by rw [eb]; omega
    have g2 : ¬ 281474976710656 < Builtin.nextslicecap n 0 * Try.t5.bytes := by rw [eb, nextslicecap_zero (by omega)]; omega
    clear eb
    go_enter Try.func46, Try.ntmps46
    go_wp2
    go_ret
    exact ⟨_, grownCap w n 0 5, rfl, ⟨rfl, .inr ⟨w.heap.size, grownCap w n 0 5, _, rfl, Nat.le_refl _, heap_alloc_new w _, Nat.zero_le _, HG.out, HS.out, rfl⟩⟩, ((Below.refl _ _).alloc (Nat.le_refl _) _).drew⟩
end Go.Proofs.Ytpdnpphkkobhgaa

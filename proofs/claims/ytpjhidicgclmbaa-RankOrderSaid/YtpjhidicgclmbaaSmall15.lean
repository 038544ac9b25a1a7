/-
  How much a candidate is preferred, and the numbers that the document's steps look at.
-/
import Derived.Test.YtpjhidicgclmbaaCand15
import Derived.Deep.QuietTactic
import Derived.BigQuiet
namespace Go.Proofs.Ytpjhidicgclmbaa
set_option linter.unusedVariables false
set_option linter.unusedSimpArgs false
open Go.RowKit

set_option maxRecDepth 100000 in
set_option maxHeartbeats 1600000 in
theorem Pref_any (c : Cv) (w : World) :
    Calls Try.prog 16 #[c.agg] w fun e w' => e = .returned (.int .i64 (prefN c)) ∧ Below w.heap.size w w' := by
  obtain ⟨peer, ext, near, id, addr, org, pathA, pathC, path, next, med, pref, atomic, has, aas, aad, commsA, commsN, commsC, rawsA, rawsN, rawsC⟩ := c
  unfold Cv.agg Cv.row prefN
  dsimp only
  by_cases h : pref < 0
  · rw [if_pos h]
    go_enter Try.func16, Try.ntmps16
    go_wp2_with fail
    go_ret
    exact ⟨rfl, (Below.refl _ _).alloc (Nat.le_refl _) _⟩
  · rw [if_neg h]
    go_enter Try.func16, Try.ntmps16
    go_wp2_with fail
    go_ret
    exact ⟨rfl, (Below.refl _ _).alloc (Nat.le_refl _) _⟩
set_option maxRecDepth 100000 in
set_option maxHeartbeats 1600000 in
theorem Med_any (c : Cv) (w : World) :
    Calls Try.prog 18 #[c.agg] w fun e w' => e = .returned (.int .i64 (medN c)) ∧ Below w.heap.size w w' := by
  obtain ⟨peer, ext, near, id, addr, org, pathA, pathC, path, next, med, pref, atomic, has, aas, aad, commsA, commsN, commsC, rawsA, rawsN, rawsC⟩ := c
  unfold Cv.agg Cv.row medN
  dsimp only
  by_cases h : med < 0
  · have e : max med 0 = 0 := by omega
    rw [e]
    clear e
    go_enter Try.func18, Try.ntmps18
    go_wp2_with fail
    go_ret
    exact ⟨rfl, (Below.refl _ _).alloc (Nat.le_refl _) _⟩
  · have e : max med 0 = med := by omega
    rw [e]
    clear e
    go_enter Try.func18, Try.ntmps18
    go_wp2_with fail
    go_ret
    exact ⟨rfl, (Below.refl _ _).alloc (Nat.le_refl _) _⟩
end Go.Proofs.Ytpjhidicgclmbaa

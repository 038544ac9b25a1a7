/-
  P22.1: of nil there is nothing: the walk.
-/
import Derived.Test.YtgbialnnfadlgaaNil22
import Derived.Test.YtgbialnnfadlgaaAwake22
namespace Go.Proofs.Ytgbialnnfadlgaa.QueueNobody
set_option linter.unusedVariables false
set_option linter.unusedSimpArgs false
open Go.RowKit

set_option maxRecDepth 100000 in
set_option maxHeartbeats 3200000 in
theorem walk (A : Option Addr) (c : Nat) (l : List UInt8) (n : Int) (w : World) :
    Calls Try.prog 6 #[.slice A l.length c, .int .i64 n] w fun e w' => e = .returned (.bool true) ∧ Below w.heap.size w w' := by
  by_cases h : 1000 < (l.length : Int)
  · go_enter Try.func6, Try.ntmps6
    go_wp2_with fail
    refine (awake22_any _).mono ?_
    rintro e w1 ⟨rfl, hb⟩
    go_wp2_with fail
    go_ret
    exact ⟨rfl, hb⟩
  · go_enter Try.func6, Try.ntmps6
    go_wp2_with (first
      | (go_at_call 16; refine (LineNil_any n _).mono ?_; rintro e wx ⟨rfl, rfl⟩)
      | (go_at_call 11; refine (PutNil_any _ _).mono ?_; rintro e wx ⟨rfl, rfl⟩)
      | (go_at_call 14; refine (TakeNil_any n _).mono ?_; rintro e wx ⟨rfl, rfl⟩)
      | (go_at_call 21; refine (LenNil_any _).mono ?_; rintro e wx ⟨rfl, rfl⟩)
      | (go_at_call 22; refine (RoomNil_any _).mono ?_; rintro e wx ⟨rfl, rfl⟩)
      | (go_at_call 20; refine (BytesNil_any _).mono ?_; rintro e wx ⟨rfl, rfl⟩)
      | (go_at_call 18; refine (ClearNil_any _).mono ?_; rintro e wx ⟨rfl, rfl⟩)
      | (go_at_call 8; refine (awake22_any _).mono ?_; rintro e wx ⟨rfl, hb⟩))
    go_ret
    exact ⟨rfl, hb⟩
end Go.Proofs.Ytgbialnnfadlgaa.QueueNobody

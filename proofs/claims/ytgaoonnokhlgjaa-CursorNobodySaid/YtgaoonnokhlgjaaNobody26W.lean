/-
  P26.2: of nil there is nothing: the walk.
-/
import Derived.Test.YtgaoonnokhlgjaaAwake26
namespace Go.Proofs.Ytgaoonnokhlgjaa.CursorNobody
set_option linter.unusedVariables false
set_option linter.unusedSimpArgs false
open Go.RowKit

set_option maxRecDepth 100000 in
set_option maxHeartbeats 6400000 in
theorem walk (o i : Int) (w : World) :
    Calls Try.prog 6 #[.int .i64 o, .int .i64 i] w fun e w' => e = .returned (.bool true) ∧ Below w.heap.size w w' := by
  go_enter Try.func6, Try.ntmps6
  go_wp2_with fail
  refine (OpenNil26 (ownCu o) _).mono ?_
  rintro e w1 ⟨rfl, hb⟩
  have B1 := Lib.hid hb
  clear hb
  go_wp2_with fail
  refine (Get26_nil o i _).mono ?_
  rintro e w2 ⟨rfl, hb⟩
  have B2 := Lib.hid (B1.out.trans (hb.mono B1.out.size))
  clear hb
  go_wp2_with (refine wpList_storeNewS (row := Cu0.row) _ w2 zerosU 36 rfl (isP Cu0) Cu0.one rfl rfl (.tmp 8) (.tmp 24) rfl rfl rfl rfl ?_)
  intro w3 k3 hb hz
  have B3 := Lib.hid (B2.out.trans (hb.mono B2.out.size))
  clear hb k3 hz
  go_wp2_with fail
  refine (Close26_nil o i _).mono ?_
  rintro e w4 ⟨rfl, hb⟩
  have B4 := Lib.hid (B3.out.trans (hb.mono B3.out.size))
  clear hb
  go_wp2_with (refine wpList_storeNewS (row := Cu0.row) _ w4 zerosU 36 rfl (isP Cu0) Cu0.one rfl rfl (.tmp 10) (.tmp 31) rfl rfl rfl rfl ?_)
  intro w5 k5 hb hz
  have B5 := Lib.hid (B4.out.trans (hb.mono B4.out.size))
  clear hb k5 hz
  go_wp2_with fail
  refine (MoveNil26 o i 0 0 _).mono ?_
  rintro e w6 ⟨rfl, hb⟩
  have B6 := Lib.hid (B5.out.trans (hb.mono B5.out.size))
  clear hb
  go_wp2_with fail
  refine (Leave26_nil o _).mono ?_
  rintro e w7 ⟨rfl, hb⟩
  have B7 := Lib.hid (B6.out.trans (hb.mono B6.out.size))
  clear hb
  go_wp2_with fail
  refine (TickNil26 _).mono ?_
  rintro e w8 ⟨rfl, hb⟩
  have B8 := Lib.hid (B7.out.trans (hb.mono B7.out.size))
  clear hb
  go_wp2_with fail
  refine (LenNil26 _).mono ?_
  rintro e w9 ⟨rfl, rfl⟩
  go_wp2_with fail
  refine (awake26_any _).mono ?_
  rintro e w10 ⟨rfl, hb⟩
  have B10 := Lib.hid (B8.out.trans (hb.mono B8.out.size))
  clear hb
  go_wp2_with fail
  go_ret
  exact ⟨rfl, B10.out⟩
end Go.Proofs.Ytgaoonnokhlgjaa.CursorNobody

/-
  More calls of a store of versions: the head, how often one is pinned; of no store; the example.
-/
import Derived.Test.YtagfehfggkehmaaWritesI
import Derived.Test.YtagfehfggkehmaaWritesS
namespace Go.Proofs.Ytagfehfggkehmaa
set_option linter.unusedVariables false
set_option linter.unusedSimpArgs false
open Go.RowKit Go.Maps

/-- Pins, out of get. -/
theorem PinsI_of {w : World} {v : Value} {k : Int} {u : Int × Int} {q : Bool}
    (hget : Calls Try.prog 24 #[v, .int .i64 k] w fun e w' => e = .returned (retGetI u q) ∧ Below w.heap.size w w') :
    Calls Try.prog 21 #[v, .int .i64 k] w fun e w' => e = .returned (.int .i64 u.2) ∧ Below w.heap.size w w' := by
  have HG := Lib.hid hget
  obtain ⟨x, p⟩ := u
  clear hget
  go_enter Try.func21, Try.ntmps21
  go_wp2_with ((go_at_call 24; refine HG.out.mono ?_; rintro e w1 ⟨rfl, hb1⟩; unfold retGetI))
  go_ret
  exact ⟨rfl, hb1.alloc hb1.size _⟩

set_option maxHeartbeats 1600000 in
theorem HeadI {w : World} {g b n c : Nat} {h : Int} {F : Int → Option (Int × Int)} (s : StI w g b n h F c) (x p : Int) (hF : F h = some (x, p)) (hh : 0 ≤ h ∧ h ≤ 1000000) :
    Calls Try.prog 17 #[.pointer (some ⟨g, 0, none⟩)] w fun e w' => e = .returned (.tuple #[.int .i64 h, .int .i64 x]) ∧ Below w.heap.size w w' := by
  have hwh : (Lit.int .i64 h).wf = true := WalkArith.wf_i64 (by omega)
  have c0 : w.cell? ⟨g, 0, none⟩ = some (.int .i64 h) := s.blk.cell 0
  have c1 : w.cell? ⟨g, 1, none⟩ = some (.map (some b)) := s.blk.cell 1
  have hlook := s.drew.map.look false hwh
  rw [hF] at hlook
  simp only [Option.getD_some, Bool.false_eq_true, if_false] at hlook
  have hfv := fieldVI x p
  have HS := Lib.hid s
  clear s hh hwh hF
  go_enter Try.func17, Try.ntmps17
  go_wp2_with ((go_at_call 22; refine (madeI HS.out).mono ?_; rintro e w1 ⟨rfl, rfl⟩))
  go_region
  go_wp2
  exact bodyPost_ret (v := .tuple #[.int .i64 h, .int .i64 x]) (by simp [results, Try.results17, go_sem]) rfl ⟨rfl, (Below.refl _ _).drew⟩

set_option maxHeartbeats 1600000 in
theorem HeadNo {w : World} {v : Value} (s : NoneI w v) :
    Calls Try.prog 17 #[v] w fun e w' => e = .returned (.tuple #[.int .i64 0, .int .i64 0]) ∧ Below w.heap.size w w' := by
  have HS := Lib.hid s
  clear s
  go_enter Try.func17, Try.ntmps17
  go_wp2_with ((go_at_call 22; refine (madeNoI HS.out).mono ?_; rintro e w1 ⟨rfl, rfl⟩))
  go_region
  all_goals
    go_wp2
    exact bodyPost_ret (v := .tuple #[.int .i64 0, .int .i64 0]) (by simp [results, Try.results17, go_sem]) rfl ⟨rfl, ((Below.refl _ _).alloc (Nat.le_refl _) _).drew⟩
theorem CommitNo {w : World} {v : Value} (s : NoneI w v) (x : Int) :
    Calls Try.prog 9 #[v, .int .i64 x] w fun e w' => e = .returned (.int .i64 0) ∧ Below w.heap.size w w' := by
  have HS := Lib.hid s
  clear s
  go_enter Try.func9, Try.ntmps9
  go_wp2_with ((go_at_call 22; refine (madeNoI HS.out).mono ?_; rintro e w1 ⟨rfl, rfl⟩))
  go_ret
  exact ⟨rfl, Below.refl _ _⟩
theorem PinNo {w : World} {v : Value} (s : NoneI w v) :
    Calls Try.prog 11 #[v] w fun e w' => e = .returned (.int .i64 0) ∧ Below w.heap.size w w' := by
  have HS := Lib.hid s
  clear s
  go_enter Try.func11, Try.ntmps11
  go_wp2_with ((go_at_call 22; refine (madeNoI HS.out).mono ?_; rintro e w1 ⟨rfl, rfl⟩))
  go_ret
  exact ⟨rfl, Below.refl _ _⟩
theorem LiveNo {w : World} {v : Value} (s : NoneI w v) :
    Calls Try.prog 18 #[v] w fun e w' => e = .returned (.int .i64 0) ∧ Below w.heap.size w w' := by
  have HS := Lib.hid s
  clear s
  go_enter Try.func18, Try.ntmps18
  go_wp2_with ((go_at_call 22; refine (madeNoI HS.out).mono ?_; rintro e w1 ⟨rfl, rfl⟩))
  go_ret
  exact ⟨rfl, Below.refl _ _⟩
end Go.Proofs.Ytagfehfggkehmaa

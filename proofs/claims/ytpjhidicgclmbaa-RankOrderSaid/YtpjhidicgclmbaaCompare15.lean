/-
  Two runners held against one another, from a step on, ahead of another one.
-/
import Derived.Test.YtpjhidicgclmbaaLex15
namespace Go.Proofs.Ytpjhidicgclmbaa
set_option linter.unusedVariables false
set_option linter.unusedSimpArgs false
open Go.RowKit

/-- A runner lies here: its Near, and its nine numbers. -/
def RnAt (w : World) (b off : Nat) (x : Rn) : Prop := w.cell? ⟨b, off, none⟩ = some (.int .u32 x.near) ∧ NumsAt w b (off + 1) x.keys
theorem NumsAt.part {w : World} {b off : Nat} {l : List Int} (h : NumsAt w b off l) (f n : Nat) : NumsAt w b (off + f) ((l.drop f).take n) := by
  intro j u hj
  rw [List.getElem?_take] at hj
  split at hj
  · rw [List.getElem?_drop] at hj
    rw [Nat.add_assoc]
    exact h _ _ hj
  · cases hj
/-- What is told of two, from a step on, ahead of another one. -/
def lexP (x y : Rn) (f t : Nat) : Int := lexC ((x.keys.drop f).take (t - f)) ((y.keys.drop f).take (t - f))
set_option maxHeartbeats 3200000 in
theorem compare03 (b off b2 off2 : Nat) (x y : Rn) (w : World) (h : RnAt w b off x) (h2 : RnAt w b2 off2 y) :
    Calls Try.prog 25 #[.pointer (some ⟨b, off, none⟩), .pointer (some ⟨b2, off2, none⟩), .int .i64 0, .int .i64 3] w fun e w' => e = .returned (.int .i64 (lexP x y 0 3)) ∧ ∃ n, w' = w.drewN n := by
  have Q := fun (n : Nat) => Lib.hid ((lex_any b (off + 1 + 0) 9 b2 (off2 + 1 + 0) 9 ((x.keys.drop 0).take 3) ((y.keys.drop 0).take 3) 3 rfl rfl (by omega) (w.drewN n) (((h.2.part 0 3).drewN n)) (((h2.2.part 0 3).drewN n))).mono fun e w' (h : _ ∧ _) => (⟨h.1, h.2.symm⟩ : e = _ ∧ w' = w.drewN n))
  clear h h2
  go_enter Try.func25, Try.ntmps25
  go_wp2_with fail
  go_quiet ((go_at_call 30; exact Calls.quiet_of_same (Q _).out))
  go_wp2_with fail
  go_ret
  exact ⟨rfl, _, rfl⟩
set_option maxHeartbeats 3200000 in
theorem compare39 (b off b2 off2 : Nat) (x y : Rn) (w : World) (h : RnAt w b off x) (h2 : RnAt w b2 off2 y) :
    Calls Try.prog 25 #[.pointer (some ⟨b, off, none⟩), .pointer (some ⟨b2, off2, none⟩), .int .i64 3, .int .i64 9] w fun e w' => e = .returned (.int .i64 (lexP x y 3 9)) ∧ ∃ n, w' = w.drewN n := by
  have Q := fun (n : Nat) => Lib.hid ((lex_any b (off + 1 + 3) 6 b2 (off2 + 1 + 3) 6 ((x.keys.drop 3).take 6) ((y.keys.drop 3).take 6) 6 rfl rfl (by omega) (w.drewN n) (((h.2.part 3 6).drewN n)) (((h2.2.part 3 6).drewN n))).mono fun e w' (h : _ ∧ _) => (⟨h.1, h.2.symm⟩ : e = _ ∧ w' = w.drewN n))
  clear h h2
  go_enter Try.func25, Try.ntmps25
  go_wp2_with fail
  go_quiet ((go_at_call 30; exact Calls.quiet_of_same (Q _).out))
  go_wp2_with fail
  go_ret
  exact ⟨rfl, _, rfl⟩
set_option maxHeartbeats 3200000 in
theorem compare49 (b off b2 off2 : Nat) (x y : Rn) (w : World) (h : RnAt w b off x) (h2 : RnAt w b2 off2 y) :
    Calls Try.prog 25 #[.pointer (some ⟨b, off, none⟩), .pointer (some ⟨b2, off2, none⟩), .int .i64 4, .int .i64 9] w fun e w' => e = .returned (.int .i64 (lexP x y 4 9)) ∧ ∃ n, w' = w.drewN n := by
  have Q := fun (n : Nat) => Lib.hid ((lex_any b (off + 1 + 4) 5 b2 (off2 + 1 + 4) 5 ((x.keys.drop 4).take 5) ((y.keys.drop 4).take 5) 5 rfl rfl (by omega) (w.drewN n) (((h.2.part 4 5).drewN n)) (((h2.2.part 4 5).drewN n))).mono fun e w' (h : _ ∧ _) => (⟨h.1, h.2.symm⟩ : e = _ ∧ w' = w.drewN n))
  clear h h2
  go_enter Try.func25, Try.ntmps25
  go_wp2_with fail
  go_quiet ((go_at_call 30; exact Calls.quiet_of_same (Q _).out))
  go_wp2_with fail
  go_ret
  exact ⟨rfl, _, rfl⟩
set_option maxHeartbeats 3200000 in
theorem compare01 (b off b2 off2 : Nat) (x y : Rn) (w : World) (h : RnAt w b off x) (h2 : RnAt w b2 off2 y) :
    Calls Try.prog 25 #[.pointer (some ⟨b, off, none⟩), .pointer (some ⟨b2, off2, none⟩), .int .i64 0, .int .i64 1] w fun e w' => e = .returned (.int .i64 (lexP x y 0 1)) ∧ ∃ n, w' = w.drewN n := by
  have Q := fun (n : Nat) => Lib.hid ((lex_any b (off + 1 + 0) 9 b2 (off2 + 1 + 0) 9 ((x.keys.drop 0).take 1) ((y.keys.drop 0).take 1) 1 rfl rfl (by omega) (w.drewN n) (((h.2.part 0 1).drewN n)) (((h2.2.part 0 1).drewN n))).mono fun e w' (h : _ ∧ _) => (⟨h.1, h.2.symm⟩ : e = _ ∧ w' = w.drewN n))
  clear h h2
  go_enter Try.func25, Try.ntmps25
  go_wp2_with fail
  go_quiet ((go_at_call 30; exact Calls.quiet_of_same (Q _).out))
  go_wp2_with fail
  go_ret
  exact ⟨rfl, _, rfl⟩
set_option maxHeartbeats 3200000 in
theorem compare12 (b off b2 off2 : Nat) (x y : Rn) (w : World) (h : RnAt w b off x) (h2 : RnAt w b2 off2 y) :
    Calls Try.prog 25 #[.pointer (some ⟨b, off, none⟩), .pointer (some ⟨b2, off2, none⟩), .int .i64 1, .int .i64 2] w fun e w' => e = .returned (.int .i64 (lexP x y 1 2)) ∧ ∃ n, w' = w.drewN n := by
  have Q := fun (n : Nat) => Lib.hid ((lex_any b (off + 1 + 1) 8 b2 (off2 + 1 + 1) 8 ((x.keys.drop 1).take 1) ((y.keys.drop 1).take 1) 1 rfl rfl (by omega) (w.drewN n) (((h.2.part 1 1).drewN n)) (((h2.2.part 1 1).drewN n))).mono fun e w' (h : _ ∧ _) => (⟨h.1, h.2.symm⟩ : e = _ ∧ w' = w.drewN n))
  clear h h2
  go_enter Try.func25, Try.ntmps25
  go_wp2_with fail
  go_quiet ((go_at_call 30; exact Calls.quiet_of_same (Q _).out))
  go_wp2_with fail
  go_ret
  exact ⟨rfl, _, rfl⟩
set_option maxHeartbeats 3200000 in
theorem compare23 (b off b2 off2 : Nat) (x y : Rn) (w : World) (h : RnAt w b off x) (h2 : RnAt w b2 off2 y) :
    Calls Try.prog 25 #[.pointer (some ⟨b, off, none⟩), .pointer (some ⟨b2, off2, none⟩), .int .i64 2, .int .i64 3] w fun e w' => e = .returned (.int .i64 (lexP x y 2 3)) ∧ ∃ n, w' = w.drewN n := by
  have Q := fun (n : Nat) => Lib.hid ((lex_any b (off + 1 + 2) 7 b2 (off2 + 1 + 2) 7 ((x.keys.drop 2).take 1) ((y.keys.drop 2).take 1) 1 rfl rfl (by omega) (w.drewN n) (((h.2.part 2 1).drewN n)) (((h2.2.part 2 1).drewN n))).mono fun e w' (h : _ ∧ _) => (⟨h.1, h.2.symm⟩ : e = _ ∧ w' = w.drewN n))
  clear h h2
  go_enter Try.func25, Try.ntmps25
  go_wp2_with fail
  go_quiet ((go_at_call 30; exact Calls.quiet_of_same (Q _).out))
  go_wp2_with fail
  go_ret
  exact ⟨rfl, _, rfl⟩
set_option maxHeartbeats 3200000 in
theorem compare34 (b off b2 off2 : Nat) (x y : Rn) (w : World) (h : RnAt w b off x) (h2 : RnAt w b2 off2 y) :
    Calls Try.prog 25 #[.pointer (some ⟨b, off, none⟩), .pointer (some ⟨b2, off2, none⟩), .int .i64 3, .int .i64 4] w fun e w' => e = .returned (.int .i64 (lexP x y 3 4)) ∧ ∃ n, w' = w.drewN n := by
  have Q := fun (n : Nat) => Lib.hid ((lex_any b (off + 1 + 3) 6 b2 (off2 + 1 + 3) 6 ((x.keys.drop 3).take 1) ((y.keys.drop 3).take 1) 1 rfl rfl (by omega) (w.drewN n) (((h.2.part 3 1).drewN n)) (((h2.2.part 3 1).drewN n))).mono fun e w' (h : _ ∧ _) => (⟨h.1, h.2.symm⟩ : e = _ ∧ w' = w.drewN n))
  clear h h2
  go_enter Try.func25, Try.ntmps25
  go_wp2_with fail
  go_quiet ((go_at_call 30; exact Calls.quiet_of_same (Q _).out))
  go_wp2_with fail
  go_ret
  exact ⟨rfl, _, rfl⟩
set_option maxHeartbeats 3200000 in
theorem compare45 (b off b2 off2 : Nat) (x y : Rn) (w : World) (h : RnAt w b off x) (h2 : RnAt w b2 off2 y) :
    Calls Try.prog 25 #[.pointer (some ⟨b, off, none⟩), .pointer (some ⟨b2, off2, none⟩), .int .i64 4, .int .i64 5] w fun e w' => e = .returned (.int .i64 (lexP x y 4 5)) ∧ ∃ n, w' = w.drewN n := by
  have Q := fun (n : Nat) => Lib.hid ((lex_any b (off + 1 + 4) 5 b2 (off2 + 1 + 4) 5 ((x.keys.drop 4).take 1) ((y.keys.drop 4).take 1) 1 rfl rfl (by omega) (w.drewN n) (((h.2.part 4 1).drewN n)) (((h2.2.part 4 1).drewN n))).mono fun e w' (h : _ ∧ _) => (⟨h.1, h.2.symm⟩ : e = _ ∧ w' = w.drewN n))
  clear h h2
  go_enter Try.func25, Try.ntmps25
  go_wp2_with fail
  go_quiet ((go_at_call 30; exact Calls.quiet_of_same (Q _).out))
  go_wp2_with fail
  go_ret
  exact ⟨rfl, _, rfl⟩
set_option maxHeartbeats 3200000 in
theorem compare56 (b off b2 off2 : Nat) (x y : Rn) (w : World) (h : RnAt w b off x) (h2 : RnAt w b2 off2 y) :
    Calls Try.prog 25 #[.pointer (some ⟨b, off, none⟩), .pointer (some ⟨b2, off2, none⟩), .int .i64 5, .int .i64 6] w fun e w' => e = .returned (.int .i64 (lexP x y 5 6)) ∧ ∃ n, w' = w.drewN n := by
  have Q := fun (n : Nat) => Lib.hid ((lex_any b (off + 1 + 5) 4 b2 (off2 + 1 + 5) 4 ((x.keys.drop 5).take 1) ((y.keys.drop 5).take 1) 1 rfl rfl (by omega) (w.drewN n) (((h.2.part 5 1).drewN n)) (((h2.2.part 5 1).drewN n))).mono fun e w' (h : _ ∧ _) => (⟨h.1, h.2.symm⟩ : e = _ ∧ w' = w.drewN n))
  clear h h2
  go_enter Try.func25, Try.ntmps25
  go_wp2_with fail
  go_quiet ((go_at_call 30; exact Calls.quiet_of_same (Q _).out))
  go_wp2_with fail
  go_ret
  exact ⟨rfl, _, rfl⟩
set_option maxHeartbeats 3200000 in
theorem compare67 (b off b2 off2 : Nat) (x y : Rn) (w : World) (h : RnAt w b off x) (h2 : RnAt w b2 off2 y) :
    Calls Try.prog 25 #[.pointer (some ⟨b, off, none⟩), .pointer (some ⟨b2, off2, none⟩), .int .i64 6, .int .i64 7] w fun e w' => e = .returned (.int .i64 (lexP x y 6 7)) ∧ ∃ n, w' = w.drewN n := by
  have Q := fun (n : Nat) => Lib.hid ((lex_any b (off + 1 + 6) 3 b2 (off2 + 1 + 6) 3 ((x.keys.drop 6).take 1) ((y.keys.drop 6).take 1) 1 rfl rfl (by omega) (w.drewN n) (((h.2.part 6 1).drewN n)) (((h2.2.part 6 1).drewN n))).mono fun e w' (h : _ ∧ _) => (⟨h.1, h.2.symm⟩ : e = _ ∧ w' = w.drewN n))
  clear h h2
  go_enter Try.func25, Try.ntmps25
  go_wp2_with fail
  go_quiet ((go_at_call 30; exact Calls.quiet_of_same (Q _).out))
  go_wp2_with fail
  go_ret
  exact ⟨rfl, _, rfl⟩
set_option maxHeartbeats 3200000 in
theorem compare78 (b off b2 off2 : Nat) (x y : Rn) (w : World) (h : RnAt w b off x) (h2 : RnAt w b2 off2 y) :
    Calls Try.prog 25 #[.pointer (some ⟨b, off, none⟩), .pointer (some ⟨b2, off2, none⟩), .int .i64 7, .int .i64 8] w fun e w' => e = .returned (.int .i64 (lexP x y 7 8)) ∧ ∃ n, w' = w.drewN n := by
  have Q := fun (n : Nat) => Lib.hid ((lex_any b (off + 1 + 7) 2 b2 (off2 + 1 + 7) 2 ((x.keys.drop 7).take 1) ((y.keys.drop 7).take 1) 1 rfl rfl (by omega) (w.drewN n) (((h.2.part 7 1).drewN n)) (((h2.2.part 7 1).drewN n))).mono fun e w' (h : _ ∧ _) => (⟨h.1, h.2.symm⟩ : e = _ ∧ w' = w.drewN n))
  clear h h2
  go_enter Try.func25, Try.ntmps25
  go_wp2_with fail
  go_quiet ((go_at_call 30; exact Calls.quiet_of_same (Q _).out))
  go_wp2_with fail
  go_ret
  exact ⟨rfl, _, rfl⟩
theorem compareS (b off b2 off2 : Nat) (x y : Rn) (s : Nat) (hs : s < 8) (w : World) (h : RnAt w b off x) (h2 : RnAt w b2 off2 y) :
    Calls Try.prog 25 #[.pointer (some ⟨b, off, none⟩), .pointer (some ⟨b2, off2, none⟩), .int .i64 (s : Int), .int .i64 ((s : Int) + 1)] w fun e w' => e = .returned (.int .i64 (lexP x y s (s + 1))) ∧ ∃ n, w' = w.drewN n := by
  have : s = 0 ∨ s = 1 ∨ s = 2 ∨ s = 3 ∨ s = 4 ∨ s = 5 ∨ s = 6 ∨ s = 7 := by omega
  rcases this with rfl | rfl | rfl | rfl | rfl | rfl | rfl | rfl
  · exact compare01 b off b2 off2 x y w h h2
  · exact compare12 b off b2 off2 x y w h h2
  · exact compare23 b off b2 off2 x y w h h2
  · exact compare34 b off b2 off2 x y w h h2
  · exact compare45 b off b2 off2 x y w h h2
  · exact compare56 b off b2 off2 x y w h h2
  · exact compare67 b off b2 off2 x y w h h2
  · exact compare78 b off b2 off2 x y w h h2
theorem lexP_pre (x y : Rn) : (lexP x y 0 3 = -1 ↔ preLt x y) ∧ (lexP x y 0 3 = 1 ↔ preLt y x) := lex_pre x y
theorem lexP_med (x y : Rn) : lexP x y 3 9 = -1 ↔ medLt x y := lex_med x y
theorem lexP_suf (x y : Rn) : lexP x y 4 9 = -1 ↔ sufLt x y := lex_suf x y
theorem lexP_ways (x y : Rn) (f t : Nat) : lexP x y f t = -1 ∨ lexP x y f t = 0 ∨ lexP x y f t = 1 := lexC_ways _ _
end Go.Proofs.Ytpjhidicgclmbaa

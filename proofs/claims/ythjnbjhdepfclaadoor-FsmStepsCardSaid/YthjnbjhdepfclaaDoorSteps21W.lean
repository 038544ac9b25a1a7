/-
  P21.1: the next state of any state and event, and what is done: the walk.
-/
import Derived.Test.YthjnbjhdepfclaaDoorFault21
namespace Go.Proofs.YthjnbjhdepfclaaDoor.FsmSteps
set_option linter.unusedVariables false
set_option linter.unusedSimpArgs false
open Go.RowKit

set_option maxHeartbeats 3200000 in
theorem walk0 (s e T U : Int) (N : ByteArray) (w : World) (ht : TabF w)
    (h1 : ∀ W, TabF W → Calls Tryd.prog 7 #[.int .i64 s, .int .i64 e] W fun r w' => r = .returned (.tuple #[.int .i64 T, .int .i64 U]) ∧ W = w')
    (h2 : ∀ W, Calls Tryd.prog 8 #[.int .i64 s, .int .i64 e] W fun r w' => r = .returned (.tuple #[.int .i64 T, .int .i64 U]) ∧ Below W.heap.size W w')
    (h3 : ∀ W, TabF W → Calls Tryd.prog 9 #[.int .i64 s] W fun r w' => r = .returned (.string N) ∧ W = w')
    (h4 : ∀ W, Calls Tryd.prog 10 #[.int .i64 s] W fun r w' => r = .returned (.string N) ∧ W = w') :
    Calls Tryd.prog 3 #[.int .i64 s, .int .i64 e] w fun r w' => r = .returned (.bool true) ∧ Below w.heap.size w w' := by
  have Q1 := Lib.hid (h1 w ht)
  have Q2 := Lib.hid h2
  have Q3 := Lib.hid h3
  have Q4 := Lib.hid h4
  have HT := Lib.hid ht
  have hN : (N.toList == N.toList) = true := by simp
  clear h1 h2 h3 h4 ht
  go_enter Tryd.func3, Tryd.ntmps3
  go_wp2_with fail
  refine Q1.out.mono ?_
  rintro r w1 ⟨rfl, rfl⟩
  go_wp2_with fail
  refine (Q2.out _).mono ?_
  rintro r w2 ⟨rfl, hb⟩
  have HB := Lib.hid hb
  have HT2 := Lib.hid (HT.out.go hb)
  clear hb
  go_wp2_with fail
  refine (Q3.out _ HT2.out).mono ?_
  rintro r w3 ⟨rfl, rfl⟩
  go_wp2_with fail
  refine (Q4.out _).mono ?_
  rintro r w3 ⟨rfl, rfl⟩
  go_wp2_with fail
  refine (awake21_any _ HT2.out).mono ?_
  rintro r w4 ⟨rfl, hb⟩
  have HB4 := Lib.hid (HB.out.trans (hb.mono HB.out.size))
  clear hb
  go_wp2_with fail
  go_ret
  exact ⟨rfl, HB4.out⟩
theorem walk (s e : Int) (w : World) (ht : TabF w) : Calls Tryd.prog 3 #[.int .i64 s, .int .i64 e] w fun r w' => r = .returned (.bool true) ∧ Below w.heap.size w w' := by
  by_cases hs : s < 0 ∨ 6 ≤ s
  · exact walk0 s e 0 0 _ w ht (fun W _ => Step_out e s W (by omega)) (fun W => RefStep_out e s W (by omega)) (fun W _ => Name_out s W hs) (fun W => RefName_out s W hs)
  · obtain ⟨n, rfl⟩ := Int.eq_ofNat_of_zero_le (show 0 ≤ s by omega)
    by_cases he : e < 0 ∨ 16 ≤ e
    · exact walk0 _ e 0 0 _ w ht (fun W _ => Step_out e _ W (by omega)) (fun W => RefStep_out e _ W (by omega)) (fun W h => Name_in n W (by omega) h) (fun W => RefName_in n W (by omega))
    · obtain ⟨m, rfl⟩ := Int.eq_ofNat_of_zero_le (show 0 ≤ e by omega)
      exact walk0 _ _ _ _ _ w ht (fun W h => Step_in m n W (by omega) (by omega) h) (fun W => RefStep_in m n W (by omega) (by omega)) (fun W h => Name_in n W (by omega) h) (fun W => RefName_in n W (by omega))
end Go.Proofs.YthjnbjhdepfclaaDoor.FsmSteps

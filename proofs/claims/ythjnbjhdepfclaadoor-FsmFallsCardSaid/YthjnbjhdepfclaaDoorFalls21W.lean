/-
  P21.4: of all states and events: a session falls only from Established, and rises only to it; what sends a NOTIFICATION hangs up: the walk.
-/
import Derived.Test.YthjnbjhdepfclaaDoorFault21
namespace Go.Proofs.YthjnbjhdepfclaaDoor.FsmFalls
set_option linter.unusedVariables false
set_option linter.unusedSimpArgs false
open Go.RowKit

/-- What the statement asks of a step. -/
def stepOk (e s : Nat) : Bool := (decide (deN e s &&& 64 ≠ 0) == (decide (s = 5) && decide (toN e s ≠ 5))) && ((decide (deN e s &&& 32 ≠ 0) == (decide (s ≠ 5) && decide (toN e s = 5))) && (decide (deN e s &&& 16 = 0) || (decide (deN e s &&& 2 ≠ 0) && decide (toN e s = 0)))) && decide (deN e s < 4096)
theorem steps_ok : ((List.range 16).all fun e => (List.range 6).all fun s => stepOk e s) = true := by decide +kernel
theorem step_ok {e s : Nat} (he : e < 16) (hs : s < 6) : ((deN e s &&& 64 ≠ 0) ↔ (s = 5 ∧ toN e s ≠ 5)) ∧ ((deN e s &&& 32 ≠ 0) ↔ (s ≠ 5 ∧ toN e s = 5)) ∧ (deN e s &&& 16 = 0 ∨ (deN e s &&& 2 ≠ 0 ∧ toN e s = 0)) ∧ deN e s < 4096 := by
  have h := List.all_eq_true.1 (List.all_eq_true.1 steps_ok e (List.mem_range.2 he)) s (List.mem_range.2 hs)
  unfold stepOk at h
  generalize deN e s &&& 64 = a at *
  generalize deN e s &&& 32 = b at *
  generalize deN e s &&& 16 = c at *
  generalize deN e s &&& 2 = d at *
  generalize toN e s = t at *
  simp only [Bool.and_eq_true, Bool.or_eq_true, beq_iff_eq, decide_eq_true_eq] at h
  obtain ⟨⟨h1, h2, h3⟩, h4⟩ := h
  refine ⟨?_, ?_, h3, h4⟩
  · rw [← decide_eq_true_iff (p := a ≠ 0), h1]; simp
  · rw [← decide_eq_true_iff (p := b ≠ 0), h2]; simp
def OutRel (w : World) (i : Value) (wr : World) : Prop := w = wr ∧ ∃ s : Nat, s ≤ 6 ∧ i = .int .i64 (s : Int)
def InRel (w : World) (i : Value) (wr : World) : Prop := w = wr ∧ ∃ e : Nat, e ≤ 16 ∧ i = .int .i64 (e : Int)
set_option maxRecDepth 100000 in
set_option maxHeartbeats 25600000 in
theorem walk (w : World) (ht : TabF w) : Calls Tryd.prog 6 #[] w fun r w' => r = .returned (.bool true) ∧ Below w.heap.size w w' := by
  have HT := Lib.hid ht
  clear ht
  go_enter Tryd.func6, Tryd.ntmps6
  go_wp2_with fail
  go_loopw [1] (fun i wr => OutRel w i wr) (fun i _ => 6 - (intOf i).toNat)
  case atStart => exact ⟨rfl, 0, by omega, rfl⟩
  case round =>
    obtain ⟨rfl, s, hs, rfl⟩ := hrel
    by_cases hlt : s < 6
    · have hs6 : (s : Int) < 6 := by omega
      go_wp2_with fail
      go_loopw [2] (fun i wr => InRel w i wr) (fun i _ => 16 - (intOf i).toNat)
      case atStart => exact ⟨rfl, 0, by omega, rfl⟩
      case round =>
        obtain ⟨rfl, e, he, rfl⟩ := hrel
        by_cases hle : e < 16
        · have he6 : (e : Int) < 16 := by omega
          have Q := Lib.hid (Step_in e s w hle hlt HT.out)
          obtain ⟨p1, p2, p3, p4⟩ := step_ok hle hlt
          have q64 := Lib.hid (i64_and_small (deN e s) 64 (by omega) (by omega))
          have q32 := Lib.hid (i64_and_small (deN e s) 32 (by omega) (by omega))
          have q16 := Lib.hid (i64_and_small (deN e s) 16 (by omega) (by omega))
          have q2 := Lib.hid (i64_and_small (deN e s) 2 (by omega) (by omega))
          obtain ⟨a, ha⟩ : ∃ n, n = deN e s &&& 64 := ⟨_, rfl⟩
          obtain ⟨b, hb⟩ : ∃ n, n = deN e s &&& 32 := ⟨_, rfl⟩
          obtain ⟨c, hc⟩ : ∃ n, n = deN e s &&& 16 := ⟨_, rfl⟩
          obtain ⟨d, hd⟩ : ∃ n, n = deN e s &&& 2 := ⟨_, rfl⟩
          rw [← ha] at p1 q64; rw [← hb] at p2 q32; rw [← hc] at p3 q16; rw [← hd] at p3 q2
          obtain ⟨T, hT⟩ : ∃ n, n = toN e s := ⟨_, rfl⟩
          obtain ⟨U, hU⟩ : ∃ n, n = deN e s := ⟨_, rfl⟩
          rw [← hT] at p1 p2 p3 Q
          rw [← hU] at q64 q32 q16 q2 Q
          have b64 : bits BinOp.and IntKind.i64 (U : Int) 64 = (a : Int) := q64.out
          have b32 : bits BinOp.and IntKind.i64 (U : Int) 32 = (b : Int) := q32.out
          have b16 : bits BinOp.and IntKind.i64 (U : Int) 16 = (c : Int) := q16.out
          have b2 : bits BinOp.and IntKind.i64 (U : Int) 2 = (d : Int) := q2.out
          clear ha hb hc hd hT hU q64 q32 q16 q2 p4
          have hle1 : e + 1 ≤ 16 := by omega
          by_cases h5 : s = 5
          · by_cases hT5 : T = 5
            · by_cases h0 : c = 0
              · have f1 : ((s : Int) == 5) = true := by simpa using (show (s : Int) = 5 by omega)
                have f2 : ((s : Int) != 5) = false := by simpa using (show (s : Int) = 5 by omega)
                have f3 : ((T : Int) == 5) = true := by simpa using (show (T : Int) = 5 by omega)
                have f4 : ((T : Int) != 5) = false := by simpa using (show (T : Int) = 5 by omega)
                have f5 : ((a : Int) != 0) = false := by simpa using (show (a : Int) = 0 by omega)
                have f6 : ((b : Int) != 0) = false := by simpa using (show (b : Int) = 0 by omega)
                have f7 : ((c : Int) != 0) = false := by simpa using (show (c : Int) = 0 by omega)
                clear p1 p2 p3 h5 h0 hT5
                go_wp2_with fail
                refine Q.out.mono ?_
                rintro r w1 ⟨rfl, rfl⟩
                go_wp2_with fail
                go_roundw
                case rel => exact ⟨rfl, e + 1, hle1, by go_num⟩
                case measure => simp [intOf]; omega
              · exact absurd (p3.resolve_left h0).2 (by omega)
            · by_cases h0 : c = 0
              · have f1 : ((s : Int) == 5) = true := by simpa using (show (s : Int) = 5 by omega)
                have f2 : ((s : Int) != 5) = false := by simpa using (show (s : Int) = 5 by omega)
                have f3 : ((T : Int) == 5) = false := by simpa using (show ¬ (T : Int) = 5 by omega)
                have f4 : ((T : Int) != 5) = true := by simpa using (show ¬ (T : Int) = 5 by omega)
                have f5 : ((a : Int) != 0) = true := by simpa using (show ¬ (a : Int) = 0 by omega)
                have f6 : ((b : Int) != 0) = false := by simpa using (show (b : Int) = 0 by omega)
                have f7 : ((c : Int) != 0) = false := by simpa using (show (c : Int) = 0 by omega)
                clear p1 p2 p3 h5 h0 hT5
                go_wp2_with fail
                refine Q.out.mono ?_
                rintro r w1 ⟨rfl, rfl⟩
                go_wp2_with fail
                go_roundw
                case rel => exact ⟨rfl, e + 1, hle1, by go_num⟩
                case measure => simp [intOf]; omega
              · have f1 : ((s : Int) == 5) = true := by simpa using (show (s : Int) = 5 by omega)
                have f2 : ((s : Int) != 5) = false := by simpa using (show (s : Int) = 5 by omega)
                have f3 : ((T : Int) == 5) = false := by simpa using (show ¬ (T : Int) = 5 by omega)
                have f4 : ((T : Int) != 5) = true := by simpa using (show ¬ (T : Int) = 5 by omega)
                have f5 : ((a : Int) != 0) = true := by simpa using (show ¬ (a : Int) = 0 by omega)
                have f6 : ((b : Int) != 0) = false := by simpa using (show (b : Int) = 0 by omega)
                have f7 : ((c : Int) != 0) = true := by simpa using (show ¬ (c : Int) = 0 by omega)
                have f8 : ((d : Int) == 0) = false := by simpa using (show ¬ (d : Int) = 0 by omega)
                have f9 : ((T : Int) != 0) = false := by simpa using (show (T : Int) = 0 by omega)
                clear p1 p2 p3 h5 h0 hT5
                go_wp2_with fail
                refine Q.out.mono ?_
                rintro r w1 ⟨rfl, rfl⟩
                go_wp2_with fail
                go_roundw
                case rel => exact ⟨rfl, e + 1, hle1, by go_num⟩
                case measure => simp [intOf]; omega
          · by_cases hT5 : T = 5
            · by_cases h0 : c = 0
              · have f1 : ((s : Int) == 5) = false := by simpa using (show ¬ (s : Int) = 5 by omega)
                have f2 : ((s : Int) != 5) = true := by simpa using (show ¬ (s : Int) = 5 by omega)
                have f3 : ((T : Int) == 5) = true := by simpa using (show (T : Int) = 5 by omega)
                have f4 : ((T : Int) != 5) = false := by simpa using (show (T : Int) = 5 by omega)
                have f5 : ((a : Int) != 0) = false := by simpa using (show (a : Int) = 0 by omega)
                have f6 : ((b : Int) != 0) = true := by simpa using (show ¬ (b : Int) = 0 by omega)
                have f7 : ((c : Int) != 0) = false := by simpa using (show (c : Int) = 0 by omega)
                clear p1 p2 p3 h5 h0 hT5
                go_wp2_with fail
                refine Q.out.mono ?_
                rintro r w1 ⟨rfl, rfl⟩
                go_wp2_with fail
                go_roundw
                case rel => exact ⟨rfl, e + 1, hle1, by go_num⟩
                case measure => simp [intOf]; omega
              · exact absurd (p3.resolve_left h0).2 (by omega)
            · by_cases h0 : c = 0
              · have f1 : ((s : Int) == 5) = false := by simpa using (show ¬ (s : Int) = 5 by omega)
                have f2 : ((s : Int) != 5) = true := by simpa using (show ¬ (s : Int) = 5 by omega)
                have f3 : ((T : Int) == 5) = false := by simpa using (show ¬ (T : Int) = 5 by omega)
                have f4 : ((T : Int) != 5) = true := by simpa using (show ¬ (T : Int) = 5 by omega)
                have f5 : ((a : Int) != 0) = false := by simpa using (show (a : Int) = 0 by omega)
                have f6 : ((b : Int) != 0) = false := by simpa using (show (b : Int) = 0 by omega)
                have f7 : ((c : Int) != 0) = false := by simpa using (show (c : Int) = 0 by omega)
                clear p1 p2 p3 h5 h0 hT5
                go_wp2_with fail
                refine Q.out.mono ?_
                rintro r w1 ⟨rfl, rfl⟩
                go_wp2_with fail
                go_roundw
                case rel => exact ⟨rfl, e + 1, hle1, by go_num⟩
                case measure => simp [intOf]; omega
              · have f1 : ((s : Int) == 5) = false := by simpa using (show ¬ (s : Int) = 5 by omega)
                have f2 : ((s : Int) != 5) = true := by simpa using (show ¬ (s : Int) = 5 by omega)
                have f3 : ((T : Int) == 5) = false := by simpa using (show ¬ (T : Int) = 5 by omega)
                have f4 : ((T : Int) != 5) = true := by simpa using (show ¬ (T : Int) = 5 by omega)
                have f5 : ((a : Int) != 0) = false := by simpa using (show (a : Int) = 0 by omega)
                have f6 : ((b : Int) != 0) = false := by simpa using (show (b : Int) = 0 by omega)
                have f7 : ((c : Int) != 0) = true := by simpa using (show ¬ (c : Int) = 0 by omega)
                have f8 : ((d : Int) == 0) = false := by simpa using (show ¬ (d : Int) = 0 by omega)
                have f9 : ((T : Int) != 0) = false := by simpa using (show (T : Int) = 0 by omega)
                clear p1 p2 p3 h5 h0 hT5
                go_wp2_with fail
                refine Q.out.mono ?_
                rintro r w1 ⟨rfl, rfl⟩
                go_wp2_with fail
                go_roundw
                case rel => exact ⟨rfl, e + 1, hle1, by go_num⟩
                case measure => simp [intOf]; omega
        · have he16 : ¬ (e : Int) < 16 := by omega
          have hs1 : s + 1 ≤ 6 := by omega
          go_wp2_with fail
          go_roundw
          case rel => exact ⟨rfl, s + 1, hs1, by go_num⟩
          case measure => simp [intOf]; omega
    · have hs6 : ¬ (s : Int) < 6 := by omega
      have QW := Lib.hid (awake21_any w HT.out)
      go_wp2_with fail
      refine QW.out.mono ?_
      rintro r w2 ⟨rfl, hb2⟩
      have HB2 := Lib.hid hb2
      clear hb2
      go_wp2_with fail
      go_ret
      exact ⟨rfl, HB2.out⟩
end Go.Proofs.YthjnbjhdepfclaaDoor.FsmFalls

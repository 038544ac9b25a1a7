/-
  P13.2: of which kind any value is, and what it is as each (written by gen13k.py).
-/
import Derived.Test.YtpimnbalffaliaaDoorAwake13
namespace Go.Proofs.YtpimnbalffaliaaDoor
set_option linter.unusedVariables false
set_option linter.unusedSimpArgs false
open Go.RowKit Go.Lib

/-- The value of a kind. -/
def dynOf (k : Int) (s : List UInt8) (n : Int) : Dyn := if k = 1 then .word s else if k = 2 then .num n else if k = 3 then .quoted s else if k = 4 then .text s else if k = 5 then .int n else .nil
set_option maxHeartbeats 1600000 in
theorem lawvalue_any (k : Int) (s : List UInt8) (n : Int) (w : World) : Calls Tryd.prog 15 #[.int .i64 k, .string ⟨s.toArray⟩, .int .i64 n] w fun e w' => e = .returned (dynOf k s n).val ∧ w = w' := by
  by_cases h1 : k = 1
  · subst h1
    have e : dynOf 1 s n = .word s := rfl
    rw [e]
    unfold Dyn.val
    clear e
    go_enter Tryd.func15, Tryd.ntmps15
    go_wp2_with fail
    go_ret
    exact ⟨rfl, rfl⟩
  by_cases h2 : k = 2
  · subst h2
    have e : dynOf 2 s n = .num n := rfl
    rw [e]
    unfold Dyn.val
    clear e
    go_enter Tryd.func15, Tryd.ntmps15
    go_wp2_with fail
    go_ret
    exact ⟨rfl, rfl⟩
  by_cases h3 : k = 3
  · subst h3
    have e : dynOf 3 s n = .quoted s := rfl
    rw [e]
    unfold Dyn.val
    clear e
    go_enter Tryd.func15, Tryd.ntmps15
    go_wp2_with fail
    go_ret
    exact ⟨rfl, rfl⟩
  by_cases h4 : k = 4
  · subst h4
    have e : dynOf 4 s n = .text s := rfl
    rw [e]
    unfold Dyn.val
    clear e
    go_enter Tryd.func15, Tryd.ntmps15
    go_wp2_with fail
    go_ret
    exact ⟨rfl, rfl⟩
  by_cases h5 : k = 5
  · subst h5
    have e : dynOf 5 s n = .int n := rfl
    rw [e]
    unfold Dyn.val
    clear e
    go_enter Tryd.func15, Tryd.ntmps15
    go_wp2_with fail
    go_ret
    exact ⟨rfl, rfl⟩
  have e : dynOf k s n = .nil := by unfold dynOf; simp [h1, h2, h3, h4, h5]
  rw [e]
  unfold Dyn.val
  have z1 : (k == 1) = false := by simp [h1]
  have z2 : (k == 2) = false := by simp [h2]
  have z3 : (k == 3) = false := by simp [h3]
  have z4 : (k == 4) = false := by simp [h4]
  have z5 : (k == 5) = false := by simp [h5]
  clear e h1 h2 h3 h4 h5
  go_enter Tryd.func15, Tryd.ntmps15
  go_wp2_with fail
  go_ret
  exact ⟨rfl, rfl⟩

set_option maxHeartbeats 1600000 in
theorem kinds_long (k : Int) (s : List UInt8) (n : Int) (w : World) (hl : 500 < s.length) (hu : UTab w) (ht : Tab w) :
    Calls Tryd.prog 5 #[.int .i64 k, .string ⟨s.toArray⟩, .int .i64 n] w fun e w' => e = .returned (.bool true) ∧ Below w.heap.size w w' := by
  have hl2 : (500 : Int) < (s.length : Int) := by omega
  have Q := Lib.hid (awake13_any w hu ht)
  clear hl hu ht
  go_enter Tryd.func5, Tryd.ntmps5
  go_wp2_with fail
  refine Q.out.mono ?_
  rintro e w1 ⟨rfl, hb⟩
  go_wp2_with fail
  go_ret
  exact ⟨rfl, hb⟩
set_option maxRecDepth 100000 in
set_option maxHeartbeats 6400000 in
theorem kinds_1 (s : List UInt8) (n : Int) (w : World) (hl : ¬ 500 < s.length) (hu : UTab w) (ht : Tab w) :
    Calls Tryd.prog 5 #[.int .i64 1, .string ⟨s.toArray⟩, .int .i64 n] w fun e w' => e = .returned (.bool true) ∧ Below w.heap.size w w' := by
  have hl2 : ¬ (500 : Int) < (s.length : Int) := by omega
  have q0 := lawvalue_any 1 s n w
  have ed : dynOf 1 s n = .word s := rfl
  rw [ed] at q0
  have q1 := AsWord_any (.word s) w
  have q2 := AsNum_any (.word s) w
  have q3 := AsQuoted_any (.word s) w
  have q4 := Kind_any (.word s) w
  simp only [Dyn.asWord, Dyn.asNum, Dyn.asQuoted, Dyn.tok] at q1 q2 q3 q4
  have kd : ((.word s) : Dyn).val = ((.word s) : Dyn).val := rfl
  have q5 := fun w => Lib.hid (MustWord_any s w)
  obtain ⟨V, hV⟩ : ∃ V, V = ((.word s) : Dyn).val := ⟨_, rfl⟩
  rw [← hV] at q0 q1 q2 q3 q4
  simp only [← hV] at q5
  have Q0 := Lib.hid q0; have Q1 := Lib.hid q1; have Q2 := Lib.hid q2; have Q3 := Lib.hid q3; have Q4 := Lib.hid q4
  have HU := Lib.hid (fun (w' : World) (hb : Below w.heap.size w w') => hu.below hb)
  have HT := Lib.hid (fun (w' : World) (hb : Below w.heap.size w w') => ht.below hb ht.lt)
  clear q0 q1 q2 q3 q4 hV ed kd hu ht hl
  go_enter Tryd.func5, Tryd.ntmps5
  go_wp2_with fail
  refine Q0.out.mono ?_
  rintro e w1 ⟨rfl, rfl⟩
  go_wp2_with fail
  refine Q1.out.mono ?_
  rintro e w1 ⟨rfl, rfl⟩
  go_wp2_with fail
  refine Q2.out.mono ?_
  rintro e w1 ⟨rfl, rfl⟩
  go_wp2_with fail
  refine Q3.out.mono ?_
  rintro e w1 ⟨rfl, rfl⟩
  go_wp2_with fail
  refine Q4.out.mono ?_
  rintro e w1 ⟨rfl, hb⟩
  go_wp2_with fail
  refine (q5 _).out.mono ?_
  rintro e w2 ⟨rfl, rfl⟩
  have Q6 := Lib.hid (awake13_any w1 (HU.out _ hb) (HT.out _ hb))
  go_wp2_with fail
  refine Q6.out.mono ?_
  rintro e w3 ⟨rfl, hb3⟩
  go_wp2_with fail
  go_ret
  exact ⟨rfl, hb.trans (hb3.mono hb.size)⟩
set_option maxRecDepth 100000 in
set_option maxHeartbeats 6400000 in
theorem kinds_2 (s : List UInt8) (n : Int) (w : World) (hl : ¬ 500 < s.length) (hu : UTab w) (ht : Tab w) :
    Calls Tryd.prog 5 #[.int .i64 2, .string ⟨s.toArray⟩, .int .i64 n] w fun e w' => e = .returned (.bool true) ∧ Below w.heap.size w w' := by
  have hl2 : ¬ (500 : Int) < (s.length : Int) := by omega
  have q0 := lawvalue_any 2 s n w
  have ed : dynOf 2 s n = .num n := rfl
  rw [ed] at q0
  have q1 := AsWord_any (.num n) w
  have q2 := AsNum_any (.num n) w
  have q3 := AsQuoted_any (.num n) w
  have q4 := Kind_any (.num n) w
  simp only [Dyn.asWord, Dyn.asNum, Dyn.asQuoted, Dyn.tok] at q1 q2 q3 q4
  have kd : ((.num n) : Dyn).val = ((.num n) : Dyn).val := rfl
  have q5 := fun w => Lib.hid (MustNum_any n w)
  obtain ⟨V, hV⟩ : ∃ V, V = ((.num n) : Dyn).val := ⟨_, rfl⟩
  rw [← hV] at q0 q1 q2 q3 q4
  simp only [← hV] at q5
  have Q0 := Lib.hid q0; have Q1 := Lib.hid q1; have Q2 := Lib.hid q2; have Q3 := Lib.hid q3; have Q4 := Lib.hid q4
  have HU := Lib.hid (fun (w' : World) (hb : Below w.heap.size w w') => hu.below hb)
  have HT := Lib.hid (fun (w' : World) (hb : Below w.heap.size w w') => ht.below hb ht.lt)
  clear q0 q1 q2 q3 q4 hV ed kd hu ht hl
  go_enter Tryd.func5, Tryd.ntmps5
  go_wp2_with fail
  refine Q0.out.mono ?_
  rintro e w1 ⟨rfl, rfl⟩
  go_wp2_with fail
  refine Q1.out.mono ?_
  rintro e w1 ⟨rfl, rfl⟩
  go_wp2_with fail
  refine Q2.out.mono ?_
  rintro e w1 ⟨rfl, rfl⟩
  go_wp2_with fail
  refine Q3.out.mono ?_
  rintro e w1 ⟨rfl, rfl⟩
  go_wp2_with fail
  refine Q4.out.mono ?_
  rintro e w1 ⟨rfl, hb⟩
  go_wp2_with fail
  refine (q5 _).out.mono ?_
  rintro e w2 ⟨rfl, rfl⟩
  have Q6 := Lib.hid (awake13_any w1 (HU.out _ hb) (HT.out _ hb))
  go_wp2_with fail
  refine Q6.out.mono ?_
  rintro e w3 ⟨rfl, hb3⟩
  go_wp2_with fail
  go_ret
  exact ⟨rfl, hb.trans (hb3.mono hb.size)⟩
set_option maxRecDepth 100000 in
set_option maxHeartbeats 6400000 in
theorem kinds_3 (s : List UInt8) (n : Int) (w : World) (hl : ¬ 500 < s.length) (hu : UTab w) (ht : Tab w) :
    Calls Tryd.prog 5 #[.int .i64 3, .string ⟨s.toArray⟩, .int .i64 n] w fun e w' => e = .returned (.bool true) ∧ Below w.heap.size w w' := by
  have hl2 : ¬ (500 : Int) < (s.length : Int) := by omega
  have q0 := lawvalue_any 3 s n w
  have ed : dynOf 3 s n = .quoted s := rfl
  rw [ed] at q0
  have q1 := AsWord_any (.quoted s) w
  have q2 := AsNum_any (.quoted s) w
  have q3 := AsQuoted_any (.quoted s) w
  have q4 := Kind_any (.quoted s) w
  simp only [Dyn.asWord, Dyn.asNum, Dyn.asQuoted, Dyn.tok] at q1 q2 q3 q4
  have kd : ((.quoted s) : Dyn).val = ((.quoted s) : Dyn).val := rfl
  obtain ⟨V, hV⟩ : ∃ V, V = ((.quoted s) : Dyn).val := ⟨_, rfl⟩
  rw [← hV] at q0 q1 q2 q3 q4
  have Q0 := Lib.hid q0; have Q1 := Lib.hid q1; have Q2 := Lib.hid q2; have Q3 := Lib.hid q3; have Q4 := Lib.hid q4
  have HU := Lib.hid (fun (w' : World) (hb : Below w.heap.size w w') => hu.below hb)
  have HT := Lib.hid (fun (w' : World) (hb : Below w.heap.size w w') => ht.below hb ht.lt)
  clear q0 q1 q2 q3 q4 hV ed kd hu ht hl
  go_enter Tryd.func5, Tryd.ntmps5
  go_wp2_with fail
  refine Q0.out.mono ?_
  rintro e w1 ⟨rfl, rfl⟩
  go_wp2_with fail
  refine Q1.out.mono ?_
  rintro e w1 ⟨rfl, rfl⟩
  go_wp2_with fail
  refine Q2.out.mono ?_
  rintro e w1 ⟨rfl, rfl⟩
  go_wp2_with fail
  refine Q3.out.mono ?_
  rintro e w1 ⟨rfl, rfl⟩
  go_wp2_with fail
  refine Q4.out.mono ?_
  rintro e w1 ⟨rfl, hb⟩
  have Q6 := Lib.hid (awake13_any w1 (HU.out _ hb) (HT.out _ hb))
  go_wp2_with fail
  refine Q6.out.mono ?_
  rintro e w3 ⟨rfl, hb3⟩
  go_wp2_with fail
  go_ret
  exact ⟨rfl, hb.trans (hb3.mono hb.size)⟩
set_option maxRecDepth 100000 in
set_option maxHeartbeats 6400000 in
theorem kinds_4 (s : List UInt8) (n : Int) (w : World) (hl : ¬ 500 < s.length) (hu : UTab w) (ht : Tab w) :
    Calls Tryd.prog 5 #[.int .i64 4, .string ⟨s.toArray⟩, .int .i64 n] w fun e w' => e = .returned (.bool true) ∧ Below w.heap.size w w' := by
  have hl2 : ¬ (500 : Int) < (s.length : Int) := by omega
  have q0 := lawvalue_any 4 s n w
  have ed : dynOf 4 s n = .text s := rfl
  rw [ed] at q0
  have q1 := AsWord_any (.text s) w
  have q2 := AsNum_any (.text s) w
  have q3 := AsQuoted_any (.text s) w
  have q4 := Kind_any (.text s) w
  simp only [Dyn.asWord, Dyn.asNum, Dyn.asQuoted, Dyn.tok] at q1 q2 q3 q4
  have kd : ((.text s) : Dyn).val = ((.text s) : Dyn).val := rfl
  obtain ⟨V, hV⟩ : ∃ V, V = ((.text s) : Dyn).val := ⟨_, rfl⟩
  rw [← hV] at q0 q1 q2 q3 q4
  have Q0 := Lib.hid q0; have Q1 := Lib.hid q1; have Q2 := Lib.hid q2; have Q3 := Lib.hid q3; have Q4 := Lib.hid q4
  have HU := Lib.hid (fun (w' : World) (hb : Below w.heap.size w w') => hu.below hb)
  have HT := Lib.hid (fun (w' : World) (hb : Below w.heap.size w w') => ht.below hb ht.lt)
  clear q0 q1 q2 q3 q4 hV ed kd hu ht hl
  go_enter Tryd.func5, Tryd.ntmps5
  go_wp2_with fail
  refine Q0.out.mono ?_
  rintro e w1 ⟨rfl, rfl⟩
  go_wp2_with fail
  refine Q1.out.mono ?_
  rintro e w1 ⟨rfl, rfl⟩
  go_wp2_with fail
  refine Q2.out.mono ?_
  rintro e w1 ⟨rfl, rfl⟩
  go_wp2_with fail
  refine Q3.out.mono ?_
  rintro e w1 ⟨rfl, rfl⟩
  go_wp2_with fail
  refine Q4.out.mono ?_
  rintro e w1 ⟨rfl, hb⟩
  have Q6 := Lib.hid (awake13_any w1 (HU.out _ hb) (HT.out _ hb))
  go_wp2_with fail
  refine Q6.out.mono ?_
  rintro e w3 ⟨rfl, hb3⟩
  go_wp2_with fail
  go_ret
  exact ⟨rfl, hb.trans (hb3.mono hb.size)⟩
set_option maxRecDepth 100000 in
set_option maxHeartbeats 6400000 in
theorem kinds_5 (s : List UInt8) (n : Int) (w : World) (hl : ¬ 500 < s.length) (hu : UTab w) (ht : Tab w) :
    Calls Tryd.prog 5 #[.int .i64 5, .string ⟨s.toArray⟩, .int .i64 n] w fun e w' => e = .returned (.bool true) ∧ Below w.heap.size w w' := by
  have hl2 : ¬ (500 : Int) < (s.length : Int) := by omega
  have q0 := lawvalue_any 5 s n w
  have ed : dynOf 5 s n = .int n := rfl
  rw [ed] at q0
  have q1 := AsWord_any (.int n) w
  have q2 := AsNum_any (.int n) w
  have q3 := AsQuoted_any (.int n) w
  have q4 := Kind_any (.int n) w
  simp only [Dyn.asWord, Dyn.asNum, Dyn.asQuoted, Dyn.tok] at q1 q2 q3 q4
  have kd : ((.int n) : Dyn).val = ((.int n) : Dyn).val := rfl
  obtain ⟨V, hV⟩ : ∃ V, V = ((.int n) : Dyn).val := ⟨_, rfl⟩
  rw [← hV] at q0 q1 q2 q3 q4
  have Q0 := Lib.hid q0; have Q1 := Lib.hid q1; have Q2 := Lib.hid q2; have Q3 := Lib.hid q3; have Q4 := Lib.hid q4
  have HU := Lib.hid (fun (w' : World) (hb : Below w.heap.size w w') => hu.below hb)
  have HT := Lib.hid (fun (w' : World) (hb : Below w.heap.size w w') => ht.below hb ht.lt)
  clear q0 q1 q2 q3 q4 hV ed kd hu ht hl
  go_enter Tryd.func5, Tryd.ntmps5
  go_wp2_with fail
  refine Q0.out.mono ?_
  rintro e w1 ⟨rfl, rfl⟩
  go_wp2_with fail
  refine Q1.out.mono ?_
  rintro e w1 ⟨rfl, rfl⟩
  go_wp2_with fail
  refine Q2.out.mono ?_
  rintro e w1 ⟨rfl, rfl⟩
  go_wp2_with fail
  refine Q3.out.mono ?_
  rintro e w1 ⟨rfl, rfl⟩
  go_wp2_with fail
  refine Q4.out.mono ?_
  rintro e w1 ⟨rfl, hb⟩
  have Q6 := Lib.hid (awake13_any w1 (HU.out _ hb) (HT.out _ hb))
  go_wp2_with fail
  refine Q6.out.mono ?_
  rintro e w3 ⟨rfl, hb3⟩
  go_wp2_with fail
  go_ret
  exact ⟨rfl, hb.trans (hb3.mono hb.size)⟩
set_option maxRecDepth 100000 in
set_option maxHeartbeats 6400000 in
theorem kinds_low (k : Int) (s : List UInt8) (n : Int) (w : World) (hl : ¬ 500 < s.length) (hu : UTab w) (ht : Tab w) (hk : k < 1) :
    Calls Tryd.prog 5 #[.int .i64 k, .string ⟨s.toArray⟩, .int .i64 n] w fun e w' => e = .returned (.bool true) ∧ Below w.heap.size w w' := by
  have hl2 : ¬ (500 : Int) < (s.length : Int) := by omega
  have q0 := lawvalue_any k s n w
  have ed : dynOf k s n = .nil := by unfold dynOf; rw [if_neg (by omega), if_neg (by omega), if_neg (by omega), if_neg (by omega), if_neg (by omega)]
  rw [ed] at q0
  have q1 := AsWord_any (.nil) w
  have q2 := AsNum_any (.nil) w
  have q3 := AsQuoted_any (.nil) w
  have q4 := Kind_any (.nil) w
  simp only [Dyn.asWord, Dyn.asNum, Dyn.asQuoted, Dyn.tok] at q1 q2 q3 q4
  have kd : ((.nil) : Dyn).val = ((.nil) : Dyn).val := rfl
  obtain ⟨V, hV⟩ : ∃ V, V = ((.nil) : Dyn).val := ⟨_, rfl⟩
  rw [← hV] at q0 q1 q2 q3 q4
  have Q0 := Lib.hid q0; have Q1 := Lib.hid q1; have Q2 := Lib.hid q2; have Q3 := Lib.hid q3; have Q4 := Lib.hid q4
  have HU := Lib.hid (fun (w' : World) (hb : Below w.heap.size w w') => hu.below hb)
  have HT := Lib.hid (fun (w' : World) (hb : Below w.heap.size w w') => ht.below hb ht.lt)
  have f1 : k < 1 := hk
  clear hk
  clear q0 q1 q2 q3 q4 hV ed kd hu ht hl
  go_enter Tryd.func5, Tryd.ntmps5
  go_wp2_with fail
  refine Q0.out.mono ?_
  rintro e w1 ⟨rfl, rfl⟩
  go_wp2_with fail
  refine Q1.out.mono ?_
  rintro e w1 ⟨rfl, rfl⟩
  go_wp2_with fail
  refine Q2.out.mono ?_
  rintro e w1 ⟨rfl, rfl⟩
  go_wp2_with fail
  refine Q3.out.mono ?_
  rintro e w1 ⟨rfl, rfl⟩
  go_wp2_with fail
  refine Q4.out.mono ?_
  rintro e w1 ⟨rfl, hb⟩
  have Q6 := Lib.hid (awake13_any w1 (HU.out _ hb) (HT.out _ hb))
  go_wp2_with fail
  refine Q6.out.mono ?_
  rintro e w3 ⟨rfl, hb3⟩
  go_wp2_with fail
  go_ret
  exact ⟨rfl, hb.trans (hb3.mono hb.size)⟩
set_option maxRecDepth 100000 in
set_option maxHeartbeats 6400000 in
theorem kinds_high (k : Int) (s : List UInt8) (n : Int) (w : World) (hl : ¬ 500 < s.length) (hu : UTab w) (ht : Tab w) (hk : 5 < k) :
    Calls Tryd.prog 5 #[.int .i64 k, .string ⟨s.toArray⟩, .int .i64 n] w fun e w' => e = .returned (.bool true) ∧ Below w.heap.size w w' := by
  have hl2 : ¬ (500 : Int) < (s.length : Int) := by omega
  have q0 := lawvalue_any k s n w
  have ed : dynOf k s n = .nil := by unfold dynOf; rw [if_neg (by omega), if_neg (by omega), if_neg (by omega), if_neg (by omega), if_neg (by omega)]
  rw [ed] at q0
  have q1 := AsWord_any (.nil) w
  have q2 := AsNum_any (.nil) w
  have q3 := AsQuoted_any (.nil) w
  have q4 := Kind_any (.nil) w
  simp only [Dyn.asWord, Dyn.asNum, Dyn.asQuoted, Dyn.tok] at q1 q2 q3 q4
  have kd : ((.nil) : Dyn).val = ((.nil) : Dyn).val := rfl
  obtain ⟨V, hV⟩ : ∃ V, V = ((.nil) : Dyn).val := ⟨_, rfl⟩
  rw [← hV] at q0 q1 q2 q3 q4
  have Q0 := Lib.hid q0; have Q1 := Lib.hid q1; have Q2 := Lib.hid q2; have Q3 := Lib.hid q3; have Q4 := Lib.hid q4
  have HU := Lib.hid (fun (w' : World) (hb : Below w.heap.size w w') => hu.below hb)
  have HT := Lib.hid (fun (w' : World) (hb : Below w.heap.size w w') => ht.below hb ht.lt)
  have f1 : ¬ k < 1 := by omega
  have f2 : 3 < k := by omega
  clear hk
  clear q0 q1 q2 q3 q4 hV ed kd hu ht hl
  go_enter Tryd.func5, Tryd.ntmps5
  go_wp2_with fail
  refine Q0.out.mono ?_
  rintro e w1 ⟨rfl, rfl⟩
  go_wp2_with fail
  refine Q1.out.mono ?_
  rintro e w1 ⟨rfl, rfl⟩
  go_wp2_with fail
  refine Q2.out.mono ?_
  rintro e w1 ⟨rfl, rfl⟩
  go_wp2_with fail
  refine Q3.out.mono ?_
  rintro e w1 ⟨rfl, rfl⟩
  go_wp2_with fail
  refine Q4.out.mono ?_
  rintro e w1 ⟨rfl, hb⟩
  have Q6 := Lib.hid (awake13_any w1 (HU.out _ hb) (HT.out _ hb))
  go_wp2_with fail
  refine Q6.out.mono ?_
  rintro e w3 ⟨rfl, hb3⟩
  go_wp2_with fail
  go_ret
  exact ⟨rfl, hb.trans (hb3.mono hb.size)⟩
theorem kinds_walk (k : Int) (s : List UInt8) (n : Int) (w : World) (hm : s.length ≤ maxLen) (hu : UTab w) (ht : Tab w) :
    Calls Tryd.prog 5 #[.int .i64 k, .string ⟨s.toArray⟩, .int .i64 n] w fun e w' => e = .returned (.bool true) ∧ Below w.heap.size w w' := by
  by_cases hl : 500 < s.length
  · exact kinds_long k s n w hl hu ht
  · rcases (show k < 1 ∨ k = 1 ∨ k = 2 ∨ k = 3 ∨ k = 4 ∨ k = 5 ∨ 5 < k by omega) with h | rfl | rfl | rfl | rfl | rfl | h
    · exact kinds_low k s n w hl hu ht h
    · exact kinds_1 s n w hl hu ht
    · exact kinds_2 s n w hl hu ht
    · exact kinds_3 s n w hl hu ht
    · exact kinds_4 s n w hl hu ht
    · exact kinds_5 s n w hl hu ht
    · exact kinds_high k s n w hl hu ht h
end Go.Proofs.YtpimnbalffaliaaDoor

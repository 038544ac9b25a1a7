/-
  Values of words: what they are told as, and what they are by an assertion (written by gen13v.py).
-/
import Derived.Test.YtpimnbalffaliaaDoorSeat
import Derived.Test.YtpimnbalffaliaaDoorScan13
import Derived.Test.YtpimnbalffaliaaDoorInt
import Derived.WalkSpells
import Derived.WalkLawsBesides
namespace Go.Proofs.YtpimnbalffaliaaDoor
set_option linter.unusedVariables false
set_option linter.unusedSimpArgs false
open Go.RowKit

/-- A value that a caller may ask of: a word, a number, a quoted one, a text, an int, nil. -/
inductive Dyn where
  | word (s : List UInt8)
  | num (n : Int)
  | quoted (s : List UInt8)
  | text (s : List UInt8)
  | int (n : Int)
  | nil
def Dyn.val : Dyn → Value
  | .word s => .iface 52 (.string ⟨s.toArray⟩)
  | .num n => .iface 53 (.int .i64 n)
  | .quoted s => .iface 54 (.string ⟨s.toArray⟩)
  | .text s => .iface 9 (.string ⟨s.toArray⟩)
  | .int n => .iface 3 (.int .i64 n)
  | .nil => .nilIface
def Dyn.tok : Dyn → Tok
  | .word s => ⟨1, s, 0⟩
  | .num n => ⟨2, [], n⟩
  | .quoted s => ⟨3, s, 0⟩
  | _ => ⟨0, [], 0⟩
def Tok.three (t : Tok) : List Value := [.int .i64 (t.kind : Int), .string ⟨t.text.toArray⟩, .int .i64 t.num]
def Tok.val (t : Tok) : Value := .agg #[.int .i64 (t.kind : Int), .string ⟨t.text.toArray⟩, .int .i64 t.num]
/-- What a scanned word is as a value. -/
def Tok.dyn (t : Tok) : Dyn := if t.kind = 1 then .word t.text else if t.kind = 2 then .num t.num else .quoted t.text

theorem asWord_word (v : Value) (w : World) : (Instr.typeAssert (.iface 52 v) 20 52 true).run Tryd.prog w = .ok (.tuple #[v, .bool true]) w := by kernel_rfl
theorem asWord_num (v : Value) (w : World) : (Instr.typeAssert (.iface 53 v) 20 52 true).run Tryd.prog w = .ok (.tuple #[.string ⟨#[]⟩, .bool false]) w := by kernel_rfl
theorem asWord_quoted (v : Value) (w : World) : (Instr.typeAssert (.iface 54 v) 20 52 true).run Tryd.prog w = .ok (.tuple #[.string ⟨#[]⟩, .bool false]) w := by kernel_rfl
theorem asWord_text (v : Value) (w : World) : (Instr.typeAssert (.iface 9 v) 20 52 true).run Tryd.prog w = .ok (.tuple #[.string ⟨#[]⟩, .bool false]) w := by kernel_rfl
theorem asWord_int (v : Value) (w : World) : (Instr.typeAssert (.iface 3 v) 20 52 true).run Tryd.prog w = .ok (.tuple #[.string ⟨#[]⟩, .bool false]) w := by kernel_rfl
theorem asWord_nil (w : World) : (Instr.typeAssert .nilIface 20 52 true).run Tryd.prog w = .ok (.tuple #[.string ⟨#[]⟩, .bool false]) w := by kernel_rfl
theorem mustWord (v : Value) (w : World) : (Instr.typeAssert (.iface 52 v) 20 52 false).run Tryd.prog w = .ok v w := by kernel_rfl
theorem asNum_word (v : Value) (w : World) : (Instr.typeAssert (.iface 52 v) 20 53 true).run Tryd.prog w = .ok (.tuple #[.int .i64 0, .bool false]) w := by kernel_rfl
theorem asNum_num (v : Value) (w : World) : (Instr.typeAssert (.iface 53 v) 20 53 true).run Tryd.prog w = .ok (.tuple #[v, .bool true]) w := by kernel_rfl
theorem asNum_quoted (v : Value) (w : World) : (Instr.typeAssert (.iface 54 v) 20 53 true).run Tryd.prog w = .ok (.tuple #[.int .i64 0, .bool false]) w := by kernel_rfl
theorem asNum_text (v : Value) (w : World) : (Instr.typeAssert (.iface 9 v) 20 53 true).run Tryd.prog w = .ok (.tuple #[.int .i64 0, .bool false]) w := by kernel_rfl
theorem asNum_int (v : Value) (w : World) : (Instr.typeAssert (.iface 3 v) 20 53 true).run Tryd.prog w = .ok (.tuple #[.int .i64 0, .bool false]) w := by kernel_rfl
theorem asNum_nil (w : World) : (Instr.typeAssert .nilIface 20 53 true).run Tryd.prog w = .ok (.tuple #[.int .i64 0, .bool false]) w := by kernel_rfl
theorem mustNum (v : Value) (w : World) : (Instr.typeAssert (.iface 53 v) 20 53 false).run Tryd.prog w = .ok v w := by kernel_rfl
theorem asQuoted_word (v : Value) (w : World) : (Instr.typeAssert (.iface 52 v) 20 54 true).run Tryd.prog w = .ok (.tuple #[.string ⟨#[]⟩, .bool false]) w := by kernel_rfl
theorem asQuoted_num (v : Value) (w : World) : (Instr.typeAssert (.iface 53 v) 20 54 true).run Tryd.prog w = .ok (.tuple #[.string ⟨#[]⟩, .bool false]) w := by kernel_rfl
theorem asQuoted_quoted (v : Value) (w : World) : (Instr.typeAssert (.iface 54 v) 20 54 true).run Tryd.prog w = .ok (.tuple #[v, .bool true]) w := by kernel_rfl
theorem asQuoted_text (v : Value) (w : World) : (Instr.typeAssert (.iface 9 v) 20 54 true).run Tryd.prog w = .ok (.tuple #[.string ⟨#[]⟩, .bool false]) w := by kernel_rfl
theorem asQuoted_int (v : Value) (w : World) : (Instr.typeAssert (.iface 3 v) 20 54 true).run Tryd.prog w = .ok (.tuple #[.string ⟨#[]⟩, .bool false]) w := by kernel_rfl
theorem asQuoted_nil (w : World) : (Instr.typeAssert .nilIface 20 54 true).run Tryd.prog w = .ok (.tuple #[.string ⟨#[]⟩, .bool false]) w := by kernel_rfl
theorem mustQuoted (v : Value) (w : World) : (Instr.typeAssert (.iface 54 v) 20 54 false).run Tryd.prog w = .ok v w := by kernel_rfl

theorem build1 (s : ByteArray) (w : World) : (Instr.build 44 #[(0, .int .i64 1), (1, .string s)]).run Tryd.prog w = .ok (.agg #[.int .i64 1, .string s, .int .i64 0]) w := by kernel_rfl
theorem build2 (n : Int) (w : World) : (Instr.build 44 #[(0, .int .i64 2), (2, .int .i64 n)]).run Tryd.prog w = .ok (.agg #[.int .i64 2, .string ⟨#[]⟩, .int .i64 n]) w := by kernel_rfl
theorem build3 (s : ByteArray) (w : World) : (Instr.build 44 #[(0, .int .i64 3), (1, .string s)]).run Tryd.prog w = .ok (.agg #[.int .i64 3, .string s, .int .i64 0]) w := by kernel_rfl
theorem build0 (w : World) : (Instr.build 44 #[]).run Tryd.prog w = .ok (.agg #[.int .i64 0, .string ⟨#[]⟩, .int .i64 0]) w := by kernel_rfl
set_option maxHeartbeats 3200000 in
theorem token_any (d : Dyn) (w : World) : Calls Tryd.prog 25 #[d.val] w fun e w' => e = .returned d.tok.val ∧ Below w.heap.size w w' := by
  cases d with
  | word s =>
    unfold Dyn.val
    have aWord := asWord_word (.string ⟨s.toArray⟩)
    have b := build1 ⟨s.toArray⟩
    go_enter Tryd.func25, Tryd.ntmps25
    go_wp2_with fail
    refine bodyPost_ret (v := .agg #[.int .i64 1, .string ⟨s.toArray⟩, .int .i64 0]) (by simp [results, Tryd.results25, go_sem]) rfl ⟨rfl, ?_⟩
    exact (Below.refl w.heap.size w).alloc (Nat.le_refl _) _
  | num n =>
    unfold Dyn.val
    have aWord := asWord_num (.int .i64 n)
    have aNum := asNum_num (.int .i64 n)
    have b := build2 n
    go_enter Tryd.func25, Tryd.ntmps25
    go_wp2_with fail
    refine bodyPost_ret (v := .agg #[.int .i64 2, .string ⟨#[]⟩, .int .i64 n]) (by simp [results, Tryd.results25, go_sem]) rfl ⟨rfl, ?_⟩
    exact (Below.refl w.heap.size w).alloc (Nat.le_refl _) _
  | quoted s =>
    unfold Dyn.val
    have aWord := asWord_quoted (.string ⟨s.toArray⟩)
    have aNum := asNum_quoted (.string ⟨s.toArray⟩)
    have aQuoted := asQuoted_quoted (.string ⟨s.toArray⟩)
    have b := build3 ⟨s.toArray⟩
    go_enter Tryd.func25, Tryd.ntmps25
    go_wp2_with fail
    refine bodyPost_ret (v := .agg #[.int .i64 3, .string ⟨s.toArray⟩, .int .i64 0]) (by simp [results, Tryd.results25, go_sem]) rfl ⟨rfl, ?_⟩
    exact (Below.refl w.heap.size w).alloc (Nat.le_refl _) _
  | text s =>
    unfold Dyn.val
    have aWord := asWord_text (.string ⟨s.toArray⟩)
    have aNum := asNum_text (.string ⟨s.toArray⟩)
    have aQuoted := asQuoted_text (.string ⟨s.toArray⟩)
    have b := build0
    go_enter Tryd.func25, Tryd.ntmps25
    go_wp2_with fail
    refine bodyPost_ret (v := .agg #[.int .i64 0, .string ⟨#[]⟩, .int .i64 0]) (by simp [results, Tryd.results25, go_sem]) rfl ⟨rfl, ?_⟩
    exact (Below.refl w.heap.size w).alloc (Nat.le_refl _) _
  | int n =>
    unfold Dyn.val
    have aWord := asWord_int (.int .i64 n)
    have aNum := asNum_int (.int .i64 n)
    have aQuoted := asQuoted_int (.int .i64 n)
    have b := build0
    go_enter Tryd.func25, Tryd.ntmps25
    go_wp2_with fail
    refine bodyPost_ret (v := .agg #[.int .i64 0, .string ⟨#[]⟩, .int .i64 0]) (by simp [results, Tryd.results25, go_sem]) rfl ⟨rfl, ?_⟩
    exact (Below.refl w.heap.size w).alloc (Nat.le_refl _) _
  | nil =>
    unfold Dyn.val
    have aWord := asWord_nil 
    have aNum := asNum_nil 
    have aQuoted := asQuoted_nil 
    have b := build0
    go_enter Tryd.func25, Tryd.ntmps25
    go_wp2_with fail
    refine bodyPost_ret (v := .agg #[.int .i64 0, .string ⟨#[]⟩, .int .i64 0]) (by simp [results, Tryd.results25, go_sem]) rfl ⟨rfl, ?_⟩
    exact (Below.refl w.heap.size w).alloc (Nat.le_refl _) _
def Dyn.asWord : Dyn → Value
  | .word x => .tuple #[.string ⟨x.toArray⟩, .bool true]
  | _ => .tuple #[.string ⟨#[]⟩, .bool false]
set_option maxHeartbeats 1600000 in
theorem word_any (d : Dyn) (w : World) : Calls Tryd.prog 28 #[d.val] w fun e w' => e = .returned d.asWord ∧ w = w' := by
  cases d with
  | word s =>
    unfold Dyn.val
    have a := asWord_word (.string ⟨s.toArray⟩)
    go_enter Tryd.func28, Tryd.ntmps28
    go_wp2_with fail
    go_ret2
    exact ⟨rfl, rfl⟩
  | num n =>
    unfold Dyn.val
    have a := asWord_num (.int .i64 n)
    go_enter Tryd.func28, Tryd.ntmps28
    go_wp2_with fail
    go_ret2
    exact ⟨rfl, rfl⟩
  | quoted s =>
    unfold Dyn.val
    have a := asWord_quoted (.string ⟨s.toArray⟩)
    go_enter Tryd.func28, Tryd.ntmps28
    go_wp2_with fail
    go_ret2
    exact ⟨rfl, rfl⟩
  | text s =>
    unfold Dyn.val
    have a := asWord_text (.string ⟨s.toArray⟩)
    go_enter Tryd.func28, Tryd.ntmps28
    go_wp2_with fail
    go_ret2
    exact ⟨rfl, rfl⟩
  | int n =>
    unfold Dyn.val
    have a := asWord_int (.int .i64 n)
    go_enter Tryd.func28, Tryd.ntmps28
    go_wp2_with fail
    go_ret2
    exact ⟨rfl, rfl⟩
  | nil =>
    unfold Dyn.val
    have a := asWord_nil 
    go_enter Tryd.func28, Tryd.ntmps28
    go_wp2_with fail
    go_ret2
    exact ⟨rfl, rfl⟩
set_option maxHeartbeats 1600000 in
theorem AsWord_any (d : Dyn) (w : World) : Calls Tryd.prog 16 #[d.val] w fun e w' => e = .returned d.asWord ∧ w = w' := by
  have q := word_any d w
  have hv : ∃ x b, d.asWord = .tuple #[x, b] := by cases d <;> exact ⟨_, _, rfl⟩
  obtain ⟨x, b, hv⟩ := hv
  rw [hv] at q ⊢
  generalize d.val = V at q ⊢
  have Q := Lib.hid q
  clear q hv
  go_enter Tryd.func16, Tryd.ntmps16
  go_wp2_with fail
  refine Q.out.mono ?_
  rintro e w1 ⟨rfl, rfl⟩
  go_wp2_with fail
  go_ret2
  exact ⟨rfl, rfl⟩
def Dyn.asNum : Dyn → Value
  | .num x => .tuple #[.int .i64 x, .bool true]
  | _ => .tuple #[.int .i64 0, .bool false]
set_option maxHeartbeats 1600000 in
theorem num_any (d : Dyn) (w : World) : Calls Tryd.prog 29 #[d.val] w fun e w' => e = .returned d.asNum ∧ w = w' := by
  cases d with
  | word s =>
    unfold Dyn.val
    have a := asNum_word (.string ⟨s.toArray⟩)
    go_enter Tryd.func29, Tryd.ntmps29
    go_wp2_with fail
    go_ret2
    exact ⟨rfl, rfl⟩
  | num n =>
    unfold Dyn.val
    have a := asNum_num (.int .i64 n)
    go_enter Tryd.func29, Tryd.ntmps29
    go_wp2_with fail
    go_ret2
    exact ⟨rfl, rfl⟩
  | quoted s =>
    unfold Dyn.val
    have a := asNum_quoted (.string ⟨s.toArray⟩)
    go_enter Tryd.func29, Tryd.ntmps29
    go_wp2_with fail
    go_ret2
    exact ⟨rfl, rfl⟩
  | text s =>
    unfold Dyn.val
    have a := asNum_text (.string ⟨s.toArray⟩)
    go_enter Tryd.func29, Tryd.ntmps29
    go_wp2_with fail
    go_ret2
    exact ⟨rfl, rfl⟩
  | int n =>
    unfold Dyn.val
    have a := asNum_int (.int .i64 n)
    go_enter Tryd.func29, Tryd.ntmps29
    go_wp2_with fail
    go_ret2
    exact ⟨rfl, rfl⟩
  | nil =>
    unfold Dyn.val
    have a := asNum_nil 
    go_enter Tryd.func29, Tryd.ntmps29
    go_wp2_with fail
    go_ret2
    exact ⟨rfl, rfl⟩
set_option maxHeartbeats 1600000 in
theorem AsNum_any (d : Dyn) (w : World) : Calls Tryd.prog 17 #[d.val] w fun e w' => e = .returned d.asNum ∧ w = w' := by
  have q := num_any d w
  have hv : ∃ x b, d.asNum = .tuple #[x, b] := by cases d <;> exact ⟨_, _, rfl⟩
  obtain ⟨x, b, hv⟩ := hv
  rw [hv] at q ⊢
  generalize d.val = V at q ⊢
  have Q := Lib.hid q
  clear q hv
  go_enter Tryd.func17, Tryd.ntmps17
  go_wp2_with fail
  refine Q.out.mono ?_
  rintro e w1 ⟨rfl, rfl⟩
  go_wp2_with fail
  go_ret2
  exact ⟨rfl, rfl⟩
def Dyn.asQuoted : Dyn → Value
  | .quoted x => .tuple #[.string ⟨x.toArray⟩, .bool true]
  | _ => .tuple #[.string ⟨#[]⟩, .bool false]
set_option maxHeartbeats 1600000 in
theorem quotedText_any (d : Dyn) (w : World) : Calls Tryd.prog 27 #[d.val] w fun e w' => e = .returned d.asQuoted ∧ w = w' := by
  cases d with
  | word s =>
    unfold Dyn.val
    have a := asQuoted_word (.string ⟨s.toArray⟩)
    go_enter Tryd.func27, Tryd.ntmps27
    go_wp2_with fail
    go_ret2
    exact ⟨rfl, rfl⟩
  | num n =>
    unfold Dyn.val
    have a := asQuoted_num (.int .i64 n)
    go_enter Tryd.func27, Tryd.ntmps27
    go_wp2_with fail
    go_ret2
    exact ⟨rfl, rfl⟩
  | quoted s =>
    unfold Dyn.val
    have a := asQuoted_quoted (.string ⟨s.toArray⟩)
    go_enter Tryd.func27, Tryd.ntmps27
    go_wp2_with fail
    go_ret2
    exact ⟨rfl, rfl⟩
  | text s =>
    unfold Dyn.val
    have a := asQuoted_text (.string ⟨s.toArray⟩)
    go_enter Tryd.func27, Tryd.ntmps27
    go_wp2_with fail
    go_ret2
    exact ⟨rfl, rfl⟩
  | int n =>
    unfold Dyn.val
    have a := asQuoted_int (.int .i64 n)
    go_enter Tryd.func27, Tryd.ntmps27
    go_wp2_with fail
    go_ret2
    exact ⟨rfl, rfl⟩
  | nil =>
    unfold Dyn.val
    have a := asQuoted_nil 
    go_enter Tryd.func27, Tryd.ntmps27
    go_wp2_with fail
    go_ret2
    exact ⟨rfl, rfl⟩
set_option maxHeartbeats 1600000 in
theorem AsQuoted_any (d : Dyn) (w : World) : Calls Tryd.prog 14 #[d.val] w fun e w' => e = .returned d.asQuoted ∧ w = w' := by
  have q := quotedText_any d w
  have hv : ∃ x b, d.asQuoted = .tuple #[x, b] := by cases d <;> exact ⟨_, _, rfl⟩
  obtain ⟨x, b, hv⟩ := hv
  rw [hv] at q ⊢
  generalize d.val = V at q ⊢
  have Q := Lib.hid q
  clear q hv
  go_enter Tryd.func14, Tryd.ntmps14
  go_wp2_with fail
  refine Q.out.mono ?_
  rintro e w1 ⟨rfl, rfl⟩
  go_wp2_with fail
  go_ret2
  exact ⟨rfl, rfl⟩
set_option maxHeartbeats 1600000 in
theorem mustWord_any (s : List UInt8) (w : World) : Calls Tryd.prog 30 #[(Dyn.word s).val] w fun e w' => e = .returned (.string ⟨s.toArray⟩) ∧ w = w' := by
  unfold Dyn.val
  have a := mustWord (.string ⟨s.toArray⟩)
  go_enter Tryd.func30, Tryd.ntmps30
  go_wp2_with fail
  go_ret
  exact ⟨rfl, rfl⟩
set_option maxHeartbeats 1600000 in
theorem MustWord_any (s : List UInt8) (w : World) : Calls Tryd.prog 19 #[(Dyn.word s).val] w fun e w' => e = .returned (.string ⟨s.toArray⟩) ∧ w = w' := by
  unfold Dyn.val
  have Q := Lib.hid (mustWord_any s w)
  unfold Dyn.val at Q
  go_enter Tryd.func19, Tryd.ntmps19
  go_wp2_with fail
  refine Q.out.mono ?_
  rintro e w1 ⟨rfl, rfl⟩
  go_wp2_with fail
  go_ret
  exact ⟨rfl, rfl⟩
set_option maxHeartbeats 1600000 in
theorem mustNum_any (n : Int) (w : World) : Calls Tryd.prog 31 #[(Dyn.num n).val] w fun e w' => e = .returned (.int .i64 n) ∧ w = w' := by
  unfold Dyn.val
  have a := mustNum (.int .i64 n)
  go_enter Tryd.func31, Tryd.ntmps31
  go_wp2_with fail
  go_ret
  exact ⟨rfl, rfl⟩
set_option maxHeartbeats 1600000 in
theorem MustNum_any (n : Int) (w : World) : Calls Tryd.prog 20 #[(Dyn.num n).val] w fun e w' => e = .returned (.int .i64 n) ∧ w = w' := by
  unfold Dyn.val
  have Q := Lib.hid (mustNum_any n w)
  unfold Dyn.val at Q
  go_enter Tryd.func20, Tryd.ntmps20
  go_wp2_with fail
  refine Q.out.mono ?_
  rintro e w1 ⟨rfl, rfl⟩
  go_wp2_with fail
  go_ret
  exact ⟨rfl, rfl⟩

theorem fieldKind (a b c : Value) (w : World) : (Instr.field 44 (.agg #[a, b, c]) 0).run Tryd.prog w = .ok a w := by kernel_rfl
set_option maxHeartbeats 1600000 in
theorem Kind_any (d : Dyn) (w : World) : Calls Tryd.prog 18 #[d.val] w fun e w' => e = .returned (.int .i64 (d.tok.kind : Int)) ∧ Below w.heap.size w w' := by
  have q := token_any d w
  unfold Tok.val at q
  have fk := fieldKind (.int .i64 (d.tok.kind : Int)) (.string ⟨d.tok.text.toArray⟩) (.int .i64 d.tok.num)
  generalize d.val = V at q ⊢
  generalize d.tok.kind = K at q fk ⊢
  generalize d.tok.text = T at q fk
  generalize d.tok.num = N at q fk
  have Q := Lib.hid q
  clear q
  go_enter Tryd.func18, Tryd.ntmps18
  go_wp2_with fail
  refine Q.out.mono ?_
  rintro e w1 ⟨rfl, hb⟩
  go_wp2_with fail
  go_ret
  exact ⟨rfl, hb⟩
set_option maxHeartbeats 1600000 in
/-- What a word without quotes is. -/
theorem value_any (l : List UInt8) (w : World) (hm : l.length ≤ maxLen) (ht : Tab w) :
    Calls Tryd.prog 47 #[.string ⟨l.toArray⟩] w fun e w' => e = .returned (plainT l).dyn.val ∧ w = w' := by
  have q := Int_any l w hm ht
  unfold retInt at q
  unfold plainT
  cases hI : intSpec l with
  | none =>
    rw [hI] at q
    simp only [Option.getD_none, Option.isSome_none] at q
    have Q := Lib.hid q
    clear q hI ht
    go_enter Tryd.func47, Tryd.ntmps47
    go_wp2_with fail
    refine Q.out.mono ?_
    rintro e w1 ⟨rfl, rfl⟩
    go_wp2_with fail
    go_ret
    exact ⟨rfl, rfl⟩
  | some n =>
    rw [hI] at q
    simp only [Option.getD_some, Option.isSome_some] at q
    have Q := Lib.hid q
    clear q hI ht
    go_enter Tryd.func47, Tryd.ntmps47
    go_wp2_with fail
    refine Q.out.mono ?_
    rintro e w1 ⟨rfl, rfl⟩
    go_wp2_with fail
    go_ret
    exact ⟨rfl, rfl⟩
end Go.Proofs.YtpimnbalffaliaaDoor

/-
  utf8.ValidString and strings.ContainsFunc, by the library's own contracts, at this program's numbers.
-/
import Derived.Test.YtpimnbalffaliaaDoorSeat
import Derived.Test.YtpimnbalffaliaaDoorScan13
import Derived.Shelf.Unicode.ValidAny
import Derived.Shelf.GgClosure.StringsIndexFuncTop
namespace Go.Proofs.YtpimnbalffaliaaDoor
set_option linter.unusedVariables false
set_option linter.unusedSimpArgs false
open Go.Shelf Go.RowKit Go.Lib

def rhoV : Ren := ⟨fun n => if n = 196 then 32 else 43, fun n => if n = 0 then 0 else if n = 3 then 3 else if n = 4 then 4 else if n = 5 then 5 else if n = 9 then 9 else if n = 12 then 12 else if n = 46 then 69 else if n = 53 then 86 else if n = 119 then 65 else if n = 138 then 67 else 68, fun n => if n = 3 then 0 else 1⟩
theorem lays196 : Lays.n196 Tryd.prog rhoV where
  mixed := by kernel_rfl
  f196 := by kernel_rfl
  f259 := by kernel_rfl
  t0 := by kernel_rfl
  a0 := fun _ => by kernel_rfl
  z0 := fun _ => by kernel_rfl
  v0 := fun _ => by kernel_rfl
  t3 := by kernel_rfl
  a3 := fun _ => by kernel_rfl
  z3 := fun _ => by kernel_rfl
  v3 := fun _ => by kernel_rfl
  t4 := by kernel_rfl
  a4 := fun _ => by kernel_rfl
  z4 := fun _ => by kernel_rfl
  v4 := fun _ => by kernel_rfl
  t5 := by kernel_rfl
  a5 := fun _ => by kernel_rfl
  z5 := fun _ => by kernel_rfl
  v5 := fun _ => by kernel_rfl
  t9 := by kernel_rfl
  a9 := fun _ => by kernel_rfl
  z9 := fun _ => by kernel_rfl
  v9 := fun _ => by kernel_rfl
  t12 := by kernel_rfl
  a12 := fun _ => by kernel_rfl
  z12 := fun _ => by kernel_rfl
  v12 := fun _ => by kernel_rfl
  t46 := by kernel_rfl
  a46 := fun _ => by kernel_rfl
  z46 := fun _ => by kernel_rfl
  v46 := fun _ => by kernel_rfl
  t53 := by kernel_rfl
  a53 := fun _ => by kernel_rfl
  z53 := fun _ => by kernel_rfl
  v53 := fun _ => by kernel_rfl
  t119 := by kernel_rfl
  a119 := fun _ => by kernel_rfl
  z119 := fun _ => by kernel_rfl
  t138 := by kernel_rfl
  a138 := fun _ => by kernel_rfl
  z138 := fun _ => by kernel_rfl
  v138 := fun _ => by kernel_rfl
  t139 := by kernel_rfl
  a139 := fun _ => by kernel_rfl
  z139 := fun _ => by kernel_rfl
  v139 := fun _ => by kernel_rfl
  g3 := by kernel_rfl
  g4 := by kernel_rfl

def rhoC : Ren := ⟨fun n => if n = 15 then 44 else if n = 17 then 33 else 54, fun n => if n = 0 then 0 else if n = 3 then 3 else if n = 4 then 4 else if n = 9 then 9 else if n = 21 then 21 else 56, fun n => n⟩
theorem lays17 : LaysGw.n17 Tryd.prog rhoC where
  mixed := by kernel_rfl
  f15 := by kernel_rfl
  f17 := by kernel_rfl
  f20 := by kernel_rfl
  t0 := by kernel_rfl
  a0 := fun _ => by kernel_rfl
  z0 := fun _ => by kernel_rfl
  v0 := fun _ => by kernel_rfl
  i0 := by kernel_rfl
  t3 := by kernel_rfl
  a3 := fun _ => by kernel_rfl
  z3 := fun _ => by kernel_rfl
  v3 := fun _ => by kernel_rfl
  i3 := by kernel_rfl
  t4 := by kernel_rfl
  a4 := fun _ => by kernel_rfl
  z4 := fun _ => by kernel_rfl
  v4 := fun _ => by kernel_rfl
  i4 := by kernel_rfl
  t9 := by kernel_rfl
  a9 := fun _ => by kernel_rfl
  z9 := fun _ => by kernel_rfl
  v9 := fun _ => by kernel_rfl
  i9 := by kernel_rfl
  t21 := by kernel_rfl
  a21 := fun _ => by kernel_rfl
  z21 := fun _ => by kernel_rfl
  v21 := fun _ => by kernel_rfl
  i21 := by kernel_rfl
  t23 := by kernel_rfl
  a23 := fun _ => by kernel_rfl
  z23 := fun _ => by kernel_rfl
  v23 := fun _ => by kernel_rfl
  i23 := by kernel_rfl

/-- The two tables of utf8. -/
def UTab (w : World) : Prop := Lib.Utf8Tabs 0 1 w
theorem UTab.below {w w' : World} (h : UTab w) (hb : Below w.heap.size w w') : UTab w' := Utf8Tabs_below h hb
theorem Valid_any (l : List UInt8) (w : World) (hm : l.length ≤ maxLen) (ht : UTab w) :
    Calls Tryd.prog 32 #[.string ⟨l.toArray⟩] w fun e w' => e = .returned (.bool (validD l)) ∧ Below w.heap.size w w' :=
  Any.utf8_ValidString lays196 ⟨l.toArray⟩ w (by unfold maxLen at hm; exact hm) ht

set_option maxHeartbeats 1600000 in
theorem look_any (r : Nat) (w : World) : Calls Tryd.prog 34 #[.int .i32 (r : Int)] w fun e w' => e = .returned (.bool (badRune r)) ∧ ∃ q, w' = w.drewN q := by
  by_cases h1 : r < 32
  · have e : badRune r = true := by unfold badRune; simp [h1]
    rw [e]
    have h1z : (r : Int) < 32 := by omega
    go_enter Tryd.func34, Tryd.ntmps34
    go_wp2_with fail
    go_ret
    exact ⟨rfl, 0, rfl⟩
  · have h1z : ¬ (r : Int) < 32 := by omega
    by_cases h2 : r = 127
    · subst h2
      have e : badRune 127 = true := by decide
      rw [e]
      go_enter Tryd.func34, Tryd.ntmps34
      go_wp2_with fail
      go_ret
      exact ⟨rfl, 0, rfl⟩
    · have e : badRune r = false := by unfold badRune; simp [h2]; omega
      rw [e]
      have h2z : ((r : Int) == 127) = false := by simp; omega
      go_enter Tryd.func34, Tryd.ntmps34
      go_wp2_with fail
      go_ret
      exact ⟨rfl, 0, rfl⟩
theorem lookPred (w : World) : PredAt Tryd.prog 34 #[] encR badRune w := fun W x _ => look_any x W
theorem enters_look : ∀ args w, (callFunc 34 args).run Tryd.prog w = .ok (.enter 34 args) w := enters_of Tryd.func34 (by kernel_rfl) rfl
theorem Contains_any (l : List UInt8) (w : World) :
    Calls Tryd.prog 33 #[.string ⟨l.toArray⟩, .func (.func 34) #[] #[]] w fun e w' => e = .returned (.bool (decide (0 ≤ idxFunc badRune true ⟨l.toArray⟩))) ∧ Below w.heap.size w w' :=
  Any.strings_ContainsFunc lays17 34 #[] enters_look badRune ⟨l.toArray⟩ w (lookPred w)

set_option maxHeartbeats 1600000 in
/-- May a text be? -/
theorem readable_any (l : List UInt8) (w : World) (hm : l.length ≤ maxLen) (ht : UTab w) :
    Calls Tryd.prog 21 #[.string ⟨l.toArray⟩] w fun e w' => e = .returned (.bool (rightB l)) ∧ Below w.heap.size w w' := by
  have QV := Lib.hid (Valid_any l w hm ht)
  have QC := fun w => Lib.hid (Contains_any l w)
  have e := right_looks l
  generalize validD l = V at QV e
  generalize decide (0 ≤ idxFunc badRune true ⟨l.toArray⟩) = C at QC e
  generalize rightB l = R at e ⊢
  subst e
  clear hm ht
  cases V with
  | false =>
    go_enter Tryd.func21, Tryd.ntmps21
    go_wp2_with fail
    refine QV.out.mono ?_
    rintro e w1 ⟨rfl, hb1⟩
    go_wp2_with fail
    go_ret
    exact ⟨rfl, hb1⟩
  | true =>
    go_enter Tryd.func21, Tryd.ntmps21
    go_wp2_with fail
    refine QV.out.mono ?_
    rintro e w1 ⟨rfl, hb1⟩
    go_wp2_with fail
    refine (QC w1).out.mono ?_
    rintro e w2 ⟨rfl, hb2⟩
    replace hb1 := hb1.trans (hb2.mono hb1.size)
    go_wp2_with fail
    go_ret
    exact ⟨rfl, hb1⟩
end Go.Proofs.YtpimnbalffaliaaDoor

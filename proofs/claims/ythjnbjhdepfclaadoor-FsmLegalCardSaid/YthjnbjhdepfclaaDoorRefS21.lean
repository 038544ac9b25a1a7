/-
  The document's table: texts; a step; a state's name.
-/
import Derived.Test.YthjnbjhdepfclaaDoorTabF21
import Derived.WalkLawsBesides
import Derived.Laws.Strings
namespace Go.Proofs.YthjnbjhdepfclaaDoor
set_option linter.unusedVariables false
set_option linter.unusedSimpArgs false
open Go.RowKit

theorem ba_at21 (l : List UInt8) (j : Nat) (hj : j < (⟨l.toArray⟩ : ByteArray).size) : (⟨l.toArray⟩ : ByteArray)[j] = l.getD j 0 := by
  show l.toArray[j] = _
  have h : j < l.length := hj
  simp [List.getD, h]
theorem index21 (l : List UInt8) (j : Nat) (J : Int) (hJ : J = (j : Int)) (h : j < l.length) (w : World) :
    (Instr.index 9 (.string ⟨l.toArray⟩) (.int .i64 J)).run Tryd.prog w = .ok (.int .u8 ((l.getD j 0).toNat : Int)) w := by
  subst hJ
  rw [run_index_string _ _ _ _ _ Tryd.underlying9]
  have hb : j < (⟨l.toArray⟩ : ByteArray).size := h
  have e := ba_at21 l j hb
  rw [← e]
  have h2 : (j : Int) < (l.length : Int) := by omega
  simp [hb, h2, h]
theorem tabs_le : ((List.range 16).all fun e => (List.range 6).all fun s => decide (toN e s ≤ 5)) = true := by decide +kernel
theorem tab_le {e s : Nat} (he : e < 16) (hs : s < 6) : toN e s ≤ 5 := by
  have h := List.all_eq_true.1 (List.all_eq_true.1 tabs_le e (List.mem_range.2 he)) s (List.mem_range.2 hs)
  simpa using h
theorem bitN_none {c : Nat} (h1 : c ≠ 68) (h2 : c ≠ 72) (h4 : c ≠ 79) (h8 : c ≠ 75) (h16 : c ≠ 78) (h32 : c ≠ 82) (h64 : c ≠ 70) (h128 : c ≠ 114) (h256 : c ≠ 76) (h512 : c ≠ 104) (h1024 : c ≠ 107) (h2048 : c ≠ 120) : bitN c = 0 := by
  unfold bitN
  rw [if_neg h1, if_neg h2, if_neg h4, if_neg h8, if_neg h16, if_neg h32, if_neg h64, if_neg h128, if_neg h256, if_neg h512, if_neg h1024, if_neg h2048]
set_option maxHeartbeats 3200000 in
theorem bit_any (c : Nat) (w : World) (hc : c < 256) : Calls Tryd.prog 20 #[.int .u8 (c : Int)] w fun e w' => e = .returned (.int .i64 (bitN c : Int)) ∧ w = w' := by
  by_cases h1 : c = 68
  · subst h1
    go_enter Tryd.func20, Tryd.ntmps20
    go_wp2_with fail
    go_ret
    exact ⟨rfl, rfl⟩
  by_cases h2 : c = 72
  · subst h2
    go_enter Tryd.func20, Tryd.ntmps20
    go_wp2_with fail
    go_ret
    exact ⟨rfl, rfl⟩
  by_cases h4 : c = 79
  · subst h4
    go_enter Tryd.func20, Tryd.ntmps20
    go_wp2_with fail
    go_ret
    exact ⟨rfl, rfl⟩
  by_cases h8 : c = 75
  · subst h8
    go_enter Tryd.func20, Tryd.ntmps20
    go_wp2_with fail
    go_ret
    exact ⟨rfl, rfl⟩
  by_cases h16 : c = 78
  · subst h16
    go_enter Tryd.func20, Tryd.ntmps20
    go_wp2_with fail
    go_ret
    exact ⟨rfl, rfl⟩
  by_cases h32 : c = 82
  · subst h32
    go_enter Tryd.func20, Tryd.ntmps20
    go_wp2_with fail
    go_ret
    exact ⟨rfl, rfl⟩
  by_cases h64 : c = 70
  · subst h64
    go_enter Tryd.func20, Tryd.ntmps20
    go_wp2_with fail
    go_ret
    exact ⟨rfl, rfl⟩
  by_cases h128 : c = 114
  · subst h128
    go_enter Tryd.func20, Tryd.ntmps20
    go_wp2_with fail
    go_ret
    exact ⟨rfl, rfl⟩
  by_cases h256 : c = 76
  · subst h256
    go_enter Tryd.func20, Tryd.ntmps20
    go_wp2_with fail
    go_ret
    exact ⟨rfl, rfl⟩
  by_cases h512 : c = 104
  · subst h512
    go_enter Tryd.func20, Tryd.ntmps20
    go_wp2_with fail
    go_ret
    exact ⟨rfl, rfl⟩
  by_cases h1024 : c = 107
  · subst h1024
    go_enter Tryd.func20, Tryd.ntmps20
    go_wp2_with fail
    go_ret
    exact ⟨rfl, rfl⟩
  by_cases h2048 : c = 120
  · subst h2048
    go_enter Tryd.func20, Tryd.ntmps20
    go_wp2_with fail
    go_ret
    exact ⟨rfl, rfl⟩
  have hb := Lib.hid (bitN_none h1 h2 h4 h8 h16 h32 h64 h128 h256 h512 h1024 h2048)
  have b1 : ((c : Int) == 68) = false := by simpa using (show ¬ (c : Int) = 68 by omega)
  have b2 : ((c : Int) == 72) = false := by simpa using (show ¬ (c : Int) = 72 by omega)
  have b4 : ((c : Int) == 79) = false := by simpa using (show ¬ (c : Int) = 79 by omega)
  have b8 : ((c : Int) == 75) = false := by simpa using (show ¬ (c : Int) = 75 by omega)
  have b16 : ((c : Int) == 78) = false := by simpa using (show ¬ (c : Int) = 78 by omega)
  have b32 : ((c : Int) == 82) = false := by simpa using (show ¬ (c : Int) = 82 by omega)
  have b64 : ((c : Int) == 70) = false := by simpa using (show ¬ (c : Int) = 70 by omega)
  have b128 : ((c : Int) == 114) = false := by simpa using (show ¬ (c : Int) = 114 by omega)
  have b256 : ((c : Int) == 76) = false := by simpa using (show ¬ (c : Int) = 76 by omega)
  have b512 : ((c : Int) == 104) = false := by simpa using (show ¬ (c : Int) = 104 by omega)
  have b1024 : ((c : Int) == 107) = false := by simpa using (show ¬ (c : Int) = 107 by omega)
  have b2048 : ((c : Int) == 120) = false := by simpa using (show ¬ (c : Int) = 120 by omega)
  clear h1 h2 h4 h8 h16 h32 h64 h128 h256 h512 h1024 h2048
  go_enter Tryd.func20, Tryd.ntmps20
  go_wp2_with fail
  go_ret
  exact ⟨by rw [hb.out]; rfl, rfl⟩
def rowVals (e : Nat) : List Value := (List.range 6).map fun s => Value.string ⟨(textOf e s).toArray⟩
def RowPost (w : World) (e : Nat) (r : Ending) (w' : World) : Prop := r = .returned (.slice (some ⟨w.heap.size, 0, none⟩) 6 6) ∧ Blk w' w.heap.size 9 (rowVals e) ∧ Below w.heap.size w w'
set_option maxHeartbeats 1600000 in
theorem row_0 (w : World) : Calls Tryd.prog 19 #[.int .i64 0] w (RowPost w 0) := by
  have HK := Lib.hid (Blk.new w 9 [.string ⟨#[49, 32, 68, 114]⟩, .string ⟨#[49]⟩, .string ⟨#[50]⟩, .string ⟨#[51]⟩, .string ⟨#[52]⟩, .string ⟨#[53]⟩])
  have HB := Lib.hid (show Below w.heap.size w (w.alloc (.cells #[.string ⟨#[49, 32, 68, 114]⟩, .string ⟨#[49]⟩, .string ⟨#[50]⟩, .string ⟨#[51]⟩, .string ⟨#[52]⟩, .string ⟨#[53]⟩] 9)) from (Below.refl _ _).alloc (Nat.le_refl _) _)
  go_enter Tryd.func19, Tryd.ntmps19
  go_wp2_with fail
  go_ret
  exact ⟨rfl, HK.out, HB.out⟩
set_option maxHeartbeats 1600000 in
theorem row_1 (w : World) : Calls Tryd.prog 19 #[.int .i64 1] w (RowPost w 1) := by
  have HK := Lib.hid (Blk.new w 9 [.string ⟨#[48]⟩, .string ⟨#[48, 32, 72, 120]⟩, .string ⟨#[48, 32, 72, 120]⟩, .string ⟨#[48, 32, 78, 72, 120]⟩, .string ⟨#[48, 32, 78, 72, 120]⟩, .string ⟨#[48, 32, 78, 72, 120, 70]⟩])
  have HB := Lib.hid (show Below w.heap.size w (w.alloc (.cells #[.string ⟨#[48]⟩, .string ⟨#[48, 32, 72, 120]⟩, .string ⟨#[48, 32, 72, 120]⟩, .string ⟨#[48, 32, 78, 72, 120]⟩, .string ⟨#[48, 32, 78, 72, 120]⟩, .string ⟨#[48, 32, 78, 72, 120, 70]⟩] 9)) from (Below.refl _ _).alloc (Nat.le_refl _) _)
  go_enter Tryd.func19, Tryd.ntmps19
  go_wp2_with fail
  go_ret
  exact ⟨rfl, HK.out, HB.out⟩
set_option maxHeartbeats 1600000 in
theorem row_2 (w : World) : Calls Tryd.prog 19 #[.int .i64 2] w (RowPost w 2) := by
  have HK := Lib.hid (Blk.new w 9 [.string ⟨#[48, 32, 72]⟩, .string ⟨#[51, 32, 120, 79, 76]⟩, .string ⟨#[51, 32, 120, 79, 76]⟩, .string ⟨#[51]⟩, .string ⟨#[52]⟩, .string ⟨#[53]⟩])
  have HB := Lib.hid (show Below w.heap.size w (w.alloc (.cells #[.string ⟨#[48, 32, 72]⟩, .string ⟨#[51, 32, 120, 79, 76]⟩, .string ⟨#[51, 32, 120, 79, 76]⟩, .string ⟨#[51]⟩, .string ⟨#[52]⟩, .string ⟨#[53]⟩] 9)) from (Below.refl _ _).alloc (Nat.le_refl _) _)
  go_enter Tryd.func19, Tryd.ntmps19
  go_wp2_with fail
  go_ret
  exact ⟨rfl, HK.out, HB.out⟩
set_option maxHeartbeats 1600000 in
theorem row_3 (w : World) : Calls Tryd.prog 19 #[.int .i64 3] w (RowPost w 3) := by
  have HK := Lib.hid (Blk.new w 9 [.string ⟨#[48]⟩, .string ⟨#[50, 32, 114]⟩, .string ⟨#[48, 32, 72, 120]⟩, .string ⟨#[50, 32, 120, 114]⟩, .string ⟨#[48, 32, 120]⟩, .string ⟨#[48, 32, 120, 70]⟩])
  have HB := Lib.hid (show Below w.heap.size w (w.alloc (.cells #[.string ⟨#[48]⟩, .string ⟨#[50, 32, 114]⟩, .string ⟨#[48, 32, 72, 120]⟩, .string ⟨#[50, 32, 120, 114]⟩, .string ⟨#[48, 32, 120]⟩, .string ⟨#[48, 32, 120, 70]⟩] 9)) from (Below.refl _ _).alloc (Nat.le_refl _) _)
  go_enter Tryd.func19, Tryd.ntmps19
  go_wp2_with fail
  go_ret
  exact ⟨rfl, HK.out, HB.out⟩
set_option maxHeartbeats 1600000 in
theorem row_4 (w : World) : Calls Tryd.prog 19 #[.int .i64 4] w (RowPost w 4) := by
  have HK := Lib.hid (Blk.new w 9 [.string ⟨#[48]⟩, .string ⟨#[49, 32, 68, 114]⟩, .string ⟨#[49, 32, 68, 114]⟩, .string ⟨#[48, 32, 78, 72, 120]⟩, .string ⟨#[48, 32, 78, 72, 120]⟩, .string ⟨#[48, 32, 78, 72, 120, 70]⟩])
  have HB := Lib.hid (show Below w.heap.size w (w.alloc (.cells #[.string ⟨#[48]⟩, .string ⟨#[49, 32, 68, 114]⟩, .string ⟨#[49, 32, 68, 114]⟩, .string ⟨#[48, 32, 78, 72, 120]⟩, .string ⟨#[48, 32, 78, 72, 120]⟩, .string ⟨#[48, 32, 78, 72, 120, 70]⟩] 9)) from (Below.refl _ _).alloc (Nat.le_refl _) _)
  go_enter Tryd.func19, Tryd.ntmps19
  go_wp2_with fail
  go_ret
  exact ⟨rfl, HK.out, HB.out⟩
set_option maxHeartbeats 1600000 in
theorem row_5 (w : World) : Calls Tryd.prog 19 #[.int .i64 5] w (RowPost w 5) := by
  have HK := Lib.hid (Blk.new w 9 [.string ⟨#[48]⟩, .string ⟨#[48, 32, 72, 120]⟩, .string ⟨#[48, 32, 72, 120]⟩, .string ⟨#[48, 32, 78, 72, 120]⟩, .string ⟨#[48, 32, 78, 72, 120]⟩, .string ⟨#[48, 32, 78, 72, 120, 70]⟩])
  have HB := Lib.hid (show Below w.heap.size w (w.alloc (.cells #[.string ⟨#[48]⟩, .string ⟨#[48, 32, 72, 120]⟩, .string ⟨#[48, 32, 72, 120]⟩, .string ⟨#[48, 32, 78, 72, 120]⟩, .string ⟨#[48, 32, 78, 72, 120]⟩, .string ⟨#[48, 32, 78, 72, 120, 70]⟩] 9)) from (Below.refl _ _).alloc (Nat.le_refl _) _)
  go_enter Tryd.func19, Tryd.ntmps19
  go_wp2_with fail
  go_ret
  exact ⟨rfl, HK.out, HB.out⟩
set_option maxHeartbeats 1600000 in
theorem row_6 (w : World) : Calls Tryd.prog 19 #[.int .i64 6] w (RowPost w 6) := by
  have HK := Lib.hid (Blk.new w 9 [.string ⟨#[48]⟩, .string ⟨#[48, 32, 72, 120]⟩, .string ⟨#[48, 32, 72, 120]⟩, .string ⟨#[48, 32, 78, 72, 120]⟩, .string ⟨#[52, 32, 75, 107]⟩, .string ⟨#[53, 32, 75, 107]⟩])
  have HB := Lib.hid (show Below w.heap.size w (w.alloc (.cells #[.string ⟨#[48]⟩, .string ⟨#[48, 32, 72, 120]⟩, .string ⟨#[48, 32, 72, 120]⟩, .string ⟨#[48, 32, 78, 72, 120]⟩, .string ⟨#[52, 32, 75, 107]⟩, .string ⟨#[53, 32, 75, 107]⟩] 9)) from (Below.refl _ _).alloc (Nat.le_refl _) _)
  go_enter Tryd.func19, Tryd.ntmps19
  go_wp2_with fail
  go_ret
  exact ⟨rfl, HK.out, HB.out⟩
set_option maxHeartbeats 1600000 in
theorem row_7 (w : World) : Calls Tryd.prog 19 #[.int .i64 7] w (RowPost w 7) := by
  have HK := Lib.hid (Blk.new w 9 [.string ⟨#[48]⟩, .string ⟨#[48, 32, 72, 120]⟩, .string ⟨#[48, 32, 72, 120]⟩, .string ⟨#[52, 32, 75, 104, 107]⟩, .string ⟨#[48, 32, 78, 72, 120]⟩, .string ⟨#[48, 32, 78, 72, 120, 70]⟩])
  have HB := Lib.hid (show Below w.heap.size w (w.alloc (.cells #[.string ⟨#[48]⟩, .string ⟨#[48, 32, 72, 120]⟩, .string ⟨#[48, 32, 72, 120]⟩, .string ⟨#[52, 32, 75, 104, 107]⟩, .string ⟨#[48, 32, 78, 72, 120]⟩, .string ⟨#[48, 32, 78, 72, 120, 70]⟩] 9)) from (Below.refl _ _).alloc (Nat.le_refl _) _)
  go_enter Tryd.func19, Tryd.ntmps19
  go_wp2_with fail
  go_ret
  exact ⟨rfl, HK.out, HB.out⟩
set_option maxHeartbeats 1600000 in
theorem row_8 (w : World) : Calls Tryd.prog 19 #[.int .i64 8] w (RowPost w 8) := by
  have HK := Lib.hid (Blk.new w 9 [.string ⟨#[48]⟩, .string ⟨#[48, 32, 72, 120]⟩, .string ⟨#[48, 32, 72, 120]⟩, .string ⟨#[48, 32, 78, 72, 120]⟩, .string ⟨#[48, 32, 78, 72, 120]⟩, .string ⟨#[48, 32, 78, 72, 120, 70]⟩])
  have HB := Lib.hid (show Below w.heap.size w (w.alloc (.cells #[.string ⟨#[48]⟩, .string ⟨#[48, 32, 72, 120]⟩, .string ⟨#[48, 32, 72, 120]⟩, .string ⟨#[48, 32, 78, 72, 120]⟩, .string ⟨#[48, 32, 78, 72, 120]⟩, .string ⟨#[48, 32, 78, 72, 120, 70]⟩] 9)) from (Below.refl _ _).alloc (Nat.le_refl _) _)
  go_enter Tryd.func19, Tryd.ntmps19
  go_wp2_with fail
  go_ret
  exact ⟨rfl, HK.out, HB.out⟩
set_option maxHeartbeats 1600000 in
theorem row_9 (w : World) : Calls Tryd.prog 19 #[.int .i64 9] w (RowPost w 9) := by
  have HK := Lib.hid (Blk.new w 9 [.string ⟨#[48]⟩, .string ⟨#[48, 32, 72, 120]⟩, .string ⟨#[48, 32, 72, 120]⟩, .string ⟨#[48, 32, 78, 72, 120]⟩, .string ⟨#[48, 32, 78, 72, 120]⟩, .string ⟨#[48, 32, 78, 72, 120, 70]⟩])
  have HB := Lib.hid (show Below w.heap.size w (w.alloc (.cells #[.string ⟨#[48]⟩, .string ⟨#[48, 32, 72, 120]⟩, .string ⟨#[48, 32, 72, 120]⟩, .string ⟨#[48, 32, 78, 72, 120]⟩, .string ⟨#[48, 32, 78, 72, 120]⟩, .string ⟨#[48, 32, 78, 72, 120, 70]⟩] 9)) from (Below.refl _ _).alloc (Nat.le_refl _) _)
  go_enter Tryd.func19, Tryd.ntmps19
  go_wp2_with fail
  go_ret
  exact ⟨rfl, HK.out, HB.out⟩
set_option maxHeartbeats 1600000 in
theorem row_10 (w : World) : Calls Tryd.prog 19 #[.int .i64 10] w (RowPost w 10) := by
  have HK := Lib.hid (Blk.new w 9 [.string ⟨#[48]⟩, .string ⟨#[48, 32, 72, 120]⟩, .string ⟨#[48, 32, 72, 120]⟩, .string ⟨#[48, 32, 78, 72, 120]⟩, .string ⟨#[48, 32, 78, 72, 120]⟩, .string ⟨#[48, 32, 78, 72, 120, 70]⟩])
  have HB := Lib.hid (show Below w.heap.size w (w.alloc (.cells #[.string ⟨#[48]⟩, .string ⟨#[48, 32, 72, 120]⟩, .string ⟨#[48, 32, 72, 120]⟩, .string ⟨#[48, 32, 78, 72, 120]⟩, .string ⟨#[48, 32, 78, 72, 120]⟩, .string ⟨#[48, 32, 78, 72, 120, 70]⟩] 9)) from (Below.refl _ _).alloc (Nat.le_refl _) _)
  go_enter Tryd.func19, Tryd.ntmps19
  go_wp2_with fail
  go_ret
  exact ⟨rfl, HK.out, HB.out⟩
set_option maxHeartbeats 1600000 in
theorem row_11 (w : World) : Calls Tryd.prog 19 #[.int .i64 11] w (RowPost w 11) := by
  have HK := Lib.hid (Blk.new w 9 [.string ⟨#[48]⟩, .string ⟨#[48, 32, 72, 120]⟩, .string ⟨#[48, 32, 72, 120]⟩, .string ⟨#[48, 32, 72, 120]⟩, .string ⟨#[48, 32, 72, 120]⟩, .string ⟨#[48, 32, 72, 120, 70]⟩])
  have HB := Lib.hid (show Below w.heap.size w (w.alloc (.cells #[.string ⟨#[48]⟩, .string ⟨#[48, 32, 72, 120]⟩, .string ⟨#[48, 32, 72, 120]⟩, .string ⟨#[48, 32, 72, 120]⟩, .string ⟨#[48, 32, 72, 120]⟩, .string ⟨#[48, 32, 72, 120, 70]⟩] 9)) from (Below.refl _ _).alloc (Nat.le_refl _) _)
  go_enter Tryd.func19, Tryd.ntmps19
  go_wp2_with fail
  go_ret
  exact ⟨rfl, HK.out, HB.out⟩
set_option maxHeartbeats 1600000 in
theorem row_12 (w : World) : Calls Tryd.prog 19 #[.int .i64 12] w (RowPost w 12) := by
  have HK := Lib.hid (Blk.new w 9 [.string ⟨#[48]⟩, .string ⟨#[48, 32, 72, 120]⟩, .string ⟨#[48, 32, 72, 120]⟩, .string ⟨#[48, 32, 78, 72, 120]⟩, .string ⟨#[53, 32, 104, 82]⟩, .string ⟨#[53, 32, 104]⟩])
  have HB := Lib.hid (show Below w.heap.size w (w.alloc (.cells #[.string ⟨#[48]⟩, .string ⟨#[48, 32, 72, 120]⟩, .string ⟨#[48, 32, 72, 120]⟩, .string ⟨#[48, 32, 78, 72, 120]⟩, .string ⟨#[53, 32, 104, 82]⟩, .string ⟨#[53, 32, 104]⟩] 9)) from (Below.refl _ _).alloc (Nat.le_refl _) _)
  go_enter Tryd.func19, Tryd.ntmps19
  go_wp2_with fail
  go_ret
  exact ⟨rfl, HK.out, HB.out⟩
set_option maxHeartbeats 1600000 in
theorem row_13 (w : World) : Calls Tryd.prog 19 #[.int .i64 13] w (RowPost w 13) := by
  have HK := Lib.hid (Blk.new w 9 [.string ⟨#[48]⟩, .string ⟨#[48, 32, 72, 120]⟩, .string ⟨#[48, 32, 72, 120]⟩, .string ⟨#[48, 32, 78, 72, 120]⟩, .string ⟨#[48, 32, 78, 72, 120]⟩, .string ⟨#[53, 32, 104]⟩])
  have HB := Lib.hid (show Below w.heap.size w (w.alloc (.cells #[.string ⟨#[48]⟩, .string ⟨#[48, 32, 72, 120]⟩, .string ⟨#[48, 32, 72, 120]⟩, .string ⟨#[48, 32, 78, 72, 120]⟩, .string ⟨#[48, 32, 78, 72, 120]⟩, .string ⟨#[53, 32, 104]⟩] 9)) from (Below.refl _ _).alloc (Nat.le_refl _) _)
  go_enter Tryd.func19, Tryd.ntmps19
  go_wp2_with fail
  go_ret
  exact ⟨rfl, HK.out, HB.out⟩
set_option maxHeartbeats 1600000 in
theorem row_14 (w : World) : Calls Tryd.prog 19 #[.int .i64 14] w (RowPost w 14) := by
  have HK := Lib.hid (Blk.new w 9 [.string ⟨#[48]⟩, .string ⟨#[48, 32, 72, 120]⟩, .string ⟨#[48, 32, 72, 120]⟩, .string ⟨#[48, 32, 78, 72, 120]⟩, .string ⟨#[48, 32, 78, 72, 120]⟩, .string ⟨#[48, 32, 78, 72, 120, 70]⟩])
  have HB := Lib.hid (show Below w.heap.size w (w.alloc (.cells #[.string ⟨#[48]⟩, .string ⟨#[48, 32, 72, 120]⟩, .string ⟨#[48, 32, 72, 120]⟩, .string ⟨#[48, 32, 78, 72, 120]⟩, .string ⟨#[48, 32, 78, 72, 120]⟩, .string ⟨#[48, 32, 78, 72, 120, 70]⟩] 9)) from (Below.refl _ _).alloc (Nat.le_refl _) _)
  go_enter Tryd.func19, Tryd.ntmps19
  go_wp2_with fail
  go_ret
  exact ⟨rfl, HK.out, HB.out⟩
set_option maxHeartbeats 1600000 in
theorem row_15 (w : World) : Calls Tryd.prog 19 #[.int .i64 15] w (RowPost w 15) := by
  have HK := Lib.hid (Blk.new w 9 [.string ⟨#[48]⟩, .string ⟨#[48, 32, 72, 120]⟩, .string ⟨#[48, 32, 72, 120]⟩, .string ⟨#[48, 32, 78, 72, 120]⟩, .string ⟨#[48, 32, 78, 72, 120]⟩, .string ⟨#[48, 32, 78, 72, 120, 70]⟩])
  have HB := Lib.hid (show Below w.heap.size w (w.alloc (.cells #[.string ⟨#[48]⟩, .string ⟨#[48, 32, 72, 120]⟩, .string ⟨#[48, 32, 72, 120]⟩, .string ⟨#[48, 32, 78, 72, 120]⟩, .string ⟨#[48, 32, 78, 72, 120]⟩, .string ⟨#[48, 32, 78, 72, 120, 70]⟩] 9)) from (Below.refl _ _).alloc (Nat.le_refl _) _)
  go_enter Tryd.func19, Tryd.ntmps19
  go_wp2_with fail
  go_ret
  exact ⟨rfl, HK.out, HB.out⟩
theorem row_in (e : Nat) (w : World) (he : e < 16) : Calls Tryd.prog 19 #[.int .i64 (e : Int)] w (RowPost w e) := by
  rcases (show e = 0 ∨ e = 1 ∨ e = 2 ∨ e = 3 ∨ e = 4 ∨ e = 5 ∨ e = 6 ∨ e = 7 ∨ e = 8 ∨ e = 9 ∨ e = 10 ∨ e = 11 ∨ e = 12 ∨ e = 13 ∨ e = 14 ∨ e = 15 by omega) with rfl | rfl | rfl | rfl | rfl | rfl | rfl | rfl | rfl | rfl | rfl | rfl | rfl | rfl | rfl | rfl
  · exact row_0 w
  · exact row_1 w
  · exact row_2 w
  · exact row_3 w
  · exact row_4 w
  · exact row_5 w
  · exact row_6 w
  · exact row_7 w
  · exact row_8 w
  · exact row_9 w
  · exact row_10 w
  · exact row_11 w
  · exact row_12 w
  · exact row_13 w
  · exact row_14 w
  · exact row_15 w
set_option maxHeartbeats 1600000 in
theorem row_out (e : Int) (w : World) (he : e < 0 ∨ 16 ≤ e) : Calls Tryd.prog 19 #[.int .i64 e] w fun r w' => r = .returned (.slice none 0 0) ∧ w = w' := by
  have b0 : (e == 0) = false := by simpa using (show ¬ e = 0 by omega)
  have b1 : (e == 1) = false := by simpa using (show ¬ e = 1 by omega)
  have b2 : (e == 2) = false := by simpa using (show ¬ e = 2 by omega)
  have b3 : (e == 3) = false := by simpa using (show ¬ e = 3 by omega)
  have b4 : (e == 4) = false := by simpa using (show ¬ e = 4 by omega)
  have b5 : (e == 5) = false := by simpa using (show ¬ e = 5 by omega)
  have b6 : (e == 6) = false := by simpa using (show ¬ e = 6 by omega)
  have b7 : (e == 7) = false := by simpa using (show ¬ e = 7 by omega)
  have b8 : (e == 8) = false := by simpa using (show ¬ e = 8 by omega)
  have b9 : (e == 9) = false := by simpa using (show ¬ e = 9 by omega)
  have b10 : (e == 10) = false := by simpa using (show ¬ e = 10 by omega)
  have b11 : (e == 11) = false := by simpa using (show ¬ e = 11 by omega)
  have b12 : (e == 12) = false := by simpa using (show ¬ e = 12 by omega)
  have b13 : (e == 13) = false := by simpa using (show ¬ e = 13 by omega)
  have b14 : (e == 14) = false := by simpa using (show ¬ e = 14 by omega)
  have b15 : (e == 15) = false := by simpa using (show ¬ e = 15 by omega)
  clear he
  go_enter Tryd.func19, Tryd.ntmps19
  go_wp2_with fail
  go_ret
  exact ⟨rfl, rfl⟩
set_option maxHeartbeats 1600000 in
theorem RefName_in (s : Nat) (w : World) (hs : s < 6) : Calls Tryd.prog 10 #[.int .i64 (s : Int)] w fun r w' => r = .returned (.string ⟨(nameOf s).toArray⟩) ∧ w = w' := by
  rcases (show s = 0 ∨ s = 1 ∨ s = 2 ∨ s = 3 ∨ s = 4 ∨ s = 5 by omega) with rfl | rfl | rfl | rfl | rfl | rfl
  · show Calls Tryd.prog 10 #[.int .i64 0] w _
    go_enter Tryd.func10, Tryd.ntmps10
    go_wp2_with fail
    go_ret
    exact ⟨rfl, rfl⟩
  · show Calls Tryd.prog 10 #[.int .i64 1] w _
    go_enter Tryd.func10, Tryd.ntmps10
    go_wp2_with fail
    go_ret
    exact ⟨rfl, rfl⟩
  · show Calls Tryd.prog 10 #[.int .i64 2] w _
    go_enter Tryd.func10, Tryd.ntmps10
    go_wp2_with fail
    go_ret
    exact ⟨rfl, rfl⟩
  · show Calls Tryd.prog 10 #[.int .i64 3] w _
    go_enter Tryd.func10, Tryd.ntmps10
    go_wp2_with fail
    go_ret
    exact ⟨rfl, rfl⟩
  · show Calls Tryd.prog 10 #[.int .i64 4] w _
    go_enter Tryd.func10, Tryd.ntmps10
    go_wp2_with fail
    go_ret
    exact ⟨rfl, rfl⟩
  · show Calls Tryd.prog 10 #[.int .i64 5] w _
    go_enter Tryd.func10, Tryd.ntmps10
    go_wp2_with fail
    go_ret
    exact ⟨rfl, rfl⟩
set_option maxHeartbeats 1600000 in
theorem RefName_out (s : Int) (w : World) (hs : s < 0 ∨ 6 ≤ s) : Calls Tryd.prog 10 #[.int .i64 s] w fun r w' => r = .returned (.string ⟨#[]⟩) ∧ w = w' := by
  have b0 : (s == 0) = false := by simpa using (show ¬ s = 0 by omega)
  have b1 : (s == 1) = false := by simpa using (show ¬ s = 1 by omega)
  have b2 : (s == 2) = false := by simpa using (show ¬ s = 2 by omega)
  have b3 : (s == 3) = false := by simpa using (show ¬ s = 3 by omega)
  have b4 : (s == 4) = false := by simpa using (show ¬ s = 4 by omega)
  have b5 : (s == 5) = false := by simpa using (show ¬ s = 5 by omega)
  clear hs
  go_enter Tryd.func10, Tryd.ntmps10
  go_wp2_with fail
  go_ret
  exact ⟨rfl, rfl⟩
def StepRel (w1 : World) (l : List UInt8) (n i : Value) (wr : World) : Prop := w1 = wr ∧ ∃ (j N : Nat), 1 ≤ j ∧ j ≤ l.length ∧ i = .int .i64 (j : Int) ∧ n = .int .i64 (N : Int) ∧ N ≤ 16384 ∧ Hid (N = sumTo l j)
set_option maxHeartbeats 6400000 in
theorem RefStep_in (e s : Nat) (w : World) (he : e < 16) (hs : s < 6) : Calls Tryd.prog 8 #[.int .i64 (s : Int), .int .i64 (e : Int)] w fun r w' => r = .returned (.tuple #[.int .i64 (toN e s : Int), .int .i64 (deN e s : Int)]) ∧ Below w.heap.size w w' := by
  obtain ⟨h1, h8, h48, hsum, _⟩ := cell_ok he hs
  have Q := Lib.hid (row_in e w he)
  have hl0 : (rowVals e)[s]? = some (.string ⟨(textOf e s).toArray⟩) := by
    unfold rowVals
    rw [List.getElem?_map, List.getElem?_range hs]
    rfl
  have HL0 := Lib.hid hl0
  obtain ⟨l, hl⟩ : ∃ l, l = textOf e s := ⟨_, rfl⟩
  obtain ⟨T, hT⟩ : ∃ T, T = toN e s := ⟨_, rfl⟩
  obtain ⟨U, hU⟩ : ∃ U, U = deN e s := ⟨_, rfl⟩
  rw [← hl] at HL0 h1 h8 h48 hsum
  rw [← hT] at h48
  rw [← hU] at hsum
  rw [← hT, ← hU]
  have HSM := Lib.hid hsum
  have H48 := Lib.hid h48
  have H1 := Lib.hid h1
  have hs0 : ¬ (s : Int) < 0 := by omega
  have hs5 : ¬ 5 < (s : Int) := by omega
  have hs6 : (s : Int) < 6 := by omega
  have hs1 : 0 ≤ (s : Int) := by omega
  have QB := Lib.hid (fun (c : UInt8) (W : World) => bit_any c.toNat W (UInt8.toNat_lt c))
  have hT9 : T ≤ 5 := by rw [hT]; exact tab_le he hs
  clear hl0 hl hT hU hsum h48
  go_enter Tryd.func8, Tryd.ntmps8
  go_wp2_with fail
  refine Q.out.mono ?_
  rintro r w1 ⟨rfl, hk, hb1⟩
  have hc : w1.cell? ⟨w.heap.size, s, none⟩ = some (.string ⟨l.toArray⟩) := (hk.cell s).trans HL0.out
  have HB := Lib.hid hb1
  have HLen := Lib.hid h8
  clear hk hb1
  go_wp2_with fail
  go_loopw [8, 9] (fun n i wr => StepRel w1 l n i wr) (fun _ i _ => l.length - (intOf i).toNat)
  case atStart => exact ⟨rfl, 1, 0, by omega, H1.out, rfl, rfl, by omega, Lib.hid (sum_one l).symm⟩
  case round =>
    obtain ⟨rfl, j, N, hj1, hj, rfl, rfl, hN, HN⟩ := hrel
    by_cases hlt : j < l.length
    · obtain ⟨c, hcc⟩ : ∃ c, l[j]? = some c := ⟨_, List.getElem?_eq_getElem hlt⟩
      have HS := Lib.hid (sum_step hj1 hcc)
      have hg : l.getD j 0 = c := by simp [List.getD, hcc]
      have hix : ∀ W, (Instr.index 9 (.string ⟨l.toArray⟩) (.int .i64 (j : Int))).run Tryd.prog W = .ok (.int .u8 (c.toNat : Int)) W := fun W => by rw [← hg]; exact index21 l j _ rfl hlt W
      have hle := sum_le l (j + 1)
      have hN2 : N + bitN c.toNat ≤ 16384 := by rw [HN.out, ← HS.out]; have := HLen.out; omega
      have QC := Lib.hid (QB.out c)
      obtain ⟨m, hm⟩ : ∃ m, m = bitN c.toNat := ⟨_, rfl⟩
      rw [← hm] at QC HS hN2
      clear hcc hg hle hm
      go_wp2_with fail
      refine (QC.out _).mono ?_
      rintro r w' ⟨rfl, rfl⟩
      go_wp2_with fail
      go_roundw
      case rel => exact ⟨rfl, j + 1, N + m, by omega, hlt, by go_num, by go_num, hN2, Lib.hid (by rw [HS.out, HN.out])⟩
      case measure => simp [intOf]; omega
    · obtain rfl : j = l.length := by omega
      have hix : ∀ W, (Instr.index 9 (.string ⟨l.toArray⟩) (.int .i64 0)).run Tryd.prog W = .ok (.int .u8 ((48 + T : Nat) : Int)) W := fun W => by rw [← H48.out]; exact index21 l 0 _ rfl H1.out W
      have HU : Hid (N = U) := HN.out.trans HSM.out
      go_wp2_with fail
      go_ret2
      exact ⟨by rw [← HU.out]; first | rfl | go_num, HB.out⟩
theorem RefStep_out (e s : Int) (w : World) (h : s < 0 ∨ 6 ≤ s ∨ e < 0 ∨ 16 ≤ e) : Calls Tryd.prog 8 #[.int .i64 s, .int .i64 e] w fun r w' => r = .returned (.tuple #[.int .i64 0, .int .i64 0]) ∧ Below w.heap.size w w' := by
  by_cases he : e < 0 ∨ 16 ≤ e
  · have Q := Lib.hid (row_out e w he)
    clear he h
    by_cases h0 : s < 0
    · go_enter Tryd.func8, Tryd.ntmps8
      go_wp2_with fail
      refine Q.out.mono ?_
      rintro r w' ⟨rfl, rfl⟩
      go_wp2_with fail
      go_ret2
      exact ⟨rfl, Below.refl _ _⟩
    · by_cases h5 : 5 < s
      · go_enter Tryd.func8, Tryd.ntmps8
        go_wp2_with fail
        refine Q.out.mono ?_
        rintro r w' ⟨rfl, rfl⟩
        go_wp2_with fail
        go_ret2
        exact ⟨rfl, Below.refl _ _⟩
      · have d5 : decide (5 < s) = false := by simpa using h5
        go_enter Tryd.func8, Tryd.ntmps8
        go_wp2_with fail
        refine Q.out.mono ?_
        rintro r w' ⟨rfl, rfl⟩
        go_wp2_with fail
        go_ret2
        exact ⟨rfl, Below.refl _ _⟩
  · obtain ⟨n, rfl⟩ := Int.eq_ofNat_of_zero_le (show 0 ≤ e by omega)
    have Q := Lib.hid (row_in n w (by omega))
    have hs : s < 0 ∨ 5 < s := by omega
    clear he h
    rcases hs with h0 | h5
    · go_enter Tryd.func8, Tryd.ntmps8
      go_wp2_with fail
      refine Q.out.mono ?_
      rintro r w1 ⟨rfl, hk, hb1⟩
      have HB := Lib.hid hb1
      clear hk hb1
      go_wp2_with fail
      go_ret2
      exact ⟨rfl, HB.out⟩
    · have h0 : ¬ s < 0 := by omega
      go_enter Tryd.func8, Tryd.ntmps8
      go_wp2_with fail
      refine Q.out.mono ?_
      rintro r w1 ⟨rfl, hk, hb1⟩
      have HB := Lib.hid hb1
      clear hk hb1
      go_wp2_with fail
      go_ret2
      exact ⟨rfl, HB.out⟩
end Go.Proofs.YthjnbjhdepfclaaDoor

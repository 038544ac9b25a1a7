/-
  Texts of this seat, put together: Look4.
-/
import Derived.WalkLawsBesides
import Derived.WalkSpells
import Derived.Test.YtnaangnmlbgmkaaGreatDoorMg1
/-
  What attributes look like: the table, which kinds are known, their flags; which numbers may be next ones.
-/
namespace Go.Proofs.YtnaangnmlbgmkaaGreatDoor
set_option linter.unusedVariables false
set_option linter.unusedSimpArgs false
open Go.RowKit

/-- What an attribute of a kind looks like: kind, flags, narrow, wide, unit. -/
abbrev Look := Int × Int × Int × Int × Int
def looksL : List Look := [(1, 64, 1, 1, 0), (2, 64, 0, 0, 1), (3, 64, 4, 4, 0), (4, 128, 4, 4, 0), (5, 64, 4, 4, 0), (6, 64, 0, 0, 0), (7, 192, 6, 8, 0), (8, 192, 0, 0, 4), (17, 192, 0, 0, 1), (18, 192, 0, 0, 1)]
def Look.cells (l : Look) : List Value := [.int .i64 l.1, .int .i64 l.2.1, .int .i64 l.2.2.1, .int .i64 l.2.2.2.1, .int .i64 l.2.2.2.2]
def lookCells : Array Value := (looksL.flatMap Look.cells).toArray
/-- The table lies in its block. -/
def TabK (w : World) : Prop := ∃ t fr, w.heap[0]? = some (.cells lookCells t fr)
theorem TabK.lt {w : World} (h : TabK w) : 0 < w.heap.size := by obtain ⟨_, _, h⟩ := h; exact (Array.getElem?_eq_some_iff.1 h).1
theorem TabK.below {w w' : World} {B : Nat} (h : TabK w) (hb : Below B w w') (hB : 0 < B) : TabK w' := by
  obtain ⟨t, fr, h⟩ := h
  exact ⟨t, fr, (hb.block _ hB).trans h⟩
theorem below_lk {w w' : World} {o : Obj} (hb : Below (w.alloc o).heap.size (w.alloc o) w') : Below w.heap.size w w' := ((Below.refl _ _).alloc (Nat.le_refl _) o).trans (hb.mono (by simp))
/-- What a kind looks like. -/
def lookN (k : Int) : Option Look := looksL.find? fun l => l.1 == k
def retLook (r : Option Look) : Value := match r with
  | none => .tuple #[.agg #[.int .i64 0, .int .i64 0, .int .i64 0, .int .i64 0, .int .i64 0], .bool false]
  | some l => .tuple #[.agg #[.int .i64 l.1, .int .i64 l.2.1, .int .i64 l.2.2.1, .int .i64 l.2.2.2.1, .int .i64 l.2.2.2.2], .bool true]
theorem look_row (j : Nat) (h10 : j < 10) (w : World) : (Instr.index 149 (.agg lookCells) (.int .i64 (j : Int))).run Tryz.prog w = .ok (.agg (lookCells.extract (j * 5) (j * 5 + 5))) w := by
  rcases (show j = 0 ∨ j = 1 ∨ j = 2 ∨ j = 3 ∨ j = 4 ∨ j = 5 ∨ j = 6 ∨ j = 7 ∨ j = 8 ∨ j = 9 by omega) with rfl | rfl | rfl | rfl | rfl | rfl | rfl | rfl | rfl | rfl
  · kernel_rfl
  · kernel_rfl
  · kernel_rfl
  · kernel_rfl
  · kernel_rfl
  · kernel_rfl
  · kernel_rfl
  · kernel_rfl
  · kernel_rfl
  · kernel_rfl
theorem look_ext : ∀ j : Nat, j < 10 → ∀ l, looksL[j]? = some l → lookCells.extract (j * 5) (j * 5 + 5) = #[.int .i64 l.1, .int .i64 l.2.1, .int .i64 l.2.2.1, .int .i64 l.2.2.2.1, .int .i64 l.2.2.2.2] := by
  intro j hj l h
  rcases (show j = 0 ∨ j = 1 ∨ j = 2 ∨ j = 3 ∨ j = 4 ∨ j = 5 ∨ j = 6 ∨ j = 7 ∨ j = 8 ∨ j = 9 by omega) with rfl | rfl | rfl | rfl | rfl | rfl | rfl | rfl | rfl | rfl <;> (simp [looksL] at h; subst h; rfl)
theorem look_index (j : Nat) (l : Look) (hj : looksL[j]? = some l) (w : World) : (Instr.index 149 (.agg lookCells) (.int .i64 (j : Int))).run Tryz.prog w = .ok (.agg #[.int .i64 l.1, .int .i64 l.2.1, .int .i64 l.2.2.1, .int .i64 l.2.2.2.1, .int .i64 l.2.2.2.2]) w := by
  have h10 : j < 10 := (List.getElem?_eq_some_iff.1 hj).1
  rw [look_row j h10 w, look_ext j h10 l hj]
theorem look_hit {k : Int} {j : Nat} {l : Look} (hj : looksL[j]? = some l) (hk : l.1 = k) (hno : ∀ i x, i < j → looksL[i]? = some x → ¬ x.1 = k) : lookN k = some l := by
  unfold lookN
  rw [List.find?_eq_some_iff_getElem]
  obtain ⟨h1, h2⟩ := List.getElem?_eq_some_iff.1 hj
  exact ⟨by simp [hk], j, h1, h2, fun i hi => by simpa using hno i _ hi (List.getElem?_eq_getElem (by omega))⟩
theorem look_none {k : Int} (hno : ∀ i x, i < 10 → looksL[i]? = some x → ¬ x.1 = k) : lookN k = none := by
  unfold lookN
  rw [List.find?_eq_none]
  intro x hx
  obtain ⟨i, hi⟩ := List.getElem?_of_mem hx
  simpa using hno i x (List.getElem?_eq_some_iff.1 hi).1 hi

set_option maxHeartbeats 3200000 in
theorem lookOf_any (k : Int) (w : World) (ht : TabK w) :
    Calls Tryz.prog 77 #[.int .i64 k] w fun e w' => e = .returned (retLook (lookN k)) ∧ Below w.heap.size w w' := by
  have hb0 := (Below.refl w.heap.size w).alloc (Nat.le_refl _) (.cells #[.int .i64 0, .int .i64 0, .int .i64 0, .int .i64 0, .int .i64 0] 121)
  obtain ⟨tt, fr, HR⟩ : ∃ t fr, Hid ((w.alloc (.cells #[.int .i64 0, .int .i64 0, .int .i64 0, .int .i64 0, .int .i64 0] 121)).heap[0]? = some (.cells lookCells t fr)) := by
    obtain ⟨t, fr, h⟩ := ht.below hb0 ht.lt
    exact ⟨t, fr, h⟩
  have HK := Lib.hid (fun (w' : World) (hb : Below (w.alloc (.cells #[.int .i64 0, .int .i64 0, .int .i64 0, .int .i64 0, .int .i64 0] 121)).heap.size (w.alloc (.cells #[.int .i64 0, .int .i64 0, .int .i64 0, .int .i64 0, .int .i64 0] 121)) w') => (Blk.new w 121 [.int .i64 0, .int .i64 0, .int .i64 0, .int .i64 0, .int .i64 0]).below hb (by simp))
  have HB0 := Lib.hid hb0
  obtain ⟨T, hT⟩ : ∃ T, T = lookCells := ⟨_, rfl⟩
  have HI := Lib.hid (fun j l hj w => look_index j l hj w)
  rw [← hT] at HR HI
  have hTs : T.size = 50 := by rw [hT]; rfl
  have HTS := Lib.hid hTs
  clear ht hb0 hT hTs
  go_enter Tryz.func77, Tryz.ntmps77
  go_wp2_with (refine wpList_load_row rfl 149 _ rfl 0 rfl tt _ fr _ HR.out Tryz.underlying149 rfl (by rw [HTS.out]; kernel_rfl) ?_)
  go_loopw [7] (fun i wr => ∃ j : Nat, j ≤ 10 ∧ i = .int .i64 (j : Int) ∧ Below (w.alloc (.cells #[.int .i64 0, .int .i64 0, .int .i64 0, .int .i64 0, .int .i64 0] 121)).heap.size (w.alloc (.cells #[.int .i64 0, .int .i64 0, .int .i64 0, .int .i64 0, .int .i64 0] 121)) wr ∧ Hid (∀ i x, i < j → looksL[i]? = some x → ¬ x.1 = k)) (fun i _ => 10 - (intOf i).toNat)
  case atStart => exact ⟨0, by omega, rfl, Below.refl _ _, Lib.hid (fun i x h => by omega)⟩
  case round =>
    obtain ⟨j, hj, rfl, hbr, hno⟩ := hrel
    by_cases hlt : j < 10
    · obtain ⟨l, hl⟩ : ∃ l, looksL[j]? = some l := ⟨_, List.getElem?_eq_getElem hlt⟩
      have hix := fun w => HI.out j l hl w
      have hbA := hbr.alloc hbr.size (.cells #[.int .i64 l.1, .int .i64 l.2.1, .int .i64 l.2.2.1, .int .i64 l.2.2.2.1, .int .i64 l.2.2.2.2] 121)
      have hjI : (j : Int) < 10 := by omega
      by_cases hk : l.1 = k
      · have HE := Lib.hid (look_hit hl hk hno.out)
        have hkb : (l.1 == k) = true := by simpa using hk
        have hq := HK.out _ hbr
        have c0 : wr.cell? ⟨w.heap.size, 0, none⟩ = some (.int .i64 0) := hq.cell 0
        have c1 : wr.cell? ⟨w.heap.size, 1, none⟩ = some (.int .i64 0) := hq.cell 1
        have c2 : wr.cell? ⟨w.heap.size, 2, none⟩ = some (.int .i64 0) := hq.cell 2
        have c3 : wr.cell? ⟨w.heap.size, 3, none⟩ = some (.int .i64 0) := hq.cell 3
        have c4 : wr.cell? ⟨w.heap.size, 4, none⟩ = some (.int .i64 0) := hq.cell 4
        have f0 := hq.free 0
        have f1 := hq.free 1
        have f2 := hq.free 2
        have f3 := hq.free 3
        have f4 := hq.free 4
        have hlw := hq.lt
        have hne : ¬ w.heap.size = wr.heap.size := by omega
        have hne2 : ¬ wr.heap.size = w.heap.size := by omega
        have hbf := (((((below_lk hbr).setCell (p := ⟨w.heap.size, 0, none⟩) (Nat.le_refl _) (.int .i64 l.1)).setCell (p := ⟨w.heap.size, 1, none⟩) (Nat.le_refl _) (.int .i64 l.2.1)).setCell (p := ⟨w.heap.size, 2, none⟩) (Nat.le_refl _) (.int .i64 l.2.2.1)).setCell (p := ⟨w.heap.size, 3, none⟩) (Nat.le_refl _) (.int .i64 l.2.2.2.1)).setCell (p := ⟨w.heap.size, 4, none⟩) (Nat.le_refl _) (.int .i64 l.2.2.2.2)
        have hbe := hbf.alloc hbf.size (.cells #[.int .i64 l.1, .int .i64 l.2.1, .int .i64 l.2.2.1, .int .i64 l.2.2.2.1, .int .i64 l.2.2.2.2] 121)
        clear hno hk hl hbr hbA hq hbf
        go_wp2_with fail
        exact bodyPost_ret (v := retLook (some l)) (by simp [results, Tryz.results77, go_sem, retLook, *]) rfl ⟨by rw [HE.out], hbe⟩
      · have HN := Lib.hid (show ∀ i x, i < j + 1 → looksL[i]? = some x → ¬ x.1 = k from fun i x hi hx => by
          by_cases e : i = j
          · subst e; rw [hl] at hx; cases hx; exact hk
          · exact hno.out i x (by omega) hx)
        have hkb : (l.1 == k) = false := by simpa using hk
        clear hno hk hl
        go_wp2_with fail
        go_roundw
        case rel => exact ⟨j + 1, by omega, by go_num, hbA, HN⟩
        case measure => simp [intOf]; omega
    · obtain rfl : j = 10 := by omega
      have HE := Lib.hid (look_none hno.out)
      have hq := HK.out _ hbr
      have c0 : wr.cell? ⟨w.heap.size, 0, none⟩ = some (.int .i64 0) := hq.cell 0
      have c1 : wr.cell? ⟨w.heap.size, 1, none⟩ = some (.int .i64 0) := hq.cell 1
      have c2 : wr.cell? ⟨w.heap.size, 2, none⟩ = some (.int .i64 0) := hq.cell 2
      have c3 : wr.cell? ⟨w.heap.size, 3, none⟩ = some (.int .i64 0) := hq.cell 3
      have c4 : wr.cell? ⟨w.heap.size, 4, none⟩ = some (.int .i64 0) := hq.cell 4
      have f0 := hq.free 0
      have f1 := hq.free 1
      have f2 := hq.free 2
      have f3 := hq.free 3
      have f4 := hq.free 4
      have hbe := (((((below_lk hbr).setCell (p := ⟨w.heap.size, 0, none⟩) (Nat.le_refl _) (.int .i64 0)).setCell (p := ⟨w.heap.size, 1, none⟩) (Nat.le_refl _) (.int .i64 0)).setCell (p := ⟨w.heap.size, 2, none⟩) (Nat.le_refl _) (.int .i64 0)).setCell (p := ⟨w.heap.size, 3, none⟩) (Nat.le_refl _) (.int .i64 0)).setCell (p := ⟨w.heap.size, 4, none⟩) (Nat.le_refl _) (.int .i64 0)
      clear hno hbr hq
      go_wp2_with fail
      exact bodyPost_ret (v := retLook none) (by simp [results, Tryz.results77, go_sem, retLook, *]) rfl ⟨by rw [HE.out], hbe⟩

/-- Is a kind known? -/
def knownB (k : Int) : Bool := (lookN k).isSome
set_option maxHeartbeats 1600000 in
theorem Known_any (k : Int) (w : World) (ht : TabK w) :
    Calls Tryz.prog 133 #[.int .i64 k] w fun e w' => e = .returned (.bool (knownB k)) ∧ Below w.heap.size w w' := by
  have Q := Lib.hid (lookOf_any k w ht)
  have HE : knownB k = (lookN k).isSome := rfl
  obtain ⟨B, hB⟩ : ∃ B, B = knownB k := ⟨_, rfl⟩
  rw [← hB] at HE ⊢
  cases hl : lookN k with
  | none =>
    rw [hl] at Q HE
    have e1 := Lib.hid HE
    clear HE hl hB ht
    unfold retLook at Q
    go_enter Tryz.func133, Tryz.ntmps133
    go_wp2_with fail
    refine Q.out.mono ?_
    rintro e w1 ⟨rfl, hb1⟩
    have hb2 := hb1.alloc hb1.size (.cells #[.int .i64 0, .int .i64 0, .int .i64 0, .int .i64 0, .int .i64 0] 121)
    go_wp2_with fail
    go_ret
    exact ⟨by rw [e1.out]; rfl, hb2⟩
  | some l =>
    rw [hl] at Q HE
    have e1 := Lib.hid HE
    clear HE hl hB ht
    unfold retLook at Q
    go_enter Tryz.func133, Tryz.ntmps133
    go_wp2_with fail
    refine Q.out.mono ?_
    rintro e w1 ⟨rfl, hb1⟩
    have hb2 := hb1.alloc hb1.size (.cells #[.int .i64 l.1, .int .i64 l.2.1, .int .i64 l.2.2.1, .int .i64 l.2.2.2.1, .int .i64 l.2.2.2.2] 121)
    go_wp2_with fail
    go_ret
    exact ⟨by rw [e1.out]; rfl, hb2⟩
end Go.Proofs.YtnaangnmlbgmkaaGreatDoor

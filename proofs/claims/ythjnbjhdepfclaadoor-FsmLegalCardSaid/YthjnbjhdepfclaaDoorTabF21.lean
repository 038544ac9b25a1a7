/-
  The table and the names as they lie; Step, Name, by the program.
-/
import Derived.Test.YthjnbjhdepfclaaDoorBase
import Derived.Test.YthjnbjhdepfclaaDoorSeat
import Derived.Test.YthjnbjhdepfclaaDoorFsm21
namespace Go.Proofs.YthjnbjhdepfclaaDoor
set_option linter.unusedVariables false
set_option linter.unusedSimpArgs false
open Go.RowKit

noncomputable def tabCells21 : Array Value := (tabL.map fun (n : Nat) => Value.int .u16 (n : Int)).toArray
noncomputable def nameCells21 : Array Value := (nameL.map fun l => Value.string ⟨l.toArray⟩).toArray
/-- The table lies in its block, the names in theirs. -/
def TabF (w : World) : Prop := (∃ t fr, w.heap[0]? = some (.cells tabCells21 t fr)) ∧ ∃ t fr, w.heap[1]? = some (.cells nameCells21 t fr)
theorem TabF.lt {w : World} (h : TabF w) : 0 < w.heap.size ∧ 1 < w.heap.size := by
  obtain ⟨⟨_, _, h1⟩, _, _, h2⟩ := h
  exact ⟨(Array.getElem?_eq_some_iff.1 h1).1, (Array.getElem?_eq_some_iff.1 h2).1⟩
theorem TabF.go {w w' : World} (h : TabF w) (hb : Below w.heap.size w w') : TabF w' := by
  obtain ⟨l1, l2⟩ := h.lt
  obtain ⟨⟨t, fr, h1⟩, t2, fr2, h2⟩ := h
  exact ⟨⟨t, fr, (hb.block _ l1).trans h1⟩, t2, fr2, (hb.block _ l2).trans h2⟩
theorem TabF.cell {w : World} (h : TabF w) {e s : Nat} (he : e < 16) (hs : s < 6) : w.cell? ⟨0, e * 6 + s, none⟩ = some (.int .u16 (tabN e s : Int)) := by
  obtain ⟨⟨t, fr, h⟩, _⟩ := h
  rw [cell_of_row w _ _ _ t fr h]
  have hl : e * 6 + s < tabL.length := by show _ < 96; omega
  unfold tabCells21 tabN
  simp [List.getD, hl]
theorem TabF.name {w : World} (h : TabF w) {s : Nat} (hs : s < 6) : w.cell? ⟨1, s, none⟩ = some (.string ⟨(nameOf s).toArray⟩) := by
  obtain ⟨_, t, fr, h⟩ := h
  rw [cell_of_row w _ _ _ t fr h]
  have hl : s < nameL.length := hs
  unfold nameCells21 nameOf
  simp [List.getD, hl]
theorem i64_and_small (a b : Nat) (ha : a < 65536) (hb : b < 65536) : bits .and .i64 (a : Int) (b : Int) = ((a &&& b : Nat) : Int) := by
  have hx : a &&& b < 2 ^ 16 := Nat.and_lt_two_pow _ (by omega)
  have f : ∀ n : Nat, n < 65536 → (BitVec.ofInt 64 (n : Int)).toNat = n := fun n hn => by
    rw [BitVec.ofInt_natCast, BitVec.toNat_ofNat]; exact Nat.mod_eq_of_lt (by omega)
  show IntKind.i64.wrap ((BitVec.ofInt 64 (a : Int) &&& BitVec.ofInt 64 (b : Int)).toNat : Int) = _
  rw [BitVec.toNat_and, f a ha, f b hb, IntKind.wrap_i64]
  omega
theorem and_4095 (a : Nat) (ha : a < 65536) : bits .and .i64 (a : Int) 4095 = ((a % 4096 : Nat) : Int) := by
  have h := i64_and_small a 4095 ha (by omega)
  rw [show a &&& 4095 = a % 4096 from Nat.and_two_pow_sub_one_eq_mod a 12] at h
  exact h
theorem isState_yes (s : Int) (w : World) (h0 : 0 ≤ s) (h1 : s < 6) : Calls Tryd.prog 17 #[.int .i64 s] w fun e w' => e = .returned (.bool true) ∧ w = w' := by
  go_enter Tryd.func17, Tryd.ntmps17
  go_wp2_with fail
  go_ret
  exact ⟨rfl, rfl⟩
theorem isState_no (s : Int) (w : World) (h : s < 0 ∨ 6 ≤ s) : Calls Tryd.prog 17 #[.int .i64 s] w fun e w' => e = .returned (.bool false) ∧ w = w' := by
  rcases h with h | h
  · have hd : ¬ 0 ≤ s := by omega
    go_enter Tryd.func17, Tryd.ntmps17
    go_wp2_with fail
    go_ret
    exact ⟨rfl, rfl⟩
  · have hd0 : 0 ≤ s := by omega
    have hd : decide (s < 6) = false := by simpa using h
    go_enter Tryd.func17, Tryd.ntmps17
    go_wp2_with fail
    go_ret
    exact ⟨rfl, rfl⟩
theorem isEvent_yes (s : Int) (w : World) (h0 : 0 ≤ s) (h1 : s < 16) : Calls Tryd.prog 18 #[.int .i64 s] w fun e w' => e = .returned (.bool true) ∧ w = w' := by
  go_enter Tryd.func18, Tryd.ntmps18
  go_wp2_with fail
  go_ret
  exact ⟨rfl, rfl⟩
theorem isEvent_no (s : Int) (w : World) (h : s < 0 ∨ 16 ≤ s) : Calls Tryd.prog 18 #[.int .i64 s] w fun e w' => e = .returned (.bool false) ∧ w = w' := by
  rcases h with h | h
  · have hd : ¬ 0 ≤ s := by omega
    go_enter Tryd.func18, Tryd.ntmps18
    go_wp2_with fail
    go_ret
    exact ⟨rfl, rfl⟩
  · have hd0 : 0 ≤ s := by omega
    have hd : decide (s < 16) = false := by simpa using h
    go_enter Tryd.func18, Tryd.ntmps18
    go_wp2_with fail
    go_ret
    exact ⟨rfl, rfl⟩
theorem Name_in (s : Nat) (w : World) (hs : s < 6) (ht : TabF w) : Calls Tryd.prog 9 #[.int .i64 (s : Int)] w fun e w' => e = .returned (.string ⟨(nameOf s).toArray⟩) ∧ w = w' := by
  have d1 := ht.name hs
  have Q := Lib.hid (fun W => isState_yes (s : Int) W (by omega) (by omega))
  obtain ⟨N, hN⟩ : ∃ N, N = (⟨(nameOf s).toArray⟩ : ByteArray) := ⟨_, rfl⟩
  rw [← hN] at d1 ⊢
  clear hN ht
  go_enter Tryd.func9, Tryd.ntmps9
  go_wp2_with fail
  refine (Q.out _).mono ?_
  rintro e w' ⟨rfl, rfl⟩
  go_wp2_with fail
  go_ret
  exact ⟨rfl, rfl⟩
theorem Name_out (s : Int) (w : World) (hs : s < 0 ∨ 6 ≤ s) : Calls Tryd.prog 9 #[.int .i64 s] w fun e w' => e = .returned (.string ⟨#[]⟩) ∧ w = w' := by
  have Q := Lib.hid (fun W => isState_no s W hs)
  clear hs
  go_enter Tryd.func9, Tryd.ntmps9
  go_wp2_with fail
  refine (Q.out _).mono ?_
  rintro e w' ⟨rfl, rfl⟩
  go_wp2_with fail
  go_ret
  exact ⟨rfl, rfl⟩
theorem Step_in (e s : Nat) (w : World) (he : e < 16) (hs : s < 6) (ht : TabF w) : Calls Tryd.prog 7 #[.int .i64 (s : Int), .int .i64 (e : Int)] w fun r w' => r = .returned (.tuple #[.int .i64 (toN e s : Int), .int .i64 (deN e s : Int)]) ∧ w = w' := by
  have d1 := ht.cell he hs
  have hx := (cell_ok he hs).2.2.2.2
  have Q := Lib.hid (fun W => isState_yes (s : Int) W (by omega) (by omega))
  have Q2 := Lib.hid (fun W => isEvent_yes (e : Int) W (by omega) (by omega))
  have HT : Hid (toN e s = tabN e s / 4096 ∧ deN e s = tabN e s % 4096) := ⟨rfl, rfl⟩
  obtain ⟨T, hT⟩ : ∃ T, T = toN e s := ⟨_, rfl⟩
  obtain ⟨U, hU⟩ : ∃ U, U = deN e s := ⟨_, rfl⟩
  have HA := Lib.hid (and_4095 (tabN e s) hx)
  obtain ⟨x, hxx⟩ : ∃ x, x = tabN e s := ⟨_, rfl⟩
  rw [← hT, ← hU]
  rw [← hT, ← hU, ← hxx] at HT
  rw [← hxx] at d1 hx HA
  clear hT hU hxx ht
  go_enter Tryd.func7, Tryd.ntmps7
  go_wp2_with fail
  refine (Q.out _).mono ?_
  rintro e w' ⟨rfl, rfl⟩
  go_wp2_with fail
  refine (Q2.out _).mono ?_
  rintro e w' ⟨rfl, rfl⟩
  go_wp2_with fail
  go_ret2
  refine ⟨?_, rfl⟩
  have e1 : ((x : Int) / 4096) = (T : Int) := by rw [HT.out.1]; omega
  have e2 : bits .and .i64 (x : Int) 4095 = (U : Int) := by rw [HA.out, HT.out.2]
  rw [e1, e2]
  rfl
theorem Step_out (e s : Int) (w : World) (h : s < 0 ∨ 6 ≤ s ∨ e < 0 ∨ 16 ≤ e) : Calls Tryd.prog 7 #[.int .i64 s, .int .i64 e] w fun r w' => r = .returned (.tuple #[.int .i64 0, .int .i64 0]) ∧ w = w' := by
  by_cases hs : s < 0 ∨ 6 ≤ s
  · have Q := Lib.hid (fun W => isState_no s W hs)
    clear h hs
    go_enter Tryd.func7, Tryd.ntmps7
    go_wp2_with fail
    refine (Q.out _).mono ?_
    rintro r w' ⟨rfl, rfl⟩
    go_wp2_with fail
    go_ret2
    exact ⟨rfl, rfl⟩
  · have Q := Lib.hid (fun W => isState_yes s W (by omega) (by omega))
    have Q2 := Lib.hid (fun W => isEvent_no e W (by omega))
    clear h hs
    go_enter Tryd.func7, Tryd.ntmps7
    go_wp2_with fail
    refine (Q.out _).mono ?_
    rintro r w' ⟨rfl, rfl⟩
    go_wp2_with fail
    refine (Q2.out _).mono ?_
    rintro r w' ⟨rfl, rfl⟩
    go_wp2_with fail
    go_ret2
    exact ⟨rfl, rfl⟩
end Go.Proofs.YthjnbjhdepfclaaDoor

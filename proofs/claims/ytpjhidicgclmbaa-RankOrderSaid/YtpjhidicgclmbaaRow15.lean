/-
  Rows of runners in memory.
-/
import Derived.Test.YtpjhidicgclmbaaRunner15
import Derived.Laws.MakeOwn
namespace Go.Proofs.Ytpjhidicgclmbaa
set_option linter.unusedVariables false
set_option linter.unusedSimpArgs false
open Go.RowKit

def flatR (X : List Rn) : List Value := X.flatMap Rn.row
theorem flatR_len : ∀ X : List Rn, (flatR X).length = X.length * 10
  | [] => rfl
  | x :: X => by
    have := flatR_len X
    unfold flatR at this ⊢
    rw [List.flatMap_cons, List.length_append, this]
    simp [Rn.row]
    omega
theorem flatR_cons (x : Rn) (X : List Rn) : flatR (x :: X) = x.row ++ flatR X := by unfold flatR; rw [List.flatMap_cons]
theorem flatR_at : ∀ (X : List Rn) (j : Nat) (x : Rn), X[j]? = some x → ∀ i u, x.row[i]? = some u → (flatR X)[j * 10 + i]? = some u
  | [], j, x, h, i, u, hu => by simp at h
  | a :: X, 0, x, h, i, u, hu => by
    obtain rfl : a = x := by simpa using h
    have hi := (List.getElem?_eq_some_iff.1 hu).1
    rw [flatR_cons, List.getElem?_append_left (by omega)]
    rw [Nat.zero_mul, Nat.zero_add]
    exact hu
  | a :: X, j + 1, x, h, i, u, hu => by
    have h' : X[j]? = some x := by simpa using h
    have hr : a.row.length = 10 := rfl
    rw [flatR_cons, List.getElem?_append_right (by omega), hr, show (j + 1) * 10 + i - 10 = j * 10 + i by omega]
    exact flatR_at X j x h' i u hu
theorem flatR_set : ∀ (X : List Rn) (j : Nat) (x : Rn), j < X.length → flatR (X.set j x) = (((((((((((flatR X).set (j * 10) (.int .u32 x.near)).set (j * 10 + 1) (.int .i64 x.p)).set (j * 10 + 2) (.int .i64 x.c)).set (j * 10 + 3) (.int .i64 x.o)).set (j * 10 + 4) (.int .i64 x.m)).set (j * 10 + 5) (.int .i64 x.e)).set (j * 10 + 6) (.int .i64 x.i)).set (j * 10 + 7) (.int .i64 x.a)).set (j * 10 + 8) (.int .i64 x.r)).set (j * 10 + 9) (.int .i64 x.z))
  | [], j, x, h => by simp at h
  | a :: X, 0, x, h => by
    rw [List.set_cons_zero, flatR_cons, flatR_cons]
    simp [Rn.row, List.set]
  | a :: X, j + 1, x, h => by
    have ih := flatR_set X j x (by simpa using h)
    have hr : a.row.length = 10 := rfl
    rw [List.set_cons_succ, flatR_cons, flatR_cons, ih]
    rw [List.set_append_right _ _ (by omega), List.set_append_right _ _ (by omega), List.set_append_right _ _ (by omega), List.set_append_right _ _ (by omega), List.set_append_right _ _ (by omega), List.set_append_right _ _ (by omega), List.set_append_right _ _ (by omega), List.set_append_right _ _ (by omega), List.set_append_right _ _ (by omega), List.set_append_right _ _ (by omega)]
    rw [hr]
    simp only [show (j + 1) * 10 - 10 = j * 10 by omega, show (j + 1) * 10 + 1 - 10 = j * 10 + 1 by omega, show (j + 1) * 10 + 2 - 10 = j * 10 + 2 by omega, show (j + 1) * 10 + 3 - 10 = j * 10 + 3 by omega, show (j + 1) * 10 + 4 - 10 = j * 10 + 4 by omega, show (j + 1) * 10 + 5 - 10 = j * 10 + 5 by omega, show (j + 1) * 10 + 6 - 10 = j * 10 + 6 by omega, show (j + 1) * 10 + 7 - 10 = j * 10 + 7 by omega, show (j + 1) * 10 + 8 - 10 = j * 10 + 8 by omega, show (j + 1) * 10 + 9 - 10 = j * 10 + 9 by omega]

/-- Block g is just the runners Z. -/
def RBlk (w : World) (g : Nat) (Z : List Rn) : Prop := Blk w g 53 (flatR Z)
/-- A runner of no number. -/
def Rn0 : Rn := ⟨0, 0, 0, 0, 0, 0, 0, 0, 0, 0⟩
section
variable {w w' : World} {g : Nat} {Z : List Rn}
theorem RBlk.lt (h : RBlk w g Z) : g < w.heap.size := Blk.lt h
theorem RBlk.below {B : Nat} (h : RBlk w g Z) (hb : Below B w w') (hg : g < B) : RBlk w' g Z := Blk.below h hb hg
theorem RBlk.go (h : RBlk w g Z) (hb : Below w.heap.size w w') : RBlk w' g Z := Blk.below h hb (Blk.lt h)
theorem RBlk.at (h : RBlk w g Z) {j : Nat} {x : Rn} (hj : Z[j]? = some x) : RnAt w g (j * 10) x := by
  refine ⟨?_, fun k u hk => ?_⟩
  · have := flatR_at Z j x hj 0 (.int .u32 x.near) rfl
    rw [Blk.cell h]
    exact this
  · have h1 : x.row[k + 1]? = some (.int .i64 u) := by
      have hk9 : k < 9 := (List.getElem?_eq_some_iff.1 hk).1
      have : k = 0 ∨ k = 1 ∨ k = 2 ∨ k = 3 ∨ k = 4 ∨ k = 5 ∨ k = 6 ∨ k = 7 ∨ k = 8 := by omega
      rcases this with rfl | rfl | rfl | rfl | rfl | rfl | rfl | rfl | rfl <;> (simp [Rn.keys] at hk; subst hk; rfl)
    have := flatR_at Z j x hj (k + 1) _ h1
    rw [Blk.cell h, show j * 10 + 1 + k = j * 10 + (k + 1) by omega]
    exact this
theorem RBlk.put (h : RBlk w g Z) {j : Nat} (hj : j < Z.length) (x : Rn) : RBlk (((((((((((w.setCell ⟨g, j * 10, none⟩ (.int .u32 x.near)).setCell ⟨g, j * 10 + 1, none⟩ (.int .i64 x.p)).setCell ⟨g, j * 10 + 2, none⟩ (.int .i64 x.c)).setCell ⟨g, j * 10 + 3, none⟩ (.int .i64 x.o)).setCell ⟨g, j * 10 + 4, none⟩ (.int .i64 x.m)).setCell ⟨g, j * 10 + 5, none⟩ (.int .i64 x.e)).setCell ⟨g, j * 10 + 6, none⟩ (.int .i64 x.i)).setCell ⟨g, j * 10 + 7, none⟩ (.int .i64 x.a)).setCell ⟨g, j * 10 + 8, none⟩ (.int .i64 x.r)).setCell ⟨g, j * 10 + 9, none⟩ (.int .i64 x.z))) g (Z.set j x) := by
  unfold RBlk
  rw [flatR_set Z j x hj]
  exact (Blk.set (Blk.set (Blk.set (Blk.set (Blk.set (Blk.set (Blk.set (Blk.set (Blk.set (Blk.set h (j * 10) (.int .u32 x.near)) (j * 10 + 1) (.int .i64 x.p)) (j * 10 + 2) (.int .i64 x.c)) (j * 10 + 3) (.int .i64 x.o)) (j * 10 + 4) (.int .i64 x.m)) (j * 10 + 5) (.int .i64 x.e)) (j * 10 + 6) (.int .i64 x.i)) (j * 10 + 7) (.int .i64 x.a)) (j * 10 + 8) (.int .i64 x.r)) (j * 10 + 9) (.int .i64 x.z))
end
theorem made_flat (n : Nat) : (madeCells #[.int .u32 0, .int .i64 0, .int .i64 0, .int .i64 0, .int .i64 0, .int .i64 0, .int .i64 0, .int .i64 0, .int .i64 0, .int .i64 0] (n * 10)).toList = flatR (List.replicate n Rn0) := by
  apply List.ext_getElem?
  intro q
  have hl : (madeCells #[.int .u32 0, .int .i64 0, .int .i64 0, .int .i64 0, .int .i64 0, .int .i64 0, .int .i64 0, .int .i64 0, .int .i64 0, .int .i64 0] (n * 10)).toList.length = n * 10 := by simp [madeCells]
  by_cases hq : q < n * 10
  · have h1 : (List.replicate n Rn0)[q / 10]? = some Rn0 := by rw [List.getElem?_replicate, if_pos (by omega)]
    have hm : q % 10 = 0 ∨ q % 10 = 1 ∨ q % 10 = 2 ∨ q % 10 = 3 ∨ q % 10 = 4 ∨ q % 10 = 5 ∨ q % 10 = 6 ∨ q % 10 = 7 ∨ q % 10 = 8 ∨ q % 10 = 9 := by omega
    have h3 : q / 10 * 10 + q % 10 = q := by omega
    have h4 : (madeCells #[.int .u32 0, .int .i64 0, .int .i64 0, .int .i64 0, .int .i64 0, .int .i64 0, .int .i64 0, .int .i64 0, .int .i64 0, .int .i64 0] (n * 10)).toList[q]? = Rn0.row[q % 10]? := by
      simp only [madeCells, Array.toList_map, Array.toList_range, List.getElem?_map, List.getElem?_range hq, Option.map_some]
      have hs : (#[Value.int .u32 0, .int .i64 0, .int .i64 0, .int .i64 0, .int .i64 0, .int .i64 0, .int .i64 0, .int .i64 0, .int .i64 0, .int .i64 0] : Array Value).size = 10 := rfl
      rw [hs]
      rcases hm with e | e | e | e | e | e | e | e | e | e <;> (rw [e]; rfl)
    rw [h4]
    obtain ⟨u, hu⟩ : ∃ u, Rn0.row[q % 10]? = some u := ⟨_, List.getElem?_eq_getElem (by show q % 10 < 10; omega)⟩
    rw [hu]
    have := flatR_at _ _ _ h1 _ _ hu
    rw [h3] at this
    exact this.symm
  · rw [List.getElem?_eq_none (by omega), List.getElem?_eq_none (by rw [flatR_len]; simp; omega)]
/-- As many runners, of no number. -/
theorem make_run (n : Nat) (hn : n ≤ 1000000) (w : World) :
    ∃ w', (Instr.makeSlice 47 (.int .i64 (n : Int)) (.int .i64 (n : Int))).run Try.prog w = .ok (.slice (some ⟨w.heap.size, 0, none⟩) n n) w' ∧ RBlk w' w.heap.size (List.replicate n Rn0) ∧ Below w.heap.size w w' ∧ w'.heap.size = w.heap.size + 1 := by
  obtain ⟨i, hi, hz, hs, hb⟩ := info_parts (P := Try.prog) (e := 53) (z := .agg #[.int .u32 0, .int .i64 0, .int .i64 0, .int .i64 0, .int .i64 0, .int .i64 0, .int .i64 0, .int .i64 0, .int .i64 0, .int .i64 0]) (size := 10) (bytes := 80) (by kernel_rfl)
  have hr := run_make (P := Try.prog) w 47 53 i _ Try.underlying47 hi hz .i64 .i64 n n (by omega) (Int.le_refl _) (by rw [hb]; omega) (by omega)
  simp only [Int.toNat_natCast, hs] at hr
  refine ⟨_, hr, ?_, (Below.refl _ _).alloc (Nat.le_refl _) _, by simp⟩
  unfold RBlk
  rw [← made_flat]
  exact Blk.new w _ _
/-- The slice's address A leads to the runners X, in a block that is there. -/
def RunsAt (w : World) (A : Option Addr) (X : List Rn) : Prop := X ≠ [] → ∃ b off, A = some ⟨b, off, none⟩ ∧ b < w.heap.size ∧ ∀ (j : Nat) (x : Rn), X[j]? = some x → RnAt w b (off + j * 10) x
theorem RBlk.runs {w : World} {g : Nat} {Z : List Rn} (h : RBlk w g Z) (X : List Rn) (hX : ∃ m, X = Z.take m) : RunsAt w (some ⟨g, 0, none⟩) X := by
  obtain ⟨m, rfl⟩ := hX
  intro _
  refine ⟨g, 0, rfl, h.lt, fun j x hj => ?_⟩
  rw [List.getElem?_take] at hj
  split at hj
  · rw [Nat.zero_add]; exact h.at hj
  · cases hj
end Go.Proofs.Ytpjhidicgclmbaa

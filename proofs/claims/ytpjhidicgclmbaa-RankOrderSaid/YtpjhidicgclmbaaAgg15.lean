/-
  Candidates as values that are carried along whole: the walk's laws on loading, storing, boxing and building them.
-/
import Derived.Test.YtpjhidicgclmbaaCand15
import Derived.Laws.Cells
import Derived.Laws.IdiomCopy
namespace Go.Proofs.Ytpjhidicgclmbaa
set_option linter.unusedVariables false
set_option linter.unusedSimpArgs false
open Go.RowKit

/-- Rows of candidates in a block of the call's own. -/
def flatC (L : List Cv) : List Value := L.flatMap Cv.row
theorem flatC_cons (a : Cv) (L : List Cv) : flatC (a :: L) = a.row ++ flatC L := by unfold flatC; rw [List.flatMap_cons]
theorem flatC_at : ∀ (L : List Cv) (j : Nat) (x : Cv), L[j]? = some x → ∀ i u, x.row[i]? = some u → (flatC L)[j * 16 + i]? = some u
  | [], j, x, h, i, u, hu => by simp at h
  | a :: L, 0, x, h, i, u, hu => by
    obtain rfl : a = x := by simpa using h
    have hi := (List.getElem?_eq_some_iff.1 hu).1
    rw [flatC_cons, List.getElem?_append_left (by omega), Nat.zero_mul, Nat.zero_add]
    exact hu
  | a :: L, j + 1, x, h, i, u, hu => by
    have h' : L[j]? = some x := by simpa using h
    have hr : a.row.length = 16 := rfl
    rw [flatC_cons, List.getElem?_append_right (by omega), hr, show (j + 1) * 16 + i - 16 = j * 16 + i by omega]
    exact flatC_at L j x h' i u hu
theorem cands_new (w : World) (T : Nat) (L : List Cv) (h : ∀ s ∈ L, s.In w w.heap.size) : CandsIn (w.alloc (.cells (flatC L).toArray T)) (w.alloc (.cells (flatC L).toArray T)).heap.size (some ⟨w.heap.size, 0, none⟩) L := by
  intro _
  have k := Blk.new w T (flatC L)
  have hb : Below w.heap.size w (w.alloc (.cells (flatC L).toArray T)) := (Below.refl _ _).alloc (Nat.le_refl _) _
  refine ⟨w.heap.size, 0, rfl, by simp, fun j s hj => ⟨fun i u hu => ?_, (h s (List.mem_of_getElem? hj)).go hb⟩⟩
  rw [k.cell, Nat.zero_add]
  exact flatC_at L j s hj i u hu

/-- A candidate lies here. -/
def CvAt (w : World) (g off : Nat) (c : Cv) : Prop := ∀ i u, c.row[i]? = some u → w.cell? ⟨g, off + i, none⟩ = some u
theorem CvAt.below {w w' : World} {B g off : Nat} {c : Cv} (h : CvAt w g off c) (hb : Below B w w') (hg : g < B) : CvAt w' g off c := fun i u hu => (hb.cell (p := ⟨g, off + i, none⟩) hg).trans (h i u hu)
theorem CvAt.drewN {w : World} {g off : Nat} {c : Cv} (h : CvAt w g off c) (n : Nat) : CvAt (w.drewN n) g off c := h
theorem cv_blk {w : World} {g T : Nat} {c : Cv} (h : Blk w g T c.row) : CvAt w g 0 c := fun i u hu => by rw [h.cell, Nat.zero_add]; exact hu
theorem isAggC (w : World) : (isAgg 34).run Try.prog w = .ok true w := by kernel_rfl
theorem sizeC (w : World) : (sizeOf 34).run Try.prog w = .ok 16 w := by kernel_rfl
theorem run_loadC {w : World} {g off : Nat} {c : Cv} (h : CvAt w g off c) : (Instr.loadAt 34 (.pointer (some ⟨g, off, none⟩))).run Try.prog w = .ok c.agg w := by
  have hr : c.row.length = 16 := rfl
  have hc := run_loadCells (P := Try.prog) w ⟨g, off, none⟩ 16 (fun j => c.row.getD j undef) (fun j hj => by
    rw [Addr.add_lit]
    exact h j _ (by rw [List.getElem?_eq_getElem (by omega)]; simp [List.getD, hr, hj]))
  have e : ((List.range 16).map fun j => c.row.getD j undef).toArray = c.row.toArray := rfl
  rw [e] at hc
  simp [Instr.loadAt, Instr.sureAddr, loadVar, Sem.run_bind, isAggC, sizeC, hc, Result.andThen, Cv.agg]
theorem blk_fill {g T : Nat} : ∀ (vs cs pre : List Value) (w : World), Blk w g T (pre ++ cs) → cs.length = vs.length → Blk (w.setCells g pre.length vs) g T (pre ++ vs)
  | [], [], pre, w, h, _ => h
  | v :: vs, c :: cs, pre, w, h, hl => by
    have h1 := h.set pre.length v
    have e : (pre ++ c :: cs).set pre.length v = (pre ++ [v]) ++ cs := by simp
    rw [e] at h1
    have h2 := blk_fill vs cs (pre ++ [v]) _ h1 (by simpa using hl)
    have e2 : (pre ++ [v]).length = pre.length + 1 := by simp
    rw [e2] at h2
    simpa [World.setCells] using h2
  | [], _ :: _, _, _, _, hl => by simp at hl
  | _ :: _, [], _, _, _, hl => by simp at hl
theorem grown_setCells {g : Nat} : ∀ (vs : List Value) (o : Nat) (w w1 : World), w.grownBy w1 (some g) → w.grownBy (w1.setCells g o vs) (some g)
  | [], _, _, _, h => h
  | v :: vs, o, w, w1, h => grown_setCells vs (o + 1) w _ (grown_setCell h o v)
theorem row_one (c : Cv) : ∀ v ∈ c.row, v.oneCell' = true := by
  intro v hv
  simp only [Cv.row, List.mem_cons, List.not_mem_nil, or_false] at hv
  rcases hv with rfl | rfl | rfl | rfl | rfl | rfl | rfl | rfl | rfl | rfl | rfl | rfl | rfl | rfl | rfl | rfl <;> rfl
theorem run_storeC {w : World} {g T : Nat} {cs : List Value} {c : Cv} (h : Blk w g T cs) (hl : cs.length = 16) :
    ∃ w', (Instr.storeAt 34 (.pointer (some ⟨g, 0, none⟩)) c.agg).run Try.prog w = .ok () w' ∧ Blk w' g T c.row ∧ w.grownBy w' (some g) := by
  have hr : c.row.length = 16 := rfl
  have hs := run_storeCells_cells (P := Try.prog) g 0 c.row 0 w (fun j hj => by rw [h.cell, List.getElem?_eq_getElem (by omega)]; rfl) (fun j hj => h.free _) (row_one c)
  refine ⟨w.setCells g 0 c.row, ?_, blk_fill c.row cs [] w h (by omega), grown_setCells _ _ _ _ (grown_refl _ _)⟩
  have e : (Value.cells c.agg).toList = c.row := rfl
  have e2 : (Value.cells c.agg).size = 16 := rfl
  simp [Instr.storeAt, Instr.sureAddr, storeVar, Sem.run_bind, sizeC, e, e2, hs, Result.andThen]
theorem run_boxC (w : World) (c : Cv) : (Instr.box 34 c.agg).run Try.prog w = .ok (.pointer (some ⟨w.heap.size, 0, none⟩)) (w.alloc (.cells c.row.toArray 34)) := by kernel_rfl
theorem run_build1C (w : World) (a : Cv) : (Instr.buildSlice 22 1 #[(0, a.agg)]).run Try.prog w = .ok (.slice (some ⟨w.heap.size, 0, none⟩) 1 1) (w.alloc (.cells (flatC [a]).toArray 34)) := by kernel_rfl
theorem run_build2C (w : World) (a b : Cv) : (Instr.buildSlice 22 2 #[(0, a.agg), (1, b.agg)]).run Try.prog w = .ok (.slice (some ⟨w.heap.size, 0, none⟩) 2 2) (w.alloc (.cells (flatC [a, b]).toArray 34)) := by kernel_rfl
section
variable {ops : Array Oper} {rest : List Oper} {o : Oper} {a : Act} {Q : Exit → Act → World → Prop}
theorem wpList_loadC (w : World) (hg : o.guard = none) (p : Operand) (hop : o.op = Op.load 34 p) (g off : Nat) (c : Cv) (hp : a.eval p = .pointer (some ⟨g, off, none⟩)) (h : CvAt w g off c)
    (hK : wpList Try.prog ops Q rest (a.put o.dst c.agg) w) : wpList Try.prog ops Q (o :: rest) a w := by
  refine wpList_plain hg fun K' hK' => ?_
  unfold Oper.wp
  simp [execOp, hop, hp, run_loadC h, Result.andThen]
  exact hK' _ _ hK
theorem wpList_storeC (w : World) (hg : o.guard = none) (hd : o.dst = none) (p x : Operand) (hop : o.op = Op.store 34 p x) (g T : Nat) (cs : List Value) (c : Cv) (hp : a.eval p = .pointer (some ⟨g, 0, none⟩)) (hx : a.eval x = c.agg) (h : Blk w g T cs) (hl : cs.length = 16)
    (hK : ∀ w', Blk w' g T c.row → w.grownBy w' (some g) → wpList Try.prog ops Q rest a w') : wpList Try.prog ops Q (o :: rest) a w := by
  refine wpList_plain hg fun K' hK' => ?_
  obtain ⟨w', hrun, r1, r2⟩ := run_storeC (c := c) h hl
  unfold Oper.wp
  simp [execOp, hop, hp, hx, hrun, Result.andThen, hd]
  have e : a.put none undef = a := rfl
  exact hK' _ _ (by rw [hd]; exact hK w' r1 r2)
theorem wpList_boxC (w : World) (hg : o.guard = none) (x : Operand) (hop : o.op = Op.box 34 x) (c : Cv) (hx : a.eval x = c.agg)
    (hK : wpList Try.prog ops Q rest (a.put o.dst (.pointer (some ⟨w.heap.size, 0, none⟩))) (w.alloc (.cells c.row.toArray 34))) : wpList Try.prog ops Q (o :: rest) a w := by
  refine wpList_plain hg fun K' hK' => ?_
  unfold Oper.wp
  simp [execOp, hop, hx, run_boxC, Result.andThen]
  exact hK' _ _ hK
theorem wpList_build1C (w : World) (hg : o.guard = none) (x : Operand) (hop : o.op = Op.buildSlice 22 1 #[(0, x)]) (c : Cv) (hx : a.eval x = c.agg)
    (hK : wpList Try.prog ops Q rest (a.put o.dst (.slice (some ⟨w.heap.size, 0, none⟩) 1 1)) (w.alloc (.cells (flatC [c]).toArray 34))) : wpList Try.prog ops Q (o :: rest) a w := by
  refine wpList_plain hg fun K' hK' => ?_
  unfold Oper.wp
  simp [execOp, hop, hx, run_build1C, Result.andThen]
  exact hK' _ _ hK
theorem wpList_build2C (w : World) (hg : o.guard = none) (x y : Operand) (hop : o.op = Op.buildSlice 22 2 #[(0, x), (1, y)]) (b c : Cv) (hx : a.eval x = b.agg) (hy : a.eval y = c.agg)
    (hK : wpList Try.prog ops Q rest (a.put o.dst (.slice (some ⟨w.heap.size, 0, none⟩) 2 2)) (w.alloc (.cells (flatC [b, c]).toArray 34))) : wpList Try.prog ops Q (o :: rest) a w := by
  refine wpList_plain hg fun K' hK' => ?_
  unfold Oper.wp
  simp [execOp, hop, hx, hy, run_build2C, Result.andThen]
  exact hK' _ _ hK
end
end Go.Proofs.Ytpjhidicgclmbaa

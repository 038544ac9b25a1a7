/-
  Structs of many cells as values that are carried along whole: the walk's laws on loading, storing and building them; rows of such of a call's own. No program stands here.
-/
import Derived.Test.YtgaoonnokhlgjaaBase
import Derived.Laws.Cells
import Derived.Laws.IdiomCopy
import Derived.Maps.AppendAt
import Derived.Tactics
namespace Go.Proofs.Ytgaoonnokhlgjaa
set_option linter.unusedVariables false
set_option linter.unusedSimpArgs false
open Go.RowKit

/-- A value of these cells. -/
def aggS (row : List Value) : Value := .agg row.toArray
/-- These cells lie here. -/
def RowAt (w : World) (g off : Nat) (row : List Value) : Prop := ∀ i u, row[i]? = some u → w.cell? ⟨g, off + i, none⟩ = some u
theorem RowAt.below {w w' : World} {B g off : Nat} {row : List Value} (h : RowAt w g off row) (hb : Below B w w') (hg : g < B) : RowAt w' g off row := fun i u hu => (hb.cell (p := ⟨g, off + i, none⟩) hg).trans (h i u hu)
theorem RowAt.drew {w : World} {g off : Nat} {row : List Value} (h : RowAt w g off row) : RowAt w.drew g off row := h
theorem RowAt.same {w w' : World} {g off : Nat} {row : List Value} (h : RowAt w g off row) (hb : w'.heap[g]? = w.heap[g]?) : RowAt w' g off row := fun i u hu => (World.cell?_of_block (a := ⟨g, off + i, none⟩) hb).trans (h i u hu)
theorem Blk.rowAt {w : World} {g T : Nat} {row : List Value} (h : Blk w g T row) : RowAt w g 0 row := fun i u hu => by rw [h.cell, Nat.zero_add]; exact hu

/-- T is a struct of n cells. -/
structure IsS (P : Program) (T : TypeId) (n : Nat) : Prop where
  agg : ∀ w, (isAgg T).run P w = .ok true w
  size : ∀ w, (sizeOf T).run P w = .ok n w
theorem run_loadVarS {P : Program} {T : TypeId} {w : World} {g off : Nat} {row : List Value} (hT : IsS P T row.length) (h : RowAt w g off row) : (loadVar T ⟨g, off, none⟩).run P w = .ok (aggS row) w := by
  have hc := run_loadCells_list (P := P) w ⟨g, off, none⟩ row (fun j v hj => by rw [Addr.add_lit]; exact h j v hj)
  simp [loadVar, Sem.run_bind, hT.agg, hT.size, hc, Result.andThen, aggS]
theorem run_loadS {P : Program} {T : TypeId} {w : World} {g off : Nat} {row : List Value} (hT : IsS P T row.length) (h : RowAt w g off row) : (Instr.loadAt T (.pointer (some ⟨g, off, none⟩))).run P w = .ok (aggS row) w := by
  have := run_loadVarS hT h
  simp [Instr.loadAt, Instr.sureAddr, this]
theorem blk_fillS {g T : Nat} : ∀ (vs cs pre : List Value) (w : World), Blk w g T (pre ++ cs) → cs.length = vs.length → Blk (w.setCells g pre.length vs) g T (pre ++ vs)
  | [], [], pre, w, h, _ => h
  | v :: vs, c :: cs, pre, w, h, hl => by
    have h1 := h.set pre.length v
    have e : (pre ++ c :: cs).set pre.length v = (pre ++ [v]) ++ cs := by simp
    rw [e] at h1
    have h2 := blk_fillS vs cs (pre ++ [v]) _ h1 (by simpa using hl)
    have e2 : (pre ++ [v]).length = pre.length + 1 := by simp
    rw [e2] at h2
    simpa [World.setCells] using h2
  | [], _ :: _, _, _, _, hl => by simp at hl
  | _ :: _, [], _, _, _, hl => by simp at hl
theorem grown_setCellsS {g : Nat} : ∀ (vs : List Value) (o : Nat) (w w1 : World), w.grownBy w1 (some g) → w.grownBy (w1.setCells g o vs) (some g)
  | [], _, _, _, h => h
  | v :: vs, o, w, w1, h => grown_setCellsS vs (o + 1) w _ (grown_setCell h o v)
theorem size_setCellsS {g : Nat} : ∀ (vs : List Value) (o : Nat) (w : World), (w.setCells g o vs).heap.size = w.heap.size
  | [], _, _ => rfl
  | v :: vs, o, w => by rw [World.setCells, size_setCellsS vs (o + 1)]; simp [World.setCell]
theorem run_storeS {P : Program} {T : TypeId} {w : World} {g T' : Nat} {cs row : List Value} (hT : IsS P T row.length) (h1 : ∀ v ∈ row, v.oneCell' = true) (h : Blk w g T' cs) (hl : cs.length = row.length) :
    ∃ w', (Instr.storeAt T (.pointer (some ⟨g, 0, none⟩)) (aggS row)).run P w = .ok () w' ∧ Blk w' g T' row ∧ w.grownBy w' (some g) ∧ w'.heap.size = w.heap.size := by
  have hs := run_storeCells_cells (P := P) g 0 row 0 w (fun j hj => by rw [h.cell, List.getElem?_eq_getElem (by omega)]; rfl) (fun j hj => h.free _) h1
  refine ⟨w.setCells g 0 row, ?_, blk_fillS row cs [] w h (by omega), grown_setCellsS _ _ _ _ (grown_refl _ _), size_setCellsS _ _ _⟩
  have e : (Value.cells (aggS row)).toList = row := by simp [Value.cells, aggS]
  have e2 : (Value.cells (aggS row)).size = row.length := by simp [Value.cells, aggS]
  simp [Instr.storeAt, Instr.sureAddr, storeVar, Sem.run_bind, hT.size, e, e2, hs, Result.andThen]
section
variable {P : Program} {ops : Array Oper} {rest : List Oper} {o : Oper} {a : Act} {Q : Exit → Act → World → Prop} {T : TypeId} {row : List Value}
theorem wpList_loadS (w : World) (hT : IsS P T row.length) (hg : o.guard = none) (p : Operand) (hop : o.op = Op.load T p) (g off : Nat) (hp : a.eval p = .pointer (some ⟨g, off, none⟩)) (h : RowAt w g off row)
    (hK : wpList P ops Q rest (a.put o.dst (aggS row)) w) : wpList P ops Q (o :: rest) a w := by
  refine wpList_plain hg fun K' hK' => ?_
  unfold Oper.wp
  simp [execOp, hop, hp, run_loadS hT h, Result.andThen]
  exact hK' _ _ hK
theorem wpList_storeS (w : World) (hT : IsS P T row.length) (h1 : ∀ v ∈ row, v.oneCell' = true) (hg : o.guard = none) (hd : o.dst = none) (p x : Operand) (hop : o.op = Op.store T p x) (g T' : Nat) (cs : List Value) (hp : a.eval p = .pointer (some ⟨g, 0, none⟩)) (hx : a.eval x = aggS row) (h : Blk w g T' cs) (hl : cs.length = row.length)
    (hK : ∀ w', Blk w' g T' row → w.grownBy w' (some g) → w'.heap.size = w.heap.size → wpList P ops Q rest a w') : wpList P ops Q (o :: rest) a w := by
  refine wpList_plain hg fun K' hK' => ?_
  obtain ⟨w', hrun, r1, r2, r3⟩ := run_storeS hT h1 h hl
  unfold Oper.wp
  simp [execOp, hop, hp, hx, hrun, Result.andThen, hd]
  have e : a.put none undef = a := rfl
  exact hK' _ _ (by rw [hd]; exact hK w' r1 r2 r3)
/-- A store into a block just made. -/
theorem wpList_storeNewS (w wr : World) (cs : List Value) (T' : Nat) (hw : w = wr.alloc (.cells cs.toArray T')) (hT : IsS P T row.length) (h1 : ∀ v ∈ row, v.oneCell' = true) (hg : o.guard = none) (hd : o.dst = none) (p x : Operand) (hop : o.op = Op.store T p x) (hp : a.eval p = .pointer (some ⟨wr.heap.size, 0, none⟩)) (hx : a.eval x = aggS row) (hl : cs.length = row.length)
    (hK : ∀ w', Blk w' wr.heap.size T' row → Below wr.heap.size wr w' → w'.heap.size = wr.heap.size + 1 → wpList P ops Q rest a w') : wpList P ops Q (o :: rest) a w := by
  subst hw
  refine wpList_storeS _ hT h1 hg hd p x hop wr.heap.size T' cs hp hx (Blk.new wr T' cs) hl fun w' k1 k2 k3 => hK w' k1 ?_ (by rw [k3]; simp)
  exact ((Below.refl wr.heap.size wr).alloc (Nat.le_refl _) (.cells cs.toArray T')).grown k2 (by simp) (fun k hk => by cases hk; exact Nat.le_refl _)
theorem wpList_boxS (w : World) (hg : o.guard = none) (x : Operand) (hop : o.op = Op.box T x) (hrun : (Instr.box T (aggS row)).run P w = .ok (.pointer (some ⟨w.heap.size, 0, none⟩)) (w.alloc (.cells row.toArray T))) (hx : a.eval x = aggS row)
    (hK : ∀ w', Blk w' w.heap.size T row → Below w.heap.size w w' → w'.heap.size = w.heap.size + 1 → wpList P ops Q rest (a.put o.dst (.pointer (some ⟨w.heap.size, 0, none⟩))) w') : wpList P ops Q (o :: rest) a w := by
  refine wpList_plain hg fun K' hK' => ?_
  unfold Oper.wp
  simp [execOp, hop, hx, hrun, Result.andThen]
  exact hK' _ _ (hK _ (Blk.new w T row) ((Below.refl _ _).alloc (Nat.le_refl _) _) (by simp))
theorem wpList_build1S (w : World) (S : TypeId) (hg : o.guard = none) (x : Operand) (hop : o.op = Op.buildSlice S 1 #[(0, x)]) (hrun : (Instr.buildSlice S 1 #[(0, aggS row)]).run P w = .ok (.slice (some ⟨w.heap.size, 0, none⟩) 1 1) (w.alloc (.cells row.toArray T))) (hx : a.eval x = aggS row)
    (hK : wpList P ops Q rest (a.put o.dst (.slice (some ⟨w.heap.size, 0, none⟩) 1 1)) (w.alloc (.cells row.toArray T))) : wpList P ops Q (o :: rest) a w := by
  refine wpList_plain hg fun K' hK' => ?_
  unfold Oper.wp
  simp [execOp, hop, hx, hrun, Result.andThen]
  exact hK' _ _ hK
end
/-- A result that lies in a block, alone, and ahead of a plain one. -/
theorem results_cellS {P : Program} {T : TypeId} {row : List Value} (hT : IsS P T row.length) {fn : Func} {t : Tmp} (h : fn.results = #[.cell t T]) (tmps : Array Value) (w : World) (g : Nat) (hp : tmps.getD t undef = .pointer (some ⟨g, 0, none⟩)) (hr : RowAt w g 0 row) :
    (results fn tmps).run P w = .ok (aggS row) w := by
  have := run_loadVarS hT hr
  have ha : (asAddr (.pointer (some ⟨g, 0, none⟩))).run P w = .ok ⟨g, 0, none⟩ w := by rfl
  have hp' : tmps[t]?.getD undef = .pointer (some ⟨g, 0, none⟩) := by simpa using hp
  simp [results, h, hp', Sem.run_bind, ha, this, Result.andThen]
theorem results_cell2S {P : Program} {T : TypeId} {row : List Value} (hT : IsS P T row.length) {fn : Func} {t u : Tmp} (h : fn.results = #[.cell t T, .tmp u]) (tmps : Array Value) (w : World) (g : Nat) (hp : tmps.getD t undef = .pointer (some ⟨g, 0, none⟩)) (hr : RowAt w g 0 row) (b : Value) (hb : tmps.getD u undef = b) :
    (results fn tmps).run P w = .ok (.tuple #[aggS row, b]) w := by
  have := run_loadVarS hT hr
  have ha : (asAddr (.pointer (some ⟨g, 0, none⟩))).run P w = .ok ⟨g, 0, none⟩ w := by rfl
  have hp' : tmps[t]?.getD undef = .pointer (some ⟨g, 0, none⟩) := by simpa using hp
  have hb' : tmps[u]?.getD undef = b := by simpa using hb
  simp [results, h, hp', hb', Sem.run_bind, ha, this, Result.andThen]

/-- Nothing has turned but the object in block g, and the block of what is in it. -/
structure KeepA (w w' : World) (g : Nat) (v v' : Value) : Prop where
  os : w'.os = w.os
  tape : w'.tape = w.tape
  output : w'.output = w.output
  size : w.heap.size ≤ w'.heap.size
  block : ∀ k, k < w.heap.size → k ≠ g → v.ownBlock ≠ some k → w'.heap[k]? = w.heap[k]?
  own : v'.ownBlock = v.ownBlock ∨ ∀ k, v'.ownBlock = some k → w.heap.size ≤ k
theorem KeepA.refl (w : World) (g : Nat) (v : Value) : KeepA w w g v v := ⟨rfl, rfl, rfl, Nat.le_refl _, fun _ _ _ _ => rfl, .inl rfl⟩
theorem KeepA.trans {w1 w2 w3 : World} {g : Nat} {v v' v'' : Value} (h : KeepA w1 w2 g v v') (k : KeepA w2 w3 g v' v'') : KeepA w1 w3 g v v'' := by
  refine ⟨k.os.trans h.os, k.tape.trans h.tape, k.output.trans h.output, Nat.le_trans h.size k.size, fun i hi hg hv => ?_, ?_⟩
  · refine (k.block i (Nat.lt_of_lt_of_le hi h.size) hg (fun e => ?_)).trans (h.block i hi hg hv)
    rcases h.own with ho | ho
    · exact hv (ho ▸ e)
    · have := ho i e; omega
  · rcases k.own with ho | ho
    · rcases h.own with ho' | ho'
      · exact .inl (ho.trans ho')
      · exact .inr fun i hi => ho' i (ho ▸ hi)
    · exact .inr fun i hi => Nat.le_trans h.size (ho i hi)
theorem KeepA.below {w w' : World} {g B : Nat} {v v' : Value} (h : KeepA w w' g v v') (hg : B ≤ g) (hv : ∀ k, v.ownBlock = some k → B ≤ k) (hB : B ≤ w.heap.size) : Below B w w' :=
  ⟨h.os, h.tape, h.output, h.size, fun k hk => h.block k (by omega) (by omega) (fun e => by have := hv k e; omega)⟩
theorem KeepA.of_below {w w' : World} {g : Nat} {v : Value} (h : Below w.heap.size w w') : KeepA w w' g v v := ⟨h.os, h.tape, h.output, h.size, fun k hk _ _ => h.block k hk, .inl rfl⟩
theorem KeepA.of_grown {w w' : World} {g : Nat} {v v' : Value} (h : w.grownBy w' (some g)) (hv : v'.ownBlock = v.ownBlock ∨ ∀ k, v'.ownBlock = some k → w.heap.size ≤ k) : KeepA w w' g v v' := ⟨h.os, h.tape, h.output, h.size, fun k hk hg _ => h.block k hk (by simpa using hg), hv⟩
theorem KeepA.set {w w' : World} {g : Nat} {v v' : Value} (h : KeepA w w' g v v') (o : Nat) (u : Value) : KeepA w (w'.setCell ⟨g, o, none⟩ u) g v v' :=
  ⟨h.os, h.tape, h.output, by simpa [World.setCell] using h.size, fun k hk hg hk' => (Below.heap_setCell w' ⟨g, o, none⟩ u k (fun e => hg (by simp [e]))).trans (h.block k hk hg hk'), h.own⟩
theorem KeepA.drew {w w' : World} {g : Nat} {v v' : Value} (h : KeepA w w' g v v') : KeepA w w'.drew g v v' := ⟨h.os, h.tape, h.output, h.size, h.block, h.own⟩
end Go.Proofs.Ytgaoonnokhlgjaa

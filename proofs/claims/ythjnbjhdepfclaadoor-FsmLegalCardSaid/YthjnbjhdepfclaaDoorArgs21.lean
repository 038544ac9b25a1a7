/-
  Bytes, numbers, a fault, a step, as arguments.
-/
import Derived.Test.YthjnbjhdepfclaaDoorFrame21
import Derived.Test.YthjnbjhdepfclaaDoorInts7
namespace Go.Proofs.YthjnbjhdepfclaaDoor
open Go.ChangeShapes Go.WideShapes Go.ChangeAt Go.RowKit
set_option linter.unusedVariables false
set_option linter.unusedSimpArgs false

noncomputable def layTab21 : Obj → Obj
  | .cells _ t frozen => .cells tabCells21 t frozen
  | o => o
noncomputable def layNames21 : Obj → Obj
  | .cells _ t frozen => .cells nameCells21 t frozen
  | o => o
theorem bytes_in21 {w : World} {x : Addr} {len cap : Nat} {zs : List Int} (hl : len ≤ cap) (hz : zs.length = cap) (hc : ∀ i, i < zs.length → w.cell? (x.add i) = some (.int .u8 (zs.getD i 0))) (hwz : ∀ n ∈ zs, (Lit.int .u8 n).wf = true) :
    ∃ l : List UInt8, l.length = len ∧ Bytes w (some x) l := by
  refine ⟨(zs.take len).map fun n => UInt8.ofNat n.toNat, by simp; omega, fun hne => ?_⟩
  have hpos : 0 < len := by
    rcases Nat.eq_zero_or_pos len with h0 | h0
    · subst h0; simp at hne
    · exact h0
  obtain ⟨b, off, spot⟩ := x
  have h0 := hc 0 (by omega)
  have hspot : spot = none := by simpa [Addr.add] using World.cell?_spot h0
  subst hspot
  refine ⟨b, off, rfl, World.block_lt_of_cell? w _ h0, fun j hj => ?_⟩
  have hj' : j < len := by simpa [hz, Nat.min_eq_left hl] using hj
  have h1 := hc j (by omega)
  rw [Addr.add_lit] at h1
  rw [h1]
  have hjz : j < zs.length := by omega
  have hm := hwz zs[j] (List.getElem_mem _)
  have hr := bounds_u8 hm
  simp [List.getD, hjz, hj']
  omega
theorem ints_in21 {w : World} {x : Addr} {len cap : Nat} {zs : List Int} (hl : len ≤ cap) (hz : zs.length = cap) (hc : ∀ i, i < zs.length → w.cell? (x.add i) = some (.int .i64 (zs.getD i 0))) :
    ∃ l : List Int, l.length = len ∧ Ints w (some x) l := by
  refine ⟨zs.take len, by simp; omega, fun hne => ?_⟩
  have hpos : 0 < len := by
    rcases Nat.eq_zero_or_pos len with h0 | h0
    · subst h0; simp at hne
    · exact h0
  obtain ⟨b, off, spot⟩ := x
  have h0 := hc 0 (by omega)
  have hspot : spot = none := by simpa [Addr.add] using World.cell?_spot h0
  subst hspot
  refine ⟨b, off, rfl, World.block_lt_of_cell? w _ h0, fun j hj => ?_⟩
  have hj' : j < len := by simp at hj; omega
  have h1 := hc j (by omega)
  rw [Addr.add_lit] at h1
  rw [h1]
  have hjz : j < zs.length := by omega
  simp [List.getD, hjz, hj']
section
variable {H : Type} {enc : TypeId × Value → H} {w : World}
/-- A slice of bytes, a slice of numbers, as one cell. -/
theorem bytes_cell {n : Nat} {c : Value} {y : DataW H × List MemPlace} (h : DataW.trod enc Tryd.prog w 0 (fun _ => true) true n 27 [c] = some y) :
    ∃ (A : Option Addr) (cp : Nat) (l : List UInt8), c = .slice A l.length cp ∧ l.length ≤ cp ∧ cp ≤ maxLen ∧ Bytes w A l := by
  rcases open_ints Tryd.underlying27 Tryd.underlying5 (by kernel_rfl) h with ⟨hcs, _⟩ | ⟨x, l, c, zs, hcs, _, hl, hm, hz, _, hcell, hwz⟩
  · obtain rfl := List.cons.inj hcs |>.1
    exact ⟨none, _, [], rfl, Nat.zero_le _, by first | exact Nat.zero_le _ | simp, Bytes.nil _ _⟩
  · obtain rfl := List.cons.inj hcs |>.1
    obtain ⟨b, h1, h2⟩ := bytes_in21 hl hz hcell hwz
    subst h1
    exact ⟨_, _, b, rfl, hl, hm, h2⟩
theorem ints_cell {n : Nat} {c : Value} {y : DataW H × List MemPlace} (h : DataW.trod enc Tryd.prog w 0 (fun _ => true) true n 33 [c] = some y) :
    ∃ (A : Option Addr) (cp : Nat) (l : List Int), c = .slice A l.length cp ∧ l.length ≤ cp ∧ cp ≤ maxLen ∧ Ints w A l := by
  rcases open_ints Tryd.underlying33 Tryd.underlying3 (by kernel_rfl) h with ⟨hcs, _⟩ | ⟨x, l, c, zs, hcs, _, hl, hm, hz, _, hcell, hwz⟩
  · obtain rfl := List.cons.inj hcs |>.1
    exact ⟨none, _, [], rfl, Nat.zero_le _, by first | exact Nat.zero_le _ | simp, Ints.nil _ _⟩
  · obtain rfl := List.cons.inj hcs |>.1
    obtain ⟨b, h1, h2⟩ := ints_in21 hl hz hcell
    subst h1
    exact ⟨_, _, b, rfl, hl, hm, h2⟩
theorem ci21 : Tryd.prog.cellsOf 3 = 1 := by kernel_rfl
theorem cb21 : Tryd.prog.cellsOf 27 = 1 := by kernel_rfl
theorem cz21 : Tryd.prog.cellsOf 33 = 1 := by kernel_rfl
theorem cf21 : Tryd.prog.cellsOf 29 = 3 := by kernel_rfl
theorem three_list21 {α : Type} {l : List α} (h : l.length = 3) : ∃ a b c, l = [a, b, c] := by
  match l, h with
  | [a, b, c], _ => exact ⟨a, b, c, rfl⟩
theorem five_list21 {α : Type} {l : List α} (h : l.length = 5) : ∃ a b c d e, l = [a, b, c, d, e] := by
  match l, h with
  | [a, b, c, d, e], _ => exact ⟨a, b, c, d, e, rfl⟩
theorem seven_arr21 {α : Type} {l : Array α} (h : l.size = 7) : ∃ a b c d e f g, l = #[a, b, c, d, e, f, g] := by
  obtain ⟨l⟩ := l
  match l, h with
  | [a, b, c, d, e, f, g], _ => exact ⟨a, b, c, d, e, f, g, rfl⟩
theorem three_arr21 {α : Type} {l : Array α} (h : l.size = 3) : ∃ a b c, l = #[a, b, c] := by
  obtain ⟨l⟩ := l
  match l, h with
  | [a, b, c], _ => exact ⟨a, b, c, rfl⟩
theorem fault_cells {fuel : Nat} {c0 c1 c2 : Value} {y : DataW H × List MemPlace} (hf : DataW.trod enc Tryd.prog w 0 (fun _ => true) true fuel 29 [c0, c1, c2] = some y) :
    ∃ (C S : Int) (A : Option Addr) (cp : Nat) (l : List UInt8), c0 = .int .i64 C ∧ c1 = .int .i64 S ∧ c2 = .slice A l.length cp ∧ l.length ≤ cp ∧ cp ≤ maxLen ∧ Bytes w A l := by
  obtain ⟨xs, n, _, hx, _, hlen, hg⟩ := DataW.trod_struct Tryd.underlying29 hf
  obtain ⟨y0, y1, y2, rfl⟩ := three_list21 hlen
  have g0 := hg 0 _ rfl
  have g1 := hg 1 _ rfl
  have g2 := hg 2 _ rfl
  obtain ⟨k0, e0, _, w0⟩ := DataW.trod_int Tryd.underlying3 g0
  obtain ⟨k1, e1, _, w1⟩ := DataW.trod_int Tryd.underlying3 g1
  obtain rfl : c0 = .int .i64 k0 := by simpa [Value.cells, ci21] using e0
  obtain rfl : c1 = .int .i64 k1 := by simpa [Value.cells, ci21] using e1
  have g5 : DataW.trod enc Tryd.prog w 0 (fun _ => true) true n 27 ((List.drop 2 [Value.int .i64 k0, .int .i64 k1, c2]).take (Tryd.prog.cellsOf 27)) = some y2 := g2
  rw [cb21] at g5
  obtain ⟨A, cp, l, rfl, q1, q2, q3⟩ := bytes_cell (show DataW.trod enc Tryd.prog w 0 (fun _ => true) true n 27 [c2] = some y2 from g5)
  exact ⟨k0, k1, A, cp, l, rfl, rfl, rfl, q1, q2, q3⟩
/-- A fault that came in. -/
theorem fault_in {b0 : Nat} {v : Value} {d : DataW H} {p : List MemPlace} (hv : Value.okWide Tryd.prog w .any b0 29 v) (h : DataW.Trod enc Tryd.prog w 0 (fun _ => true) true 29 v d p) :
    ∃ (C S : Int) (A : Option Addr) (cp : Nat) (l : List UInt8), v = .agg #[.int .i64 C, .int .i64 S, .slice A l.length cp] ∧ l.length ≤ cp ∧ cp ≤ maxLen ∧ Bytes w A l := by
  obtain ⟨cs, rfl, hsz⟩ := okWide_struct Tryd.underlying29 hv
  obtain ⟨c0, c1, c2, rfl⟩ := three_arr21 (hsz.trans cf21)
  obtain ⟨fuel, hf⟩ := h
  obtain ⟨C, S, A, cp, l, rfl, rfl, rfl, q1, q2, q3⟩ := fault_cells (show DataW.trod enc Tryd.prog w 0 (fun _ => true) true fuel 29 [c0, c1, c2] = some (d, p) from hf)
  exact ⟨C, S, A, cp, l, rfl, q1, q2, q3⟩
/-- A step that came in. -/
theorem trace_in {b0 : Nat} {v : Value} {d : DataW H} {p : List MemPlace} (hv : Value.okWide Tryd.prog w .any b0 35 v) (h : DataW.Trod enc Tryd.prog w 0 (fun _ => true) true 35 v d p) :
    ∃ (E F T C S : Int) (Z : Option Addr) (zp : Nat) (z : List Int) (A : Option Addr) (cp : Nat) (l : List UInt8), v = .agg #[.int .i64 E, .int .i64 F, .int .i64 T, .slice Z z.length zp, .int .i64 C, .int .i64 S, .slice A l.length cp] ∧ l.length ≤ cp ∧ cp ≤ maxLen ∧ Bytes w A l ∧ z.length ≤ zp ∧ zp ≤ maxLen ∧ Ints w Z z := by
  obtain ⟨cs, rfl, hsz⟩ := okWide_struct Tryd.underlying35 hv
  obtain ⟨c0, c1, c2, c3, c4, c5, c6, rfl⟩ := seven_arr21 (hsz.trans (show Tryd.prog.cellsOf 35 = 7 by kernel_rfl))
  obtain ⟨fuel, hf⟩ := h
  obtain ⟨xs, n, _, hx, _, hlen, hg⟩ := DataW.trod_struct Tryd.underlying35 hf
  obtain ⟨y0, y1, y2, y3, y4, rfl⟩ := five_list21 hlen
  have g0 := hg 0 _ rfl
  have g1 := hg 1 _ rfl
  have g2 := hg 2 _ rfl
  have g3 := hg 3 _ rfl
  have g4 := hg 4 _ rfl
  obtain ⟨k0, e0, _, w0⟩ := DataW.trod_int Tryd.underlying3 g0
  obtain ⟨k1, e1, _, w1⟩ := DataW.trod_int Tryd.underlying3 g1
  obtain ⟨k2, e2, _, w2⟩ := DataW.trod_int Tryd.underlying3 g2
  obtain rfl : c0 = .int .i64 k0 := by simpa [Value.cells, ci21] using e0
  obtain rfl : c1 = .int .i64 k1 := by simpa [Value.cells, ci21] using e1
  obtain rfl : c2 = .int .i64 k2 := by simpa [Value.cells, ci21] using e2
  have g5 : DataW.trod enc Tryd.prog w 0 (fun _ => true) true n 33 ((List.drop 3 [Value.int .i64 k0, .int .i64 k1, .int .i64 k2, c3, c4, c5, c6]).take (Tryd.prog.cellsOf 33)) = some y3 := g3
  rw [cz21] at g5
  obtain ⟨Z, zp, z, rfl, u1, u2, u3⟩ := ints_cell (show DataW.trod enc Tryd.prog w 0 (fun _ => true) true n 33 [c3] = some y3 from g5)
  have g6 : DataW.trod enc Tryd.prog w 0 (fun _ => true) true n 29 ((List.drop 4 [Value.int .i64 k0, .int .i64 k1, .int .i64 k2, .slice Z z.length zp, c4, c5, c6]).take (Tryd.prog.cellsOf 29)) = some y4 := g4
  rw [cf21] at g6
  obtain ⟨C, S, A, cp, l, rfl, rfl, rfl, q1, q2, q3⟩ := fault_cells (show DataW.trod enc Tryd.prog w 0 (fun _ => true) true n 29 [c4, c5, c6] = some y4 from g6)
  exact ⟨k0, k1, k2, C, S, Z, zp, z, A, cp, l, rfl, q1, q2, q3, u1, u2, u3⟩
end
end Go.Proofs.YthjnbjhdepfclaaDoor

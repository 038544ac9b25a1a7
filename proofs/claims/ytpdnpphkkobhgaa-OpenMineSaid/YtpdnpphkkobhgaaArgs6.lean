/-
  What a side is, and two times, that come in as a statement's arguments.
-/
import Derived.Test.YtpdnpphkkobhgaaOpenIn6
namespace Go.Proofs.Ytpdnpphkkobhgaa
open Go.ChangeShapes Go.WideShapes Go.ChangeAt Go.RowKit
set_option linter.unusedVariables false

theorem four_of {α : Type} {l : Array α} (h : l.size = 4) : ∃ a b c d, l = #[a, b, c, d] := by
  obtain ⟨l⟩ := l
  match l, h with
  | [a, b, c, d], _ => exact ⟨a, b, c, d, rfl⟩
theorem four_list {α : Type} {l : List α} (h : l.length = 4) : ∃ a b c d, l = [a, b, c, d] := by
  match l, h with
  | [a, b, c, d], _ => exact ⟨a, b, c, d, rfl⟩
theorem two_arr {α : Type} {l : Array α} (h : l.size = 2) : ∃ a b, l = #[a, b] := by
  obtain ⟨l⟩ := l
  match l, h with
  | [a, b], _ => exact ⟨a, b, rfl⟩
section
variable {H : Type} {enc : TypeId × Value → H} {w : World} {b0 : Nat} {v : Value} {d : DataW H} {p : List MemPlace}
/-- A side that came in. -/
theorem local_in (hv : Value.okWide Try.prog w .any b0 48 v) (h : DataW.Trod enc Try.prog w 0 (fun _ => true) true 48 v d p) :
    ∃ a id ad hold : Int, v = .agg #[.int .u32 a, .int .u32 id, .int .u32 ad, .int .i64 hold] ∧ (0 ≤ a ∧ a ≤ 4294967295) ∧ (0 ≤ id ∧ id ≤ 4294967295) ∧ (0 ≤ ad ∧ ad ≤ 4294967295) ∧ (-9223372036854775808 ≤ hold ∧ hold ≤ 9223372036854775807) := by
  obtain ⟨cs, rfl, hsz⟩ := okWide_struct Try.underlying48 hv
  obtain ⟨c0, c1, c2, c3, rfl⟩ := four_of (hsz.trans (show Try.prog.cellsOf 48 = 4 by kernel_rfl))
  obtain ⟨fuel, hf⟩ := h
  obtain ⟨xs, n, _, hx, _, hlen, hg⟩ := DataW.trod_struct Try.underlying48 hf
  obtain ⟨y0, y1, y2, y3, rfl⟩ := four_list hlen
  have g0 := hg 0 _ rfl
  have g1 := hg 1 _ rfl
  have g2 := hg 2 _ rfl
  have g3 := hg 3 _ rfl
  obtain ⟨k0, e0, _, w0⟩ := DataW.trod_int Try.underlying22 g0
  obtain ⟨k1, e1, _, w1⟩ := DataW.trod_int Try.underlying22 g1
  obtain ⟨k2, e2, _, w2⟩ := DataW.trod_int Try.underlying22 g2
  obtain ⟨k3, e3, _, w3⟩ := DataW.trod_int Try.underlying3 g3
  obtain rfl : c0 = .int .u32 k0 := by simpa [Value.cells, cu6] using e0
  obtain rfl : c1 = .int .u32 k1 := by simpa [Value.cells, cu6] using e1
  obtain rfl : c2 = .int .u32 k2 := by simpa [Value.cells, cu6] using e2
  obtain rfl : c3 = .int .i64 k3 := by simpa [Value.cells, ci] using e3
  exact ⟨k0, k1, k2, k3, rfl, bounds_u32 w0, bounds_u32 w1, bounds_u32 w2, bounds_i64 w3⟩
/-- Two numbers that came in. -/
theorem twos_in (hv : Value.okWide Try.prog w .any b0 49 v) (h : DataW.Trod enc Try.prog w 0 (fun _ => true) true 49 v d p) :
    ∃ x y : Int, v = .agg #[.int .i64 x, .int .i64 y] := by
  obtain ⟨cs, rfl, hsz⟩ : ∃ cs, v = .agg cs ∧ cs.size = Try.prog.cellsOf 49 := by
    simp only [Value.okWide, Try.underlying49] at hv
    obtain ⟨cs, h1, h2, _⟩ := hv
    exact ⟨cs, h1, h2⟩
  obtain ⟨c0, c1, rfl⟩ := two_arr (hsz.trans (show Try.prog.cellsOf 49 = 2 by kernel_rfl))
  obtain ⟨fuel, hf⟩ := h
  obtain ⟨xs, n, _, hx, _, hlen, hg⟩ := DataW.trod_array Try.underlying49 hf
  obtain ⟨y0, y1, rfl⟩ := two_of hlen
  have g0 := hg 0 (by omega)
  have g1 := hg 1 (by omega)
  obtain ⟨k0, e0, _, w0⟩ := DataW.trod_int Try.underlying3 g0
  obtain ⟨k1, e1, _, w1⟩ := DataW.trod_int Try.underlying3 g1
  obtain rfl : c0 = .int .i64 k0 := by simpa [Value.cells, ci] using e0
  obtain rfl : c1 = .int .i64 k1 := by simpa [Value.cells, ci] using e1
  exact ⟨k0, k1, rfl⟩
end
end Go.Proofs.Ytpdnpphkkobhgaa

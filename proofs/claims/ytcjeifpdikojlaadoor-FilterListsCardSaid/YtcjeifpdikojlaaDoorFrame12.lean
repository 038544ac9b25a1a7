/-
  From a statement's arguments to what the walks are told, and the table out of the row's list.
-/
import Derived.Test.YtcjeifpdikojlaaDoorCards
import Derived.Test.YtcjeifpdikojlaaDoorTie
import Derived.Test.YtcjeifpdikojlaaDoorTab
import Derived.Test.YtcjeifpdikojlaaDoorSeat
import Derived.ProofKit
import Derived.OpenShut
import Derived.Deep.DeepHandedRow
import Derived.Deep.Slices
import Derived.Deep.Fields
import Derived.Lib.SmallJoins
import Derived.Lib.LaidTab
namespace Go.Proofs.YtcjeifpdikojlaaDoor
open Go.ChangeShapes Go.WideShapes Go.ChangeAt Go.RowKit
open Go.ChangeMaps (open_string shut_string)
set_option linter.unusedVariables false

theorem own : ownKnob Tryd.prog.godebug = none := by kernel_rfl
theorem laidOut : laidOutB Tryd.prog = true := by kernel_rfl
theorem gTab : Tryd.prog.globalNamed "speculum/octet.digits" = some 0 := by kernel_rfl
theorem gTabType : (Tryd.prog.globals[0]?).map (·.type) = some 77 := by kernel_rfl
theorem cellsTab : Tryd.prog.cellsOf 77 = 16 := by kernel_rfl
theorem cellsByte : Tryd.prog.cellsOf 5 = 1 := by kernel_rfl

/-- What a row that lists the table gives. -/
theorem tab_of_laid {W : World} (h : laidMetH Tryd.prog [("speculum/octet.digits", Rows.laid_speculum_octet_digits)] W) : Tab W := by
  have h1 : Lib.TabIs Tryd.prog W "speculum/octet.digits" .u8 [48, 49, 50, 51, 52, 53, 54, 55, 56, 57, 97, 98, 99, 100, 101, 102] :=
    Lib.tabIs_of_head (rest := []) gTab gTabType Tryd.underlying77 Tryd.underlying5 cellsByte cellsTab h
  unfold Lib.TabIs at h1
  simp only [World.var?, gTab, Option.bind_some] at h1
  split at h1
  · rename_i cs t fr hh
    cases h1
    exact ⟨t, fr, hh⟩
  · cases h1

theorem three_list {α : Type} {l : List α} (h : l.length = 3) : ∃ a b c, l = [a, b, c] := by
  match l, h with
  | [a, b, c], _ => exact ⟨a, b, c, rfl⟩
theorem four_of {α : Type} {l : Array α} (h : l.size = 4) : ∃ a b c d, l = #[a, b, c, d] := by
  obtain ⟨l⟩ := l
  match l, h with
  | [a, b, c, d], _ => exact ⟨a, b, c, d, rfl⟩
theorem two_arr {α : Type} {l : Array α} (h : l.size = 2) : ∃ a b, l = #[a, b] := by
  obtain ⟨l⟩ := l
  match l, h with
  | [a, b], _ => exact ⟨a, b, rfl⟩
theorem cu12 : Tryd.prog.cellsOf 22 = 1 := by kernel_rfl
theorem ci12 : Tryd.prog.cellsOf 3 = 1 := by kernel_rfl
theorem cp12 : Tryd.prog.cellsOf 33 = 2 := by kernel_rfl
theorem cr12 : Tryd.prog.cellsOf 35 = 4 := by kernel_rfl
section
variable {H : Type} {enc : TypeId × Value → H} {w : World} {b0 : Nat} {v : Value} {d : DataW H} {p : List MemPlace}
/-- A prefix that came in. -/
theorem pfx_in (hv : Value.okWide Tryd.prog w .any b0 33 v) (h : DataW.Trod enc Tryd.prog w 0 (fun _ => true) true 33 v d p) :
    ∃ (a : Nat) (n : Int), v = .agg #[.int .u32 (a : Int), .int .i64 n] ∧ a < 4294967296 ∧ (-9223372036854775808 ≤ n ∧ n ≤ 9223372036854775807) := by
  obtain ⟨cx0, cy0, yx0, yy0, m0, rfl, _, _, hx0, hy0⟩ := Joins.open_agg2 Tryd.underlying33 (by kernel_rfl) (by kernel_rfl) hv h
  obtain ⟨x0, ex0, _, wx0⟩ := DataW.trod_int Tryd.underlying22 hx0
  obtain ⟨y0, ey0, _, wy0⟩ := DataW.trod_int Tryd.underlying3 hy0
  simp at ex0 ey0
  subst ex0 ey0
  have hx := bounds_u32 wx0
  obtain ⟨a, rfl⟩ := Int.eq_ofNat_of_zero_le hx.1
  exact ⟨a, y0, rfl, by omega, bounds_i64 wy0⟩
/-- A range's cells. -/
theorem range_cells {n : Nat} {cs : List Value} {y : DataW H × List MemPlace} (h : DataW.trod enc Tryd.prog w 0 (fun _ => true) true n 35 cs = some y) (hl : cs.length = 4) :
    ∃ (a : Nat) (n mn mx : Int), cs = [.int .u32 (a : Int), .int .i64 n, .int .i64 mn, .int .i64 mx] ∧ a < 4294967296 ∧ (-9223372036854775808 ≤ n ∧ n ≤ 9223372036854775807) ∧ (-9223372036854775808 ≤ mn ∧ mn ≤ 9223372036854775807) ∧ (-9223372036854775808 ≤ mx ∧ mx ≤ 9223372036854775807) := by
  obtain ⟨c0, c1, c2, c3, rfl⟩ : ∃ a b c d, cs = [a, b, c, d] := by
    match cs, hl with
    | [a, b, c, d], _ => exact ⟨a, b, c, d, rfl⟩
  obtain ⟨xs, m, _, hx, _, hlen, hg⟩ := DataW.trod_struct Tryd.underlying35 h
  obtain ⟨y0, y1, y2, rfl⟩ := three_list hlen
  have g0 := hg 0 _ rfl
  have g1 := hg 1 _ rfl
  have g2 := hg 2 _ rfl
  obtain ⟨z0, z1, n', _, _, k0, k1⟩ := trod_struct2 Tryd.underlying33 g0
  obtain ⟨u0, e0, _, w0⟩ := DataW.trod_int Tryd.underlying22 k0
  obtain ⟨u1, e1, _, w1⟩ := DataW.trod_int Tryd.underlying3 k1
  obtain ⟨u2, e2, _, w2⟩ := DataW.trod_int Tryd.underlying3 g1
  obtain ⟨u3, e3, _, w3⟩ := DataW.trod_int Tryd.underlying3 g2
  obtain rfl : c0 = .int .u32 u0 := by simpa [cu12, cp12, ci12] using e0
  obtain rfl : c1 = .int .i64 u1 := by simpa [cu12, cp12, ci12] using e1
  obtain rfl : c2 = .int .i64 u2 := by simpa [cu12, cp12, ci12] using e2
  obtain rfl : c3 = .int .i64 u3 := by simpa [cu12, cp12, ci12] using e3
  have hb := bounds_u32 w0
  obtain ⟨a, rfl⟩ := Int.eq_ofNat_of_zero_le hb.1
  exact ⟨a, u1, u2, u3, rfl, by omega, bounds_i64 w1, bounds_i64 w2, bounds_i64 w3⟩
/-- A range that came in. -/
theorem range_in (hv : Value.okWide Tryd.prog w .any b0 35 v) (h : DataW.Trod enc Tryd.prog w 0 (fun _ => true) true 35 v d p) :
    ∃ (a : Nat) (n mn mx : Int), v = .agg #[.int .u32 (a : Int), .int .i64 n, .int .i64 mn, .int .i64 mx] ∧ a < 4294967296 ∧ (-9223372036854775808 ≤ n ∧ n ≤ 9223372036854775807) ∧ (-9223372036854775808 ≤ mn ∧ mn ≤ 9223372036854775807) ∧ (-9223372036854775808 ≤ mx ∧ mx ≤ 9223372036854775807) := by
  obtain ⟨cs, rfl, hsz⟩ := okWide_struct Tryd.underlying35 hv
  obtain ⟨fuel, hf⟩ := h
  obtain ⟨a, n, mn, mx, he, r⟩ := range_cells hf (by simpa [Value.cells] using hsz.trans cr12)
  refine ⟨a, n, mn, mx, ?_, r⟩
  simp only [Value.cells] at he
  obtain ⟨cs⟩ := cs
  simpa using he
end
end Go.Proofs.YtcjeifpdikojlaaDoor

/-
  OPENs that come in as a statement's argument.
-/
import Derived.Test.YtpdnpphkkobhgaaFrameP
import Derived.Test.YtpdnpphkkobhgaaBytesP
import Derived.Test.YtpdnpphkkobhgaaCap6
import Derived.Deep.Slices
import Derived.Deep.Fields
namespace Go.Proofs.Ytpdnpphkkobhgaa
open Go.ChangeShapes Go.WideShapes Go.ChangeAt Go.RowKit
set_option linter.unusedVariables false

theorem two_of {α : Type} {l : List α} (h : l.length = 2) : ∃ a b, l = [a, b] := by
  match l, h with
  | [a, b], _ => exact ⟨a, b, rfl⟩
theorem one_of {α : Type} {a b c : α} {n : Nat} (hn : n = 1) (h : (List.drop 0 [a, b]).take n = [c]) : a = c := by
  subst hn; simpa using h
theorem two_one_of {α : Type} {a b c : α} {n : Nat} (hn : n = 1) (h : (List.drop 1 [a, b]).take n = [c]) : b = c := by
  subst hn; simpa using h
theorem ci : Try.prog.cellsOf 3 = 1 := by kernel_rfl
theorem cs1 : Try.prog.cellsOf 28 = 1 := by kernel_rfl
/-- What one capability is that came in. -/
def CpArg (w : World) (s : Cp) : Prop := At w w.heap.size s.adr s.data ∧ s.data.length ≤ s.cap ∧ s.cap ≤ maxLen ∧ -9223372036854775808 ≤ s.code ∧ s.code ≤ 9223372036854775807
section
variable {H : Type} {enc : TypeId × Value → H} {w : World}
theorem cap_in {n : Nat} {cs : List Value} {y : DataW H × List MemPlace} (h : DataW.trod enc Try.prog w 0 (fun _ => true) true n 54 cs = some y) (hl : cs.length = 2) :
    ∃ s : Cp, cs = [.int .i64 s.code, .slice s.adr s.data.length s.cap] ∧ CpArg w s := by
  obtain ⟨y0, y1, n', hx, _, h0, h1⟩ := trod_struct2 Try.underlying54 h
  obtain ⟨c0, c1, rfl⟩ := two_of hl
  obtain ⟨k, e0, _, wk⟩ := DataW.trod_int Try.underlying3 h0
  obtain rfl : c0 = .int .i64 k := one_of ci e0
  rcases open_ints Try.underlying28 Try.underlying5 (by kernel_rfl) h1 with ⟨e1, _⟩ | ⟨a, len, cap, zs, e1, _, hl9, hm, hz, _, hcell, hwz⟩
  · obtain rfl : c1 = .slice none 0 0 := two_one_of cs1 e1
    exact ⟨⟨k, none, 0, []⟩, rfl, At.nil _ _ _, Nat.le_refl _, Nat.zero_le _, bounds_i64 wk⟩
  · obtain rfl : c1 = .slice (some a) len cap := two_one_of cs1 e1
    obtain ⟨z, hz1, hz2⟩ := bytes_in hl9 (cap := cap) (by simpa using hz) hcell hwz
    subst hz1
    exact ⟨⟨k, some a, cap, z⟩, rfl, hz2, hl9, hm, bounds_i64 wk⟩

/-- A row of capabilities that came in. -/
theorem caps_in {fuel : Nat} {v : Value} {x : DataW H × List MemPlace} (h : DataW.trod enc Try.prog w 0 (fun _ => true) true fuel 23 [v] = some x) :
    ∃ (L : List Cp) (A : Option Addr) (c : Nat), v = .slice A L.length c ∧ CpIn w w.heap.size A L ∧ L.length ≤ c ∧ c ≤ maxLen ∧ ∀ s ∈ L, s.data.length ≤ s.cap ∧ s.cap ≤ maxLen ∧ -9223372036854775808 ≤ s.code ∧ s.code ≤ 9223372036854775807 := by
  rcases Go.Deep.open_slice Try.underlying23 h with ⟨hcs, _⟩ | ⟨x, len, cap, m, n, D, Pl, hcs, _, hl, hm, hmm, hx, hi⟩
  · obtain rfl : v = .slice none 0 0 := by simpa using hcs
    exact ⟨[], none, 0, rfl, CpIn.nil _ _ _, Nat.le_refl _, Nat.zero_le _, fun s hs => by cases hs⟩
  · obtain rfl : v = .slice (some x) len cap := by simpa using hcs
    have hmc : m = cap := by simpa using hmm
    have hC : Try.prog.cellsOf 54 = 2 := by kernel_rfl
    have one : ∀ i, i < len → ∃ s : Cp, w.cell? (x.add (i * 2)) = some (.int .i64 s.code) ∧ w.cell? (x.add (i * 2 + 1)) = some (.slice s.adr s.data.length s.cap) ∧ CpArg w s := by
      intro i hi2
      obtain ⟨cs', hc, ht'⟩ := hi i (by omega)
      rw [hC] at hc
      obtain ⟨_, hcl, hat⟩ := World.cells?_some hc
      obtain ⟨s, rfl, hok⟩ := cap_in ht' hcl
      have h0 := hat 0 (by omega)
      have h1 := hat 1 (by omega)
      rw [Go.Deep.add_add] at h0 h1
      exact ⟨s, by simpa using h0, by simpa using h1, hok⟩
    have all : ∀ k, k ≤ len → ∃ L : List Cp, L.length = k ∧ ∀ (j : Nat) (s : Cp), L[j]? = some s → w.cell? (x.add (j * 2)) = some (.int .i64 s.code) ∧ w.cell? (x.add (j * 2 + 1)) = some (.slice s.adr s.data.length s.cap) ∧ CpArg w s := by
      intro k
      induction k with
      | zero => exact fun _ => ⟨[], rfl, fun j s h => by simp at h⟩
      | succ k ih =>
        intro hk
        obtain ⟨L, hL, hall⟩ := ih (by omega)
        obtain ⟨s, hs⟩ := one k (by omega)
        refine ⟨L ++ [s], by simp [hL], fun j t hj => ?_⟩
        by_cases hjk : j < L.length
        · rw [List.getElem?_append_left hjk] at hj
          exact hall j t hj
        · rw [List.getElem?_append_right (by omega)] at hj
          by_cases h0 : j - L.length = 0
          · rw [h0] at hj
            obtain rfl : s = t := by simpa using hj
            obtain rfl : j = k := by omega
            exact hs
          · obtain ⟨q, hq⟩ := Nat.exists_eq_succ_of_ne_zero h0
            rw [hq] at hj
            simp at hj
    obtain ⟨L, hL, hall⟩ := all len (Nat.le_refl _)
    subst hL
    refine ⟨L, _, _, rfl, fun hne => ?_, hl, hm, fun s hs => ?_⟩
    · obtain ⟨s0, hs0⟩ : ∃ s, L[0]? = some s := by
        cases L with
        | nil => exact absurd rfl hne
        | cons s L => exact ⟨s, rfl⟩
      obtain ⟨b, off, spot⟩ := x
      have h0 := (hall 0 s0 hs0).1
      have hspot : spot = none := by simpa [Addr.add] using World.cell?_spot h0
      subst hspot
      refine ⟨b, off, rfl, World.block_lt_of_cell? w _ h0, fun j s hj => ?_⟩
      obtain ⟨h1, h2, h3⟩ := hall j s hj
      rw [Addr.add_lit] at h1 h2
      exact ⟨h1, by rw [Nat.add_assoc]; exact h2, h3.1⟩
    · obtain ⟨j, hj⟩ := List.getElem?_of_mem hs
      exact (hall j s hj).2.2.2
end
theorem cu6 : Try.prog.cellsOf 22 = 1 := by kernel_rfl
theorem cc6 : Try.prog.cellsOf 23 = 1 := by kernel_rfl
theorem five_of {α : Type} {l : Array α} (h : l.size = 5) : ∃ a b c d e, l = #[a, b, c, d, e] := by
  obtain ⟨l⟩ := l
  match l, h with
  | [a, b, c, d, e], _ => exact ⟨a, b, c, d, e, rfl⟩
theorem five_list {α : Type} {l : List α} (h : l.length = 5) : ∃ a b c d e, l = [a, b, c, d, e] := by
  match l, h with
  | [a, b, c, d, e], _ => exact ⟨a, b, c, d, e, rfl⟩
/-- An OPEN that came in. -/
theorem open_in {H : Type} {enc : TypeId × Value → H} {w : World} {b0 : Nat} {v : Value} {d : DataW H} {p : List MemPlace} (hv : Value.okWide Try.prog w .any b0 25 v) (h : DataW.Trod enc Try.prog w 0 (fun _ => true) true 25 v d p) :
    ∃ (ver sys hold id : Int) (L : List Cp) (A : Option Addr) (c : Nat), v = .agg #[.int .i64 ver, .int .i64 sys, .int .i64 hold, .int .u32 id, .slice A L.length c] ∧ CpIn w w.heap.size A L ∧ L.length ≤ c ∧ c ≤ maxLen ∧
      (∀ s ∈ L, s.data.length ≤ s.cap ∧ s.cap ≤ maxLen ∧ -9223372036854775808 ≤ s.code ∧ s.code ≤ 9223372036854775807) ∧ (-9223372036854775808 ≤ ver ∧ ver ≤ 9223372036854775807) ∧ (-9223372036854775808 ≤ sys ∧ sys ≤ 9223372036854775807) ∧ (-9223372036854775808 ≤ hold ∧ hold ≤ 9223372036854775807) ∧ (0 ≤ id ∧ id ≤ 4294967295) := by
  obtain ⟨cs, rfl, hsz⟩ := okWide_struct Try.underlying25 hv
  obtain ⟨c0, c1, c2, c3, c4, rfl⟩ := five_of (hsz.trans (show Try.prog.cellsOf 25 = 5 by kernel_rfl))
  obtain ⟨fuel, hf⟩ := h
  obtain ⟨xs, n, _, hx, _, hlen, hg⟩ := DataW.trod_struct Try.underlying25 hf
  obtain ⟨y0, y1, y2, y3, y4, rfl⟩ := five_list hlen
  have g0 := hg 0 _ rfl
  have g1 := hg 1 _ rfl
  have g2 := hg 2 _ rfl
  have g3 := hg 3 _ rfl
  have g4 := hg 4 _ rfl
  obtain ⟨k0, e0, _, w0⟩ := DataW.trod_int Try.underlying3 g0
  obtain ⟨k1, e1, _, w1⟩ := DataW.trod_int Try.underlying3 g1
  obtain ⟨k2, e2, _, w2⟩ := DataW.trod_int Try.underlying3 g2
  obtain ⟨k3, e3, _, w3⟩ := DataW.trod_int Try.underlying22 g3
  obtain rfl : c0 = .int .i64 k0 := by simpa [Value.cells, ci] using e0
  obtain rfl : c1 = .int .i64 k1 := by simpa [Value.cells, ci] using e1
  obtain rfl : c2 = .int .i64 k2 := by simpa [Value.cells, ci] using e2
  obtain rfl : c3 = .int .u32 k3 := by simpa [Value.cells, cu6] using e3
  have g5 : DataW.trod enc Try.prog w 0 (fun _ => true) true n 23 ((List.drop 4 (Value.cells (.agg #[.int .i64 k0, .int .i64 k1, .int .i64 k2, .int .u32 k3, c4])).toList).take (Try.prog.cellsOf 23)) = some y4 := g4
  rw [cc6] at g5
  obtain ⟨L, A, c, rfl, q1, q2, q3, q4⟩ := caps_in (show DataW.trod enc Try.prog w 0 (fun _ => true) true n 23 [c4] = some y4 from g5)
  exact ⟨k0, k1, k2, k3, L, A, c, rfl, q1, q2, q3, q4, bounds_i64 w0, bounds_i64 w1, bounds_i64 w2, bounds_u32 w3⟩
end Go.Proofs.Ytpdnpphkkobhgaa

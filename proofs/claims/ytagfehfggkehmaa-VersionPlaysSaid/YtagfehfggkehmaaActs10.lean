/-
  What is done to a store, that comes in as a statement's argument.
-/
import Derived.Test.YtagfehfggkehmaaFrameP
import Derived.Test.YtagfehfggkehmaaBase
import Derived.Deep.Slices
import Derived.Deep.Fields
namespace Go.Proofs.Ytagfehfggkehmaa
open Go.ChangeShapes Go.WideShapes Go.ChangeAt Go.RowKit
set_option linter.unusedVariables false

/-- A row of deeds: of which kind, and which number. -/
def ActsIn (w : World) (A : Option Addr) (L : List (Nat × Int)) : Prop :=
  L ≠ [] → ∃ b off, A = some ⟨b, off, none⟩ ∧ b < w.heap.size ∧ ∀ (j : Nat) x, L[j]? = some x → w.cell? ⟨b, off + j * 2, none⟩ = some (.int .u8 (x.1 : Int)) ∧ w.cell? ⟨b, off + j * 2 + 1, none⟩ = some (.int .i64 x.2)
theorem ActsIn.nil (w : World) (A : Option Addr) : ActsIn w A [] := fun h => absurd rfl h
theorem ActsIn.below {w w' : World} {A : Option Addr} {L : List (Nat × Int)} (h : ActsIn w A L) (hb : Below w.heap.size w w') : ActsIn w' A L := by
  intro hl
  obtain ⟨b, off, hA, hlt, hc⟩ := h hl
  refine ⟨b, off, hA, Nat.lt_of_lt_of_le hlt hb.size, fun j x hj => ?_⟩
  obtain ⟨h1, h2⟩ := hc j x hj
  exact ⟨(hb.cell (p := ⟨b, off + j * 2, none⟩) hlt).trans h1, (hb.cell (p := ⟨b, off + j * 2 + 1, none⟩) hlt).trans h2⟩
theorem ActsIn.cell {w : World} {A : Option Addr} {L : List (Nat × Int)} (h : ActsIn w A L) {k : Nat} {x : Nat × Int} (hk : L[k]? = some x) :
    ∃ b off, A = some ⟨b, off, none⟩ ∧ b < w.heap.size ∧ w.cell? ⟨b, off + k * 2, none⟩ = some (.int .u8 (x.1 : Int)) ∧ w.cell? ⟨b, off + k * 2 + 1, none⟩ = some (.int .i64 x.2) := by
  obtain ⟨b, off, hA, hlt, hc⟩ := h (by intro e; subst e; simp at hk)
  exact ⟨b, off, hA, hlt, hc k x hk⟩

theorem two_of {α : Type} {l : List α} (h : l.length = 2) : ∃ a b, l = [a, b] := by
  match l, h with
  | [a, b], _ => exact ⟨a, b, rfl⟩
theorem one_of {α : Type} {a b c : α} {n : Nat} (hn : n = 1) (h : (List.drop 0 [a, b]).take n = [c]) : a = c := by
  subst hn; simpa using h
theorem two_one_of {α : Type} {a b c : α} {n : Nat} (hn : n = 1) (h : (List.drop 1 [a, b]).take n = [c]) : b = c := by
  subst hn; simpa using h
theorem ci10 : Try.prog.cellsOf 3 = 1 := by kernel_rfl
theorem cb10 : Try.prog.cellsOf 5 = 1 := by kernel_rfl
def ActOk (s : Nat × Int) : Prop := s.1 < 256 ∧ -9223372036854775808 ≤ s.2 ∧ s.2 ≤ 9223372036854775807
section
variable {H : Type} {enc : TypeId × Value → H} {w : World}
theorem act_in {n : Nat} {cs : List Value} {y : DataW H × List MemPlace} (h : DataW.trod enc Try.prog w 0 (fun _ => true) true n 28 cs = some y) (hl : cs.length = 2) :
    ∃ s : Nat × Int, cs = [.int .u8 (s.1 : Int), .int .i64 s.2] ∧ ActOk s := by
  obtain ⟨y0, y1, n', hx, _, h0, h1⟩ := trod_struct2 Try.underlying28 h
  obtain ⟨c0, c1, rfl⟩ := two_of hl
  obtain ⟨k, e0, _, wk⟩ := DataW.trod_int Try.underlying5 h0
  obtain ⟨m, e1, _, wm⟩ := DataW.trod_int Try.underlying3 h1
  obtain rfl : c0 = .int .u8 k := one_of cb10 e0
  obtain rfl : c1 = .int .i64 m := two_one_of ci10 e1
  have hk := bounds_u8 wk
  have hm := bounds_i64 wm
  obtain ⟨q, rfl⟩ := Int.eq_ofNat_of_zero_le hk.1
  exact ⟨(q, m), rfl, by show q < 256; omega, hm⟩

/-- A row of deeds that came in. -/
theorem acts_in {a : Option Addr} {len cap : Nat} {d : DataW H} {p : List MemPlace} (h : DataW.Trod enc Try.prog w 0 (fun _ => true) true 22 (.slice a len cap) d p) :
    ∃ L : List (Nat × Int), L.length = len ∧ ActsIn w a L ∧ len ≤ cap ∧ cap ≤ maxLen ∧ ∀ s ∈ L, ActOk s := by
  obtain ⟨fuel, hf⟩ := h
  rcases Go.Deep.open_slice Try.underlying22 hf with ⟨hcs, _⟩ | ⟨x, l, c, m, n, D, Pl, hcs, _, hl, hm, hmm, hx, hi⟩
  · simp [Value.cells] at hcs
    obtain ⟨rfl, rfl, rfl⟩ := hcs
    exact ⟨[], rfl, ActsIn.nil _ _, Nat.le_refl _, Nat.zero_le _, fun s hs => by cases hs⟩
  · simp [Value.cells] at hcs
    obtain ⟨rfl, rfl, rfl⟩ := hcs
    have hmc : m = cap := by simpa using hmm
    have hC : Try.prog.cellsOf 28 = 2 := by kernel_rfl
    have one : ∀ i, i < len → ∃ s : Nat × Int, w.cell? (x.add (i * 2)) = some (.int .u8 (s.1 : Int)) ∧ w.cell? (x.add (i * 2 + 1)) = some (.int .i64 s.2) ∧ ActOk s := by
      intro i hi2
      obtain ⟨cs', hc, ht'⟩ := hi i (by omega)
      rw [hC] at hc
      obtain ⟨_, hcl, hat⟩ := World.cells?_some hc
      obtain ⟨s, rfl, hok⟩ := act_in ht' hcl
      have h0 := hat 0 (by omega)
      have h1 := hat 1 (by omega)
      rw [Go.Deep.add_add] at h0 h1
      exact ⟨s, by simpa using h0, by simpa using h1, hok⟩
    have all : ∀ k, k ≤ len → ∃ L : List (Nat × Int), L.length = k ∧ ∀ (j : Nat) s, L[j]? = some s → w.cell? (x.add (j * 2)) = some (.int .u8 (s.1 : Int)) ∧ w.cell? (x.add (j * 2 + 1)) = some (.int .i64 s.2) ∧ ActOk s := by
      intro k
      induction k with
      | zero => exact fun _ => ⟨[], rfl, fun j s h => by simp at h⟩
      | succ k ih =>
        intro hk
        obtain ⟨L, hL, hall⟩ := ih (by omega)
        obtain ⟨s, hs⟩ := one k (by omega)
        refine ⟨L ++ [s], by simp [hL], fun j t hj => ?_⟩
        by_cases hjk : j < L.length
        · rw [List.getElem?_append_left hjk] at hj
          exact hall j t hj
        · rw [List.getElem?_append_right (by omega)] at hj
          by_cases h0 : j - L.length = 0
          · rw [h0] at hj
            obtain rfl : s = t := by simpa using hj
            obtain rfl : j = k := by omega
            exact hs
          · obtain ⟨q, hq⟩ := Nat.exists_eq_succ_of_ne_zero h0
            rw [hq] at hj
            simp at hj
    obtain ⟨L, hL, hall⟩ := all len (Nat.le_refl _)
    refine ⟨L, hL, fun hne => ?_, hl, hm, fun s hs => ?_⟩
    · obtain ⟨s0, hs0⟩ : ∃ s, L[0]? = some s := by
        cases L with
        | nil => exact absurd rfl hne
        | cons s L => exact ⟨s, rfl⟩
      obtain ⟨b, off, spot⟩ := x
      have h0 := (hall 0 s0 hs0).1
      have hspot : spot = none := by simpa [Addr.add] using World.cell?_spot h0
      subst hspot
      refine ⟨b, off, rfl, World.block_lt_of_cell? w _ h0, fun j s hj => ?_⟩
      obtain ⟨h1, h2, h3⟩ := hall j s hj
      rw [Addr.add_lit] at h1 h2
      exact ⟨h1, by rw [Nat.add_assoc]; exact h2⟩
    · obtain ⟨j, hj⟩ := List.getElem?_of_mem hs
      exact (hall j s hj).2.2
end
end Go.Proofs.Ytagfehfggkehmaa

/-
  A row of ranges, that comes in as a statement's argument.
-/
import Derived.Test.YtcjeifpdikojlaaDoorBase
import Derived.Test.YtcjeifpdikojlaaDoorFrame12
namespace Go.Proofs.YtcjeifpdikojlaaDoor
open Go.ChangeShapes Go.WideShapes Go.ChangeAt Go.RowKit
set_option linter.unusedVariables false

/-- A range: the prefix's number and length, the least and the greatest length. -/
abbrev Rg := Nat × Int × Int × Int
def RgAt (w : World) (b o : Nat) (x : Rg) : Prop := w.cell? ⟨b, o, none⟩ = some (.int .u32 (x.1 : Int)) ∧ w.cell? ⟨b, o + 1, none⟩ = some (.int .i64 x.2.1) ∧ w.cell? ⟨b, o + 2, none⟩ = some (.int .i64 x.2.2.1) ∧ w.cell? ⟨b, o + 3, none⟩ = some (.int .i64 x.2.2.2)
/-- A row of ranges. -/
def RngsIn (w : World) (A : Option Addr) (L : List Rg) : Prop :=
  L ≠ [] → ∃ b off, A = some ⟨b, off, none⟩ ∧ b < w.heap.size ∧ ∀ (j : Nat) x, L[j]? = some x → RgAt w b (off + j * 4) x
theorem RngsIn.nil (w : World) (A : Option Addr) : RngsIn w A [] := fun h => absurd rfl h
theorem RngsIn.below {w w' : World} {A : Option Addr} {L : List Rg} (h : RngsIn w A L) (hb : Below w.heap.size w w') : RngsIn w' A L := by
  intro hl
  obtain ⟨b, off, hA, hlt, hc⟩ := h hl
  refine ⟨b, off, hA, Nat.lt_of_lt_of_le hlt hb.size, fun j x hj => ?_⟩
  obtain ⟨h1, h2, h3, h4⟩ := hc j x hj
  exact ⟨(hb.cell (p := ⟨b, off + j * 4, none⟩) hlt).trans h1, (hb.cell (p := ⟨b, off + j * 4 + 1, none⟩) hlt).trans h2, (hb.cell (p := ⟨b, off + j * 4 + 2, none⟩) hlt).trans h3, (hb.cell (p := ⟨b, off + j * 4 + 3, none⟩) hlt).trans h4⟩
theorem RngsIn.cell {w : World} {A : Option Addr} {L : List Rg} (h : RngsIn w A L) {k : Nat} {x : Rg} (hk : L[k]? = some x) :
    ∃ b off, A = some ⟨b, off, none⟩ ∧ b < w.heap.size ∧ RgAt w b (off + k * 4) x := by
  obtain ⟨b, off, hA, hlt, hc⟩ := h (by intro e; subst e; simp at hk)
  exact ⟨b, off, hA, hlt, hc k x hk⟩
def RgOk (x : Rg) : Prop := x.1 < 4294967296 ∧ (-9223372036854775808 ≤ x.2.1 ∧ x.2.1 ≤ 9223372036854775807)
section
variable {H : Type} {enc : TypeId × Value → H} {w : World}
/-- A row of ranges that came in. -/
theorem ranges_in {a : Option Addr} {len cap : Nat} {d : DataW H} {p : List MemPlace} (h : DataW.Trod enc Tryd.prog w 0 (fun _ => true) true 36 (.slice a len cap) d p) :
    ∃ L : List Rg, L.length = len ∧ RngsIn w a L ∧ len ≤ cap ∧ cap ≤ maxLen ∧ ∀ s ∈ L, RgOk s := by
  obtain ⟨fuel, hf⟩ := h
  rcases Go.Deep.open_slice Tryd.underlying36 hf with ⟨hcs, _⟩ | ⟨x, l, c, m, n, D, Pl, hcs, _, hl, hm, hmm, hx, hi⟩
  · simp [Value.cells] at hcs
    obtain ⟨rfl, rfl, rfl⟩ := hcs
    exact ⟨[], rfl, RngsIn.nil _ _, Nat.le_refl _, Nat.zero_le _, fun s hs => by cases hs⟩
  · simp [Value.cells] at hcs
    obtain ⟨rfl, rfl, rfl⟩ := hcs
    have hmc : m = cap := by simpa using hmm
    have one : ∀ i, i < len → ∃ s : Rg, (w.cell? (x.add (i * 4)) = some (.int .u32 (s.1 : Int)) ∧ w.cell? (x.add (i * 4 + 1)) = some (.int .i64 s.2.1) ∧ w.cell? (x.add (i * 4 + 2)) = some (.int .i64 s.2.2.1) ∧ w.cell? (x.add (i * 4 + 3)) = some (.int .i64 s.2.2.2)) ∧ RgOk s := by
      intro i hi2
      obtain ⟨cs', hc, ht'⟩ := hi i (by omega)
      rw [cr12] at hc
      obtain ⟨_, hcl, hat⟩ := World.cells?_some hc
      obtain ⟨a, n, mn, mx, rfl, h1, h2, h3, h4⟩ := range_cells ht' hcl
      have g0 := hat 0 (by omega)
      have g1 := hat 1 (by omega)
      have g2 := hat 2 (by omega)
      have g3 := hat 3 (by omega)
      rw [Go.Deep.add_add] at g0 g1 g2 g3
      exact ⟨(a, n, mn, mx), ⟨by simpa using g0, by simpa using g1, by simpa using g2, by simpa using g3⟩, h1, h2⟩
    have all : ∀ k, k ≤ len → ∃ L : List Rg, L.length = k ∧ ∀ (j : Nat) s, L[j]? = some s → (w.cell? (x.add (j * 4)) = some (.int .u32 (s.1 : Int)) ∧ w.cell? (x.add (j * 4 + 1)) = some (.int .i64 s.2.1) ∧ w.cell? (x.add (j * 4 + 2)) = some (.int .i64 s.2.2.1) ∧ w.cell? (x.add (j * 4 + 3)) = some (.int .i64 s.2.2.2)) ∧ RgOk s := by
      intro k
      induction k with
      | zero => exact fun _ => ⟨[], rfl, fun j s h => by simp at h⟩
      | succ k ih =>
        intro hk
        obtain ⟨L, hL, hall⟩ := ih (by omega)
        obtain ⟨s, hs⟩ := one k (by omega)
        refine ⟨L ++ [s], by simp [hL], fun j t hj => ?_⟩
        by_cases hjk : j < L.length
        · rw [List.getElem?_append_left hjk] at hj
          exact hall j t hj
        · rw [List.getElem?_append_right (by omega)] at hj
          by_cases h0 : j - L.length = 0
          · rw [h0] at hj
            obtain rfl : s = t := by simpa using hj
            obtain rfl : j = k := by omega
            exact hs
          · obtain ⟨q, hq⟩ := Nat.exists_eq_succ_of_ne_zero h0
            rw [hq] at hj
            simp at hj
    obtain ⟨L, hL, hall⟩ := all len (Nat.le_refl _)
    refine ⟨L, hL, fun hne => ?_, hl, hm, fun s hs => ?_⟩
    · obtain ⟨s0, hs0⟩ : ∃ s, L[0]? = some s := by
        cases L with
        | nil => exact absurd rfl hne
        | cons s L => exact ⟨s, rfl⟩
      obtain ⟨b, off, spot⟩ := x
      have h0 := (hall 0 s0 hs0).1.1
      have hspot : spot = none := by simpa [Addr.add] using World.cell?_spot h0
      subst hspot
      refine ⟨b, off, rfl, World.block_lt_of_cell? w _ h0, fun j s hj => ?_⟩
      obtain ⟨⟨h1, h2, h3, h4⟩, h5⟩ := hall j s hj
      rw [Addr.add_lit] at h1 h2 h3 h4
      exact ⟨h1, by rw [Nat.add_assoc]; exact h2, by rw [Nat.add_assoc]; exact h3, by rw [Nat.add_assoc]; exact h4⟩
    · obtain ⟨j, hj⟩ := List.getElem?_of_mem hs
      exact (hall j s hj).2
end
end Go.Proofs.YtcjeifpdikojlaaDoor

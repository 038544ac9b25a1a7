/-
  Messages that come in as a statement's argument.
-/
import Derived.Test.YtjhmkapafhgofaaDoorFrame7
import Derived.Test.YtjhmkapafhgofaaDoorMsIn7
import Derived.Deep.Slices
import Derived.Deep.Fields
namespace Go.Proofs.YtjhmkapafhgofaaDoor
open Go.ChangeShapes Go.WideShapes Go.ChangeAt Go.RowKit
set_option linter.unusedVariables false

theorem two_of {α : Type} {l : List α} (h : l.length = 2) : ∃ a b, l = [a, b] := by
  match l, h with
  | [a, b], _ => exact ⟨a, b, rfl⟩
theorem one_of {α : Type} {a b c : α} {n : Nat} (hn : n = 1) (h : (List.drop 0 [a, b]).take n = [c]) : a = c := by
  subst hn; simpa using h
theorem two_one_of {α : Type} {a b c : α} {n : Nat} (hn : n = 1) (h : (List.drop 1 [a, b]).take n = [c]) : b = c := by
  subst hn; simpa using h
theorem ci : Tryd.prog.cellsOf 3 = 1 := by kernel_rfl
theorem cs1 : Tryd.prog.cellsOf 22 = 1 := by kernel_rfl
/-- What one message is that came in. -/
def MsOk (w : World) (s : Ms) : Prop := At w w.heap.size s.adr s.body ∧ s.body.length ≤ s.cap ∧ s.cap ≤ maxLen ∧ -9223372036854775808 ≤ s.kind ∧ s.kind ≤ 9223372036854775807
section
variable {H : Type} {enc : TypeId × Value → H} {w : World}
theorem msg_in {n : Nat} {cs : List Value} {y : DataW H × List MemPlace} (h : DataW.trod enc Tryd.prog w 0 (fun _ => true) true n 47 cs = some y) (hl : cs.length = 2) :
    ∃ s : Ms, cs = [.int .i64 s.kind, .slice s.adr s.body.length s.cap] ∧ MsOk w s := by
  obtain ⟨y0, y1, n', hx, _, h0, h1⟩ := trod_struct2 Tryd.underlying47 h
  obtain ⟨c0, c1, rfl⟩ := two_of hl
  obtain ⟨k, e0, _, wk⟩ := DataW.trod_int Tryd.underlying3 h0
  obtain rfl : c0 = .int .i64 k := one_of ci e0
  rcases open_ints Tryd.underlying22 Tryd.underlying5 (by kernel_rfl) h1 with ⟨e1, _⟩ | ⟨a, len, cap, zs, e1, _, hl9, hm, hz, _, hcell, hwz⟩
  · obtain rfl : c1 = .slice none 0 0 := two_one_of cs1 e1
    exact ⟨⟨k, none, 0, []⟩, rfl, At.nil _ _ _, Nat.le_refl _, Nat.zero_le _, bounds_i64 wk⟩
  · obtain rfl : c1 = .slice (some a) len cap := two_one_of cs1 e1
    obtain ⟨z, hz1, hz2⟩ := bytes_in hl9 (cap := cap) (by simpa using hz) hcell hwz
    subst hz1
    exact ⟨⟨k, some a, cap, z⟩, rfl, hz2, hl9, hm, bounds_i64 wk⟩

/-- A row of messages that came in. -/
theorem ms_in {a : Option Addr} {len cap : Nat} {d : DataW H} {p : List MemPlace} (h : DataW.Trod enc Tryd.prog w 0 (fun _ => true) true 41 (.slice a len cap) d p) :
    ∃ L : List Ms, L.length = len ∧ MsIn w w.heap.size a L ∧ len ≤ cap ∧ cap ≤ maxLen ∧ ∀ s ∈ L, s.body.length ≤ s.cap ∧ s.cap ≤ maxLen ∧ -9223372036854775808 ≤ s.kind ∧ s.kind ≤ 9223372036854775807 := by
  obtain ⟨fuel, hf⟩ := h
  rcases Go.Deep.open_slice Tryd.underlying41 hf with ⟨hcs, _⟩ | ⟨x, l, c, m, n, D, Pl, hcs, _, hl, hm, hmm, hx, hi⟩
  · simp [Value.cells] at hcs
    obtain ⟨rfl, rfl, rfl⟩ := hcs
    exact ⟨[], rfl, MsIn.nil _ _ _, Nat.le_refl _, Nat.zero_le _, fun s hs => by cases hs⟩
  · simp [Value.cells] at hcs
    obtain ⟨rfl, rfl, rfl⟩ := hcs
    have hmc : m = cap := by simpa using hmm
    have hC : Tryd.prog.cellsOf 47 = 2 := by kernel_rfl
    have one : ∀ i, i < len → ∃ s : Ms, w.cell? (x.add (i * 2)) = some (.int .i64 s.kind) ∧ w.cell? (x.add (i * 2 + 1)) = some (.slice s.adr s.body.length s.cap) ∧ MsOk w s := by
      intro i hi2
      obtain ⟨cs', hc, ht'⟩ := hi i (by omega)
      rw [hC] at hc
      obtain ⟨_, hcl, hat⟩ := World.cells?_some hc
      obtain ⟨s, rfl, hok⟩ := msg_in ht' hcl
      have h0 := hat 0 (by omega)
      have h1 := hat 1 (by omega)
      rw [Go.Deep.add_add] at h0 h1
      exact ⟨s, by simpa using h0, by simpa using h1, hok⟩
    have all : ∀ k, k ≤ len → ∃ L : List Ms, L.length = k ∧ ∀ (j : Nat) (s : Ms), L[j]? = some s → w.cell? (x.add (j * 2)) = some (.int .i64 s.kind) ∧ w.cell? (x.add (j * 2 + 1)) = some (.slice s.adr s.body.length s.cap) ∧ MsOk w s := by
      intro k
      induction k with
      | zero => exact fun _ => ⟨[], rfl, fun j s h => by simp at h⟩
      | succ k ih =>
        intro hk
        obtain ⟨L, hL, hall⟩ := ih (by omega)
        obtain ⟨s, hs⟩ := one k (by omega)
        refine ⟨L ++ [s], by simp [hL], fun j t hj => ?_⟩
        by_cases hjk : j < L.length
        · rw [List.getElem?_append_left hjk] at hj
          exact hall j t hj
        · rw [List.getElem?_append_right (by omega)] at hj
          by_cases h0 : j - L.length = 0
          · rw [h0] at hj
            obtain rfl : s = t := by simpa using hj
            obtain rfl : j = k := by omega
            exact hs
          · obtain ⟨q, hq⟩ := Nat.exists_eq_succ_of_ne_zero h0
            rw [hq] at hj
            simp at hj
    obtain ⟨L, hL, hall⟩ := all len (Nat.le_refl _)
    refine ⟨L, hL, fun hne => ?_, hl, hm, fun s hs => ?_⟩
    · obtain ⟨s0, hs0⟩ : ∃ s, L[0]? = some s := by
        cases L with
        | nil => exact absurd rfl hne
        | cons s L => exact ⟨s, rfl⟩
      obtain ⟨b, off, spot⟩ := x
      have h0 := (hall 0 s0 hs0).1
      have hspot : spot = none := by simpa [Addr.add] using World.cell?_spot h0
      subst hspot
      refine ⟨b, off, rfl, World.block_lt_of_cell? w _ h0, fun j s hj => ?_⟩
      obtain ⟨h1, h2, h3⟩ := hall j s hj
      rw [Addr.add_lit] at h1 h2
      exact ⟨h1, by rw [Nat.add_assoc]; exact h2, h3.1⟩
    · obtain ⟨j, hj⟩ := List.getElem?_of_mem hs
      exact (hall j s hj).2.2.2
end
end Go.Proofs.YtjhmkapafhgofaaDoor

/-
  From a statement's arguments to what the walks are told: how many numbers a path may hold that is small.
-/
import Derived.Test.YtlgfollajodpaaaDoorFrame3W
import Derived.Test.YtlgfollajodpaaaDoorRows
namespace Go.Proofs.YtlgfollajodpaaaDoor
open Go.ChangeShapes Go.WideShapes Go.ChangeAt Go.RowKit
set_option linter.unusedVariables false
set_option linter.unusedSimpArgs false

section
variable {H : Type} {enc : TypeId × Value → H} {w : World}
theorem bulk_one (d : DataW H) : 1 ≤ Rows.uptoBulk d := by
  cases d with
  | lit l => cases l <;> simp [Rows.uptoBulk]
  | nil => simp [Rows.uptoBulk]
  | ptr d => simp [Rows.uptoBulk]
  | slice elems spare => simp [Rows.uptoBulk]
  | agg parts => simp [Rows.uptoBulk]
  | iface t d => simp [Rows.uptoBulk]
  | map entries => simp [Rows.uptoBulk]
  | held h => simp [Rows.uptoBulk]
theorem bulk_part {d : DataW H} {l : List (DataW H)} (h : d ∈ l) : Rows.uptoBulk d ≤ Rows.uptoBulkAll l := by
  induction l with
  | nil => cases h
  | cons x r ih =>
    simp only [Rows.uptoBulkAll]
    rcases List.mem_cons.1 h with e | e
    · subst e; omega
    · have := ih e; omega
theorem bulk_len (l : List (DataW H)) : l.length ≤ Rows.uptoBulkAll l := by
  induction l with
  | nil => simp [Rows.uptoBulkAll]
  | cons x r ih => have := bulk_one x; simp only [Rows.uptoBulkAll, List.length_cons]; omega
theorem bulk_slice (elems spare : List (DataW H)) : elems.length ≤ Rows.uptoBulk (.slice elems spare) := by
  have h1 := bulk_len elems
  simp only [Rows.uptoBulk]
  omega
theorem bulk_bound {l : List (DataW H)} (hk : Rows.uptoSmall H l = true) : Rows.uptoBulkAll l ≤ 1048576 := of_decide_eq_true hk
/-- One segment that came in. -/
theorem seg_in_b {n : Nat} {cs : List Value} {y : DataW H × List MemPlace} (h : DataW.trod enc Tryd.prog w 0 (fun _ => true) true n 39 cs = some y) (hl : cs.length = 2) :
    ∃ s : Sg, cs = [.int .i64 s.kind, .slice s.adr s.nums.length s.cap] ∧ Sg.Ok w w.heap.size s ∧ s.nums.length ≤ Rows.uptoBulk y.1 := by
  obtain ⟨y0, y1, n', hx, _, h0, h1⟩ := trod_struct2 Tryd.underlying39 h
  obtain ⟨c0, c1, rfl⟩ := two_of hl
  obtain ⟨k, e0, _, wk⟩ := DataW.trod_int Tryd.underlying3 h0
  obtain rfl : c0 = .int .i64 k := one_of ci e0
  rcases open_ints Tryd.underlying37 Tryd.underlying23 (by kernel_rfl) h1 with ⟨e1, _⟩ | ⟨a, len, cap, zs, e1, _, hl9, hm, hz, hy1, hcell, hwz⟩
  · obtain rfl : c1 = .slice none 0 0 := two_one_of cs1 e1
    exact ⟨⟨k, none, 0, []⟩, rfl, ⟨Nat.le_refl _, Nat.zero_le _, At32.nil _ _ _, by simp, bounds_i64 wk⟩, Nat.zero_le _⟩
  · obtain rfl : c1 = .slice (some a) len cap := two_one_of cs1 e1
    obtain ⟨z, hz1, hz2, hz3⟩ := u32_in hl9 (cap := cap) (by simpa using hz) hcell hwz
    subst hz1
    refine ⟨⟨k, some a, cap, z⟩, rfl, ⟨hl9, hm, hz2, hz3, bounds_i64 wk⟩, ?_⟩
    have h1 : z.length ≤ Rows.uptoBulk y1.1 := by
      rw [hy1]
      have h8 : zs.length = cap := by simpa using hz
      refine Nat.le_trans ?_ (bulk_slice _ _)
      simp only [lits, List.length_map, List.length_take]
      omega
    rw [hx]
    simp only [Rows.uptoBulk, Rows.uptoBulkAll]
    show z.length ≤ _
    omega

/-- A path that came in. -/
theorem segs_in_b {a : Option Addr} {len cap : Nat} {d : DataW H} {p : List MemPlace} (h : DataW.Trod enc Tryd.prog w 0 (fun _ => true) true 22 (.slice a len cap) d p) :
    ∃ L : List Sg, L.length = len ∧ Segs w w.heap.size a L ∧ len ≤ cap ∧ cap ≤ maxLen ∧ ∀ s ∈ L, s.nums.length ≤ Rows.uptoBulk d := by
  obtain ⟨fuel, hf⟩ := h
  rcases Go.Deep.open_slice Tryd.underlying22 hf with ⟨hcs, _⟩ | ⟨x, l, c, m, n, D, Pl, hcs, _, hl, hm, hmm, hx, hi⟩
  · simp [Value.cells] at hcs
    obtain ⟨rfl, rfl, rfl⟩ := hcs
    exact ⟨[], rfl, Segs.nil _ _ _, Nat.le_refl _, Nat.zero_le _, fun s hs => by cases hs⟩
  · simp [Value.cells] at hcs
    obtain ⟨rfl, rfl, rfl⟩ := hcs
    have hmc : m = cap := by simpa using hmm
    have hC : Tryd.prog.cellsOf 39 = 2 := by kernel_rfl
    have one : ∀ i, i < len → ∃ s : Sg, w.cell? (x.add (i * 2)) = some (.int .i64 s.kind) ∧ w.cell? (x.add (i * 2 + 1)) = some (.slice s.adr s.nums.length s.cap) ∧ Sg.Ok w w.heap.size s ∧ s.nums.length ≤ Rows.uptoBulk (D i) := by
      intro i hi2
      obtain ⟨cs', hc, ht'⟩ := hi i (by omega)
      rw [hC] at hc
      obtain ⟨_, hcl, hat⟩ := World.cells?_some hc
      obtain ⟨s, rfl, hok, hwt⟩ := seg_in_b ht' hcl
      have h0 := hat 0 (by omega)
      have h1 := hat 1 (by omega)
      rw [Go.Deep.add_add] at h0 h1
      exact ⟨s, by simpa using h0, by simpa using h1, hok, hwt⟩
    have all : ∀ k, k ≤ len → ∃ L : List Sg, L.length = k ∧ ∀ (j : Nat) (s : Sg), L[j]? = some s → w.cell? (x.add (j * 2)) = some (.int .i64 s.kind) ∧ w.cell? (x.add (j * 2 + 1)) = some (.slice s.adr s.nums.length s.cap) ∧ Sg.Ok w w.heap.size s ∧ s.nums.length ≤ Rows.uptoBulk (D j) := by
      intro k
      induction k with
      | zero => exact fun _ => ⟨[], rfl, fun j s h => by simp at h⟩
      | succ k ih =>
        intro hk
        obtain ⟨L, hL, hall⟩ := ih (by omega)
        obtain ⟨s, hs⟩ := one k (by omega)
        refine ⟨L ++ [s], by simp [hL], fun j t hj => ?_⟩
        by_cases hjk : j < L.length
        · rw [List.getElem?_append_left hjk] at hj
          exact hall j t hj
        · rw [List.getElem?_append_right (by omega)] at hj
          by_cases h0 : j - L.length = 0
          · rw [h0] at hj
            obtain rfl : s = t := by simpa using hj
            obtain rfl : j = k := by omega
            exact hs
          · obtain ⟨q, hq⟩ := Nat.exists_eq_succ_of_ne_zero h0
            rw [hq] at hj
            simp at hj
    obtain ⟨L, hL, hall⟩ := all len (Nat.le_refl _)
    refine ⟨L, hL, fun hne => ?_, hl, hm, fun s hs => ?_⟩
    rotate_left
    · obtain ⟨j, hj, hj2⟩ := List.mem_iff_getElem.1 hs
      refine Nat.le_trans (hall j s (by rw [List.getElem?_eq_getElem hj, hj2])).2.2.2 ?_
      have hd : d = .slice ((List.range len).map D) ((List.range (m - len)).map fun j => D (len + j)) := by
        have := congrArg Prod.fst hx
        simpa using this
      rw [hd]
      have h1 : D j ∈ (List.range len).map D := List.mem_map.2 ⟨j, List.mem_range.2 (by omega), rfl⟩
      have h2 := bulk_part h1
      simp only [Rows.uptoBulk]
      omega
    obtain ⟨s0, hs0⟩ : ∃ s, L[0]? = some s := by
      cases L with
      | nil => exact absurd rfl hne
      | cons s L => exact ⟨s, rfl⟩
    obtain ⟨b, off, spot⟩ := x
    have h0 := (hall 0 s0 hs0).1
    have hspot : spot = none := by simpa [Addr.add] using World.cell?_spot h0
    subst hspot
    refine ⟨b, off, rfl, World.block_lt_of_cell? w _ h0, fun j s hj => ?_⟩
    obtain ⟨h1, h2, h3, _⟩ := hall j s hj
    rw [Addr.add_lit] at h1 h2
    exact ⟨h1, h2, h3⟩
end
theorem few_tot_small {L : List Sg} (hf : fewB L = true) (h : ∀ s ∈ L, s.nums.length ≤ 1048576) : totN L ≤ 1048576 := by
  have h1 : L.length ≤ 12 ∧ fewN L ≤ 300 := of_decide_eq_true hf
  rcases few_tot L h1.2 with h2 | ⟨_, s, hs, h2⟩
  · omega
  · have := h s hs
    omega
end Go.Proofs.YtlgfollajodpaaaDoor

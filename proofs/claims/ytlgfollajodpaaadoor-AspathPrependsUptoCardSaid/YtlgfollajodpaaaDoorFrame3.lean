/-
  From a statement's arguments to what the walks are told, and the table out of the row's list.
-/
import Derived.Test.YtlgfollajodpaaaDoorCards
import Derived.Test.YtlgfollajodpaaaDoorTie
import Derived.Test.YtlgfollajodpaaaDoorSeg
import Derived.Test.YtlgfollajodpaaaDoorTab
import Derived.ProofKit
import Derived.OpenShut
import Derived.Deep.DeepHandedRow
import Derived.Deep.Slices
import Derived.Deep.Fields
import Derived.Lib.SmallJoins
import Derived.Lib.LaidTab
namespace Go.Proofs.YtlgfollajodpaaaDoor
open Go.ChangeShapes Go.WideShapes Go.ChangeAt Go.RowKit
set_option linter.unusedVariables false

theorem own : ownKnob Tryd.prog.godebug = none := by kernel_rfl
theorem laidOut : laidOutB Tryd.prog = true := by kernel_rfl
theorem gTab : Tryd.prog.globalNamed "speculum/octet.digits" = some 0 := by kernel_rfl
theorem gTabType : (Tryd.prog.globals[0]?).map (·.type) = some 91 := by kernel_rfl
theorem cellsTab : Tryd.prog.cellsOf 91 = 16 := by kernel_rfl
theorem cellsByte : Tryd.prog.cellsOf 5 = 1 := by kernel_rfl

/-- What a row that lists the table gives. -/
theorem tab_of_laid {W : World} (h : laidMetH Tryd.prog [("speculum/octet.digits", Rows.laid_speculum_octet_digits)] W) : Tab W := by
  have h1 : Lib.TabIs Tryd.prog W "speculum/octet.digits" .u8 [48, 49, 50, 51, 52, 53, 54, 55, 56, 57, 97, 98, 99, 100, 101, 102] :=
    Lib.tabIs_of_head (rest := []) gTab gTabType Tryd.underlying91 Tryd.underlying5 cellsByte cellsTab h
  unfold Lib.TabIs at h1
  simp only [World.var?, gTab, Option.bind_some] at h1
  split at h1
  · rename_i cs t fr hh
    cases h1
    exact ⟨t, fr, hh⟩
  · cases h1

/-- A slice of bytes that came in. -/
theorem bytes_in {w : World} {x : Addr} {len cap : Nat} {zs : List Int} (hl : len ≤ cap) (hz : zs.length = cap) (hc : ∀ i, i < zs.length → w.cell? (x.add i) = some (.int .u8 (zs.getD i 0))) (hwz : ∀ n ∈ zs, (Lit.int .u8 n).wf = true) :
    ∃ l : List UInt8, l.length = len ∧ Bytes w (some x) l := by
  refine ⟨(zs.take len).map fun n => UInt8.ofNat n.toNat, by simp; omega, fun hne => ?_⟩
  have hpos : 0 < len := by
    rcases Nat.eq_zero_or_pos len with h0 | h0
    · subst h0; simp at hne
    · exact h0
  obtain ⟨b, off, spot⟩ := x
  have h0 := hc 0 (by omega)
  have hspot : spot = none := by simpa [Addr.add] using World.cell?_spot h0
  subst hspot
  refine ⟨b, off, rfl, World.block_lt_of_cell? w _ h0, fun j hj => ?_⟩
  have hj' : j < len := by simpa [hz, Nat.min_eq_left hl] using hj
  have h1 := hc j (by omega)
  rw [Addr.add_lit] at h1
  rw [h1]
  have hjz : j < zs.length := by omega
  have hm := hwz zs[j] (List.getElem_mem _)
  have hr := bounds_u8 hm
  simp [List.getD, hjz, hj']
  omega

/-- A slice of numbers of four bytes that came in. -/
theorem u32_in {w : World} {x : Addr} {len cap : Nat} {zs : List Int} (hl : len ≤ cap) (hz : zs.length = cap) (hc : ∀ i, i < zs.length → w.cell? (x.add i) = some (.int .u32 (zs.getD i 0))) (hwz : ∀ n ∈ zs, (Lit.int .u32 n).wf = true) :
    ∃ z : List Nat, z.length = len ∧ At32 w w.heap.size (some x) z ∧ ∀ y ∈ z, y < 4294967296 := by
  have hz1 : ((zs.take len).map fun n => n.toNat).length = len := by simp; omega
  refine ⟨(zs.take len).map fun n => n.toNat, hz1, fun hne => ?_, fun y hy => ?_⟩
  · have hpos : 0 < len := by
      rcases Nat.eq_zero_or_pos len with h0 | h0
      · subst h0; simp at hne
      · exact h0
    obtain ⟨b, off, spot⟩ := x
    have h0 := hc 0 (by omega)
    have hspot : spot = none := by simpa [Addr.add] using World.cell?_spot h0
    subst hspot
    refine ⟨b, off, rfl, World.block_lt_of_cell? w _ h0, fun j hj => ?_⟩
    have hj' : j < len := by rw [hz1] at hj; exact hj
    have h1 := hc j (by omega)
    rw [Addr.add_lit] at h1
    rw [h1]
    have hjz : j < zs.length := by omega
    have hm := hwz zs[j] (List.getElem_mem _)
    have hr := bounds_u32 hm
    simp [List.getD, hjz, hj']
    omega
  · obtain ⟨n, hn, rfl⟩ := List.mem_map.1 hy
    have hr := bounds_u32 (hwz n (List.mem_of_mem_take hn))
    omega

theorem two_of {α : Type} {l : List α} (h : l.length = 2) : ∃ a b, l = [a, b] := by
  match l, h with
  | [a, b], _ => exact ⟨a, b, rfl⟩
theorem one_of {α : Type} {a b c : α} {n : Nat} (hn : n = 1) (h : (List.drop 0 [a, b]).take n = [c]) : a = c := by
  subst hn; simpa using h
theorem two_one_of {α : Type} {a b c : α} {n : Nat} (hn : n = 1) (h : (List.drop 1 [a, b]).take n = [c]) : b = c := by
  subst hn; simpa using h
theorem ci : Tryd.prog.cellsOf 3 = 1 := by kernel_rfl
theorem cs1 : Tryd.prog.cellsOf 37 = 1 := by kernel_rfl
section
variable {H : Type} {enc : TypeId × Value → H} {w : World}
/-- One segment that came in. -/
theorem seg_in {n : Nat} {cs : List Value} {y : DataW H × List MemPlace} (h : DataW.trod enc Tryd.prog w 0 (fun _ => true) true n 39 cs = some y) (hl : cs.length = 2) :
    ∃ s : Sg, cs = [.int .i64 s.kind, .slice s.adr s.nums.length s.cap] ∧ Sg.Ok w w.heap.size s := by
  obtain ⟨y0, y1, n', hx, _, h0, h1⟩ := trod_struct2 Tryd.underlying39 h
  obtain ⟨c0, c1, rfl⟩ := two_of hl
  obtain ⟨k, e0, _, wk⟩ := DataW.trod_int Tryd.underlying3 h0
  obtain rfl : c0 = .int .i64 k := one_of ci e0
  rcases open_ints Tryd.underlying37 Tryd.underlying23 (by kernel_rfl) h1 with ⟨e1, _⟩ | ⟨a, len, cap, zs, e1, _, hl9, hm, hz, _, hcell, hwz⟩
  · obtain rfl : c1 = .slice none 0 0 := two_one_of cs1 e1
    exact ⟨⟨k, none, 0, []⟩, rfl, Nat.le_refl _, Nat.zero_le _, At32.nil _ _ _, by simp, bounds_i64 wk⟩
  · obtain rfl : c1 = .slice (some a) len cap := two_one_of cs1 e1
    obtain ⟨z, hz1, hz2, hz3⟩ := u32_in hl9 (cap := cap) (by simpa using hz) hcell hwz
    subst hz1
    exact ⟨⟨k, some a, cap, z⟩, rfl, hl9, hm, hz2, hz3, bounds_i64 wk⟩

/-- A path that came in. -/
theorem segs_in {a : Option Addr} {len cap : Nat} {d : DataW H} {p : List MemPlace} (h : DataW.Trod enc Tryd.prog w 0 (fun _ => true) true 22 (.slice a len cap) d p) :
    ∃ L : List Sg, L.length = len ∧ Segs w w.heap.size a L ∧ len ≤ cap ∧ cap ≤ maxLen := by
  obtain ⟨fuel, hf⟩ := h
  rcases Go.Deep.open_slice Tryd.underlying22 hf with ⟨hcs, _⟩ | ⟨x, l, c, m, n, D, Pl, hcs, _, hl, hm, hmm, hx, hi⟩
  · simp [Value.cells] at hcs
    obtain ⟨rfl, rfl, rfl⟩ := hcs
    exact ⟨[], rfl, Segs.nil _ _ _, Nat.le_refl _, Nat.zero_le _⟩
  · simp [Value.cells] at hcs
    obtain ⟨rfl, rfl, rfl⟩ := hcs
    have hmc : m = cap := by simpa using hmm
    have hC : Tryd.prog.cellsOf 39 = 2 := by kernel_rfl
    have one : ∀ i, i < len → ∃ s : Sg, w.cell? (x.add (i * 2)) = some (.int .i64 s.kind) ∧ w.cell? (x.add (i * 2 + 1)) = some (.slice s.adr s.nums.length s.cap) ∧ Sg.Ok w w.heap.size s := by
      intro i hi2
      obtain ⟨cs', hc, ht'⟩ := hi i (by omega)
      rw [hC] at hc
      obtain ⟨_, hcl, hat⟩ := World.cells?_some hc
      obtain ⟨s, rfl, hok⟩ := seg_in ht' hcl
      have h0 := hat 0 (by omega)
      have h1 := hat 1 (by omega)
      rw [Go.Deep.add_add] at h0 h1
      exact ⟨s, by simpa using h0, by simpa using h1, hok⟩
    have all : ∀ k, k ≤ len → ∃ L : List Sg, L.length = k ∧ ∀ (j : Nat) (s : Sg), L[j]? = some s → w.cell? (x.add (j * 2)) = some (.int .i64 s.kind) ∧ w.cell? (x.add (j * 2 + 1)) = some (.slice s.adr s.nums.length s.cap) ∧ Sg.Ok w w.heap.size s := by
      intro k
      induction k with
      | zero => exact fun _ => ⟨[], rfl, fun j s h => by simp at h⟩
      | succ k ih =>
        intro hk
        obtain ⟨L, hL, hall⟩ := ih (by omega)
        obtain ⟨s, hs⟩ := one k (by omega)
        refine ⟨L ++ [s], by simp [hL], fun j t hj => ?_⟩
        by_cases hjk : j < L.length
        · rw [List.getElem?_append_left hjk] at hj
          exact hall j t hj
        · rw [List.getElem?_append_right (by omega)] at hj
          by_cases h0 : j - L.length = 0
          · rw [h0] at hj
            obtain rfl : s = t := by simpa using hj
            obtain rfl : j = k := by omega
            exact hs
          · obtain ⟨q, hq⟩ := Nat.exists_eq_succ_of_ne_zero h0
            rw [hq] at hj
            simp at hj
    obtain ⟨L, hL, hall⟩ := all len (Nat.le_refl _)
    refine ⟨L, hL, fun hne => ?_, hl, hm⟩
    obtain ⟨s0, hs0⟩ : ∃ s, L[0]? = some s := by
      cases L with
      | nil => exact absurd rfl hne
      | cons s L => exact ⟨s, rfl⟩
    obtain ⟨b, off, spot⟩ := x
    have h0 := (hall 0 s0 hs0).1
    have hspot : spot = none := by simpa [Addr.add] using World.cell?_spot h0
    subst hspot
    refine ⟨b, off, rfl, World.block_lt_of_cell? w _ h0, fun j s hj => ?_⟩
    obtain ⟨h1, h2, h3⟩ := hall j s hj
    rw [Addr.add_lit] at h1 h2
    exact ⟨h1, h2, h3⟩
end
end Go.Proofs.YtlgfollajodpaaaDoor

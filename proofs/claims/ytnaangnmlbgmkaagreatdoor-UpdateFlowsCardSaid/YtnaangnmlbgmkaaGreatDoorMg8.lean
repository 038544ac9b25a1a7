/-
  Texts of this seat, put together: Frame4, PfxArg5, Agg4, Aggr4, PutNo4, Few4, FrameT4, Agg5, Saying5, Few5, Put5, RefPut5, Like5, UpdArg5.
-/
import Derived.Deep.Slices
import Derived.Deep.Fields
import GoSem.ClaimJoined
import Derived.Laws.Cells
import Derived.Laws.IdiomCopy
import Derived.Deep.RegionLaw
import Derived.Test.YtnaangnmlbgmkaaGreatDoorTie
import Derived.Test.YtnaangnmlbgmkaaGreatDoorCards
import Derived.Lib.LaidU8
import Derived.Deep.DeepHandedRow
import Derived.Test.YtnaangnmlbgmkaaGreatDoorAttr4Mg
import Derived.Test.YtnaangnmlbgmkaaGreatDoorMg1
import Derived.Test.YtnaangnmlbgmkaaGreatDoorMg4
import Derived.Test.YtnaangnmlbgmkaaGreatDoorLook4Mg
/-
  Attributes that come in as a statement's argument (written by gen04f.py).
-/
namespace Go.Proofs.YtnaangnmlbgmkaaGreatDoor
open Go.ChangeShapes Go.WideShapes Go.ChangeAt Go.RowKit
set_option linter.unusedVariables false
set_option linter.unusedSimpArgs false

/-- A slice of numbers of four bytes that came in. -/
theorem u32_in {w : World} {x : Addr} {len cap : Nat} {zs : List Int} (hl : len ≤ cap) (hz : zs.length = cap) (hc : ∀ i, i < zs.length → w.cell? (x.add i) = some (.int .u32 (zs.getD i 0))) (hwz : ∀ n ∈ zs, (Lit.int .u32 n).wf = true) :
    ∃ z : List Nat, z.length = len ∧ At32 w w.heap.size (some x) z ∧ ∀ y ∈ z, y < 4294967296 := by
  have hz1 : ((zs.take len).map fun n => n.toNat).length = len := by simp; omega
  refine ⟨(zs.take len).map fun n => n.toNat, hz1, fun hne => ?_, fun y hy => ?_⟩
  · have hpos : 0 < len := by
      rcases Nat.eq_zero_or_pos len with h0 | h0
      · subst h0; simp at hne
      · exact h0
    obtain ⟨b, off, spot⟩ := x
    have h0 := hc 0 (by omega)
    have hspot : spot = none := by simpa [Addr.add] using World.cell?_spot h0
    subst hspot
    refine ⟨b, off, rfl, World.block_lt_of_cell? w _ h0, fun j hj => ?_⟩
    have hj' : j < len := by rw [hz1] at hj; exact hj
    have h1 := hc j (by omega)
    rw [Addr.add_lit] at h1
    rw [h1]
    have hjz : j < zs.length := by omega
    have hm := hwz zs[j] (List.getElem_mem _)
    have hr := bounds_u32 hm
    simp [List.getD, hjz, hj']
    omega
  · obtain ⟨n, hn, rfl⟩ := List.mem_map.1 hy
    have hr := bounds_u32 (hwz n (List.mem_of_mem_take hn))
    omega

theorem two_of {α : Type} {l : List α} (h : l.length = 2) : ∃ a b, l = [a, b] := by
  match l, h with
  | [a, b], _ => exact ⟨a, b, rfl⟩
theorem one_of {α : Type} {a b c : α} {n : Nat} (hn : n = 1) (h : (List.drop 0 [a, b]).take n = [c]) : a = c := by
  subst hn; simpa using h
theorem two_one_of {α : Type} {a b c : α} {n : Nat} (hn : n = 1) (h : (List.drop 1 [a, b]).take n = [c]) : b = c := by
  subst hn; simpa using h
theorem ci : Tryz.prog.cellsOf 3 = 1 := by kernel_rfl
theorem cs1 : Tryz.prog.cellsOf 25 = 1 := by kernel_rfl
theorem bu32 : Tryz.prog.bytesOf 24 = 4 := by kernel_rfl
section
variable {H : Type} {enc : TypeId × Value → H} {w : World}
theorem weightsAll_mem {P : Program} {e : TypeId} {l : List (DataW H)} {d : DataW H} (h : d ∈ l) : ∀ x ∈ d.weights P e, x ∈ DataW.weightsAll P e l := by
  induction l with
  | nil => cases h
  | cons a r ih =>
    intro x hx
    simp only [DataW.weightsAll]
    rw [List.mem_append]
    rcases List.mem_cons.1 h with rfl | h
    · exact .inl hx
    · exact .inr (ih h x hx)
/-- One segment that came in. -/
theorem seg_in_w {n : Nat} {cs : List Value} {y : DataW H × List MemPlace} (h : DataW.trod enc Tryz.prog w 0 (fun _ => true) true n 112 cs = some y) (hl : cs.length = 2) :
    ∃ s : Sg, cs = [.int .i64 s.kind, .slice s.adr s.nums.length s.cap] ∧ Sg.Ok w w.heap.size s ∧ ∀ N, (∀ u ∈ y.1.weights Tryz.prog 112, u ≤ N) → s.nums.length * 4 ≤ N := by
  obtain ⟨y0, y1, n', hx, _, h0, h1⟩ := trod_struct2 Tryz.underlying112 h
  obtain ⟨c0, c1, rfl⟩ := two_of hl
  obtain ⟨k, e0, _, wk⟩ := DataW.trod_int Tryz.underlying3 h0
  obtain rfl : c0 = .int .i64 k := one_of ci e0
  rcases open_ints Tryz.underlying25 Tryz.underlying24 (by kernel_rfl) h1 with ⟨e1, _⟩ | ⟨a, len, cap, zs, e1, _, hl9, hm, hz, hy1, hcell, hwz⟩
  · obtain rfl : c1 = .slice none 0 0 := two_one_of cs1 e1
    exact ⟨⟨k, none, 0, []⟩, rfl, ⟨Nat.le_refl _, Nat.zero_le _, At32.nil _ _ _, by simp, bounds_i64 wk⟩, fun N _ => by simp⟩
  · obtain rfl : c1 = .slice (some a) len cap := two_one_of cs1 e1
    obtain ⟨z, hz1, hz2, hz3⟩ := u32_in hl9 (cap := cap) (by simpa using hz) hcell hwz
    subst hz1
    refine ⟨⟨k, some a, cap, z⟩, rfl, ⟨hl9, hm, hz2, hz3, bounds_i64 wk⟩, fun N hN => ?_⟩
    have hw : zs.length * 4 ∈ y.1.weights Tryz.prog 112 := by
      rw [hx, hy1]
      simp only [DataW.weights, Tryz.underlying112, Tryz.underlying25, DataW.weightsEach, List.map_cons, List.map_nil, lits, List.length_map, List.length_take, List.length_drop, bu32]
      rw [List.mem_append]
      right
      rw [List.mem_append]
      left
      have e9 : min z.length zs.length + (zs.length - z.length) = zs.length := by
        have : zs.length = cap := by simpa using hz
        omega
      rw [e9]
      exact List.mem_cons_self
    have h9 := hN _ hw
    have h8 : zs.length = cap := by simpa using hz
    show z.length * 4 ≤ N
    omega

/-- A path that came in. -/
theorem segs_in_w {a : Option Addr} {len cap : Nat} {d : DataW H} {p : List MemPlace} (h : DataW.Trod enc Tryz.prog w 0 (fun _ => true) true 23 (.slice a len cap) d p) :
    ∃ L : List Sg, L.length = len ∧ Segs w w.heap.size a L ∧ len ≤ cap ∧ cap ≤ maxLen ∧ ∀ N, (∀ u ∈ d.weights Tryz.prog 23, u ≤ N) → ∀ s ∈ L, s.nums.length * 4 ≤ N := by
  obtain ⟨fuel, hf⟩ := h
  rcases Go.Deep.open_slice Tryz.underlying23 hf with ⟨hcs, _⟩ | ⟨x, l, c, m, n, D, Pl, hcs, _, hl, hm, hmm, hx, hi⟩
  · simp [Value.cells] at hcs
    obtain ⟨rfl, rfl, rfl⟩ := hcs
    exact ⟨[], rfl, Segs.nil _ _ _, Nat.le_refl _, Nat.zero_le _, fun N _ s hs => by cases hs⟩
  · simp [Value.cells] at hcs
    obtain ⟨rfl, rfl, rfl⟩ := hcs
    have hmc : m = cap := by simpa using hmm
    have hC : Tryz.prog.cellsOf 112 = 2 := by kernel_rfl
    have one : ∀ i, i < len → ∃ s : Sg, w.cell? (x.add (i * 2)) = some (.int .i64 s.kind) ∧ w.cell? (x.add (i * 2 + 1)) = some (.slice s.adr s.nums.length s.cap) ∧ Sg.Ok w w.heap.size s ∧ ∀ N, (∀ u ∈ (D i).weights Tryz.prog 112, u ≤ N) → s.nums.length * 4 ≤ N := by
      intro i hi2
      obtain ⟨cs', hc, ht'⟩ := hi i (by omega)
      rw [hC] at hc
      obtain ⟨_, hcl, hat⟩ := World.cells?_some hc
      obtain ⟨s, rfl, hok, hwt⟩ := seg_in_w ht' hcl
      have h0 := hat 0 (by omega)
      have h1 := hat 1 (by omega)
      rw [Go.Deep.add_add] at h0 h1
      exact ⟨s, by simpa using h0, by simpa using h1, hok, hwt⟩
    have all : ∀ k, k ≤ len → ∃ L : List Sg, L.length = k ∧ ∀ (j : Nat) (s : Sg), L[j]? = some s → w.cell? (x.add (j * 2)) = some (.int .i64 s.kind) ∧ w.cell? (x.add (j * 2 + 1)) = some (.slice s.adr s.nums.length s.cap) ∧ Sg.Ok w w.heap.size s ∧ ∀ N, (∀ u ∈ (D j).weights Tryz.prog 112, u ≤ N) → s.nums.length * 4 ≤ N := by
      intro k
      induction k with
      | zero => exact fun _ => ⟨[], rfl, fun j s h => by simp at h⟩
      | succ k ih =>
        intro hk
        obtain ⟨L, hL, hall⟩ := ih (by omega)
        obtain ⟨s, hs⟩ := one k (by omega)
        refine ⟨L ++ [s], by simp [hL], fun j t hj => ?_⟩
        by_cases hjk : j < L.length
        · rw [List.getElem?_append_left hjk] at hj
          exact hall j t hj
        · rw [List.getElem?_append_right (by omega)] at hj
          by_cases h0 : j - L.length = 0
          · rw [h0] at hj
            obtain rfl : s = t := by simpa using hj
            obtain rfl : j = k := by omega
            exact hs
          · obtain ⟨q, hq⟩ := Nat.exists_eq_succ_of_ne_zero h0
            rw [hq] at hj
            simp at hj
    obtain ⟨L, hL, hall⟩ := all len (Nat.le_refl _)
    refine ⟨L, hL, fun hne => ?_, hl, hm, fun N hN s hs => ?_⟩
    rotate_left
    · obtain ⟨j, hj, hj2⟩ := List.mem_iff_getElem.1 hs
      refine (hall j s (by rw [List.getElem?_eq_getElem hj, hj2])).2.2.2 N (fun u hu => hN u ?_)
      have hd : d = .slice ((List.range len).map D) ((List.range (m - len)).map fun j => D (len + j)) := by
        have := congrArg Prod.fst hx
        simpa using this
      rw [hd]
      simp only [DataW.weights, Tryz.underlying23]
      refine List.mem_cons_of_mem _ (List.mem_append_left _ (weightsAll_mem (d := D j) ?_ u hu))
      exact List.mem_map.2 ⟨j, List.mem_range.2 (by omega), rfl⟩
    obtain ⟨s0, hs0⟩ : ∃ s, L[0]? = some s := by
      cases L with
      | nil => exact absurd rfl hne
      | cons s L => exact ⟨s, rfl⟩
    obtain ⟨b, off, spot⟩ := x
    have h0 := (hall 0 s0 hs0).1
    have hspot : spot = none := by simpa [Addr.add] using World.cell?_spot h0
    subst hspot
    refine ⟨b, off, rfl, World.block_lt_of_cell? w _ h0, fun j s hj => ?_⟩
    obtain ⟨h1, h2, h3, _⟩ := hall j s hj
    rw [Addr.add_lit] at h1 h2
    exact ⟨h1, h2, h3⟩
end
/-- A path that is short enough holds no more numbers than its longest segment could. -/
theorem few_tot : ∀ (L : List Sg), fewN L ≤ 300 → totN L = fewN L ∨ (fewN L = 300 ∧ ∃ s ∈ L, totN L = s.nums.length) := by
  intro L
  induction L with
  | nil => intro _; exact .inl rfl
  | cons s r ih =>
    intro h
    have e1 : fewN (s :: r) = min s.nums.length 300 + fewN r := by simp [fewN]
    have e2 : totN (s :: r) = s.nums.length + totN r := by simp [totN]
    rw [e1] at h
    rcases ih (by omega) with h1 | ⟨h1, t, ht, h2⟩
    · by_cases hs : s.nums.length ≤ 300
      · left; omega
      · right
        exact ⟨by omega, s, by simp, by omega⟩
    · right
      exact ⟨by omega, t, by simp [ht], by omega⟩
theorem few_tot_le {L : List Sg} (hf : fewB L = true) (h : ∀ s ∈ L, s.nums.length * 4 ≤ 140737488351232) : totN L ≤ 35184372088832 := by
  have h1 : L.length ≤ 12 ∧ fewN L ≤ 300 := of_decide_eq_true hf
  rcases few_tot L h1.2 with h2 | ⟨_, s, hs, h2⟩
  · omega
  · have := h s hs
    omega

theorem cu15 : Tryz.prog.cellsOf 24 = 1 := by kernel_rfl
theorem cb15 : Tryz.prog.cellsOf 4 = 1 := by kernel_rfl
theorem cp15 : Tryz.prog.cellsOf 23 = 1 := by kernel_rfl
theorem cr15 : Tryz.prog.cellsOf 26 = 1 := by kernel_rfl
theorem ca15 : Tryz.prog.cellsOf 28 = 11 := by kernel_rfl
theorem eleven_list {α : Type} {l : List α} (h : l.length = 11) : ∃ a b c d e f g i j k m, l = [a, b, c, d, e, f, g, i, j, k, m] := by
  match l, h with
  | [a, b, c, d, e, f, g, i, j, k, m], _ => exact ⟨a, b, c, d, e, f, g, i, j, k, m, rfl⟩
section
variable {H : Type} {enc : TypeId × Value → H} {w : World}
/-- Any slice: its header. -/
theorem hdr_in {t e : TypeId} {n : Nat} {c : Value} {y : DataW H × List MemPlace} (ht : Tryz.prog.underlying t = some (.slice e)) (h : DataW.trod enc Tryz.prog w 0 (fun _ => true) true n t [c] = some y) : ∃ A l k, c = .slice A l k := by
  rcases Go.Deep.open_slice ht h with ⟨hcs, _⟩ | ⟨x, l, k, m, n, D, Pl, hcs, _⟩
  · exact ⟨none, 0, 0, by simpa using hcs⟩
  · exact ⟨some x, l, k, by simpa using hcs⟩
/-- How much one candidate's path may hold. -/
def Wt (N : Nat) (L : List Sg) : Prop := ∀ s ∈ L, s.nums.length * 4 ≤ N
/-- What one raw attribute is that came in. -/
def RwArg (s : Rw) : Prop := s.data.length ≤ s.cap ∧ s.cap ≤ maxLen ∧ (-9223372036854775808 ≤ s.flags ∧ s.flags ≤ 9223372036854775807) ∧ (-9223372036854775808 ≤ s.ty ∧ s.ty ≤ 9223372036854775807)
theorem cby : Tryz.prog.cellsOf 33 = 1 := by kernel_rfl
theorem three_list {α : Type} {l : List α} (h : l.length = 3) : ∃ a b c, l = [a, b, c] := by
  match l, h with
  | [a, b, c], _ => exact ⟨a, b, c, rfl⟩
theorem raw_in {n : Nat} {cs : List Value} {y : DataW H × List MemPlace} (h : DataW.trod enc Tryz.prog w 0 (fun _ => true) true n 77 cs = some y) (hl : cs.length = 3) :
    ∃ s : Rw, cs = [.int .i64 s.flags, .int .i64 s.ty, .slice s.adr s.data.length s.cap] ∧ At w w.heap.size s.adr s.data ∧ RwArg s := by
  obtain ⟨xs, m, _, hx, _, hlen, hg⟩ := DataW.trod_struct Tryz.underlying77 h
  obtain ⟨y0, y1, y2, rfl⟩ := three_list hlen
  obtain ⟨c0, c1, c2, rfl⟩ := three_list hl
  have g0 := hg 0 _ rfl
  have g1 := hg 1 _ rfl
  have g2 := hg 2 _ rfl
  obtain ⟨k0, e0, _, w0⟩ := DataW.trod_int Tryz.underlying3 g0
  obtain rfl : c0 = .int .i64 k0 := by simpa [ci] using e0
  obtain ⟨k1, e1, _, w1⟩ := DataW.trod_int Tryz.underlying3 g1
  obtain rfl : c1 = .int .i64 k1 := by simpa [ci] using e1
  have q2 : DataW.trod enc Tryz.prog w 0 (fun _ => true) true m 33 ((List.drop 2 [.int .i64 k0, .int .i64 k1, c2]).take (Tryz.prog.cellsOf 33)) = some y2 := g2
  rw [cby] at q2
  have f2 : DataW.trod enc Tryz.prog w 0 (fun _ => true) true m 33 [c2] = some y2 := q2
  rcases open_ints Tryz.underlying33 Tryz.underlying5 (by kernel_rfl) f2 with ⟨e2, _⟩ | ⟨a, len, cap, zs, e2, _, hl9, hm, hz, _, hcell, hwz⟩
  · obtain rfl : c2 = .slice none 0 0 := by simpa using e2
    exact ⟨⟨k0, k1, none, 0, []⟩, rfl, At.nil _ _ _, Nat.le_refl _, Nat.zero_le _, bounds_i64 w0, bounds_i64 w1⟩
  · obtain rfl : c2 = .slice (some a) len cap := by simpa using e2
    obtain ⟨z, hz1, hz2⟩ := bytes_in hl9 (cap := cap) (by simpa using hz) hcell hwz
    subst hz1
    exact ⟨⟨k0, k1, some a, cap, z⟩, rfl, hz2, hl9, hm, bounds_i64 w0, bounds_i64 w1⟩
/-- A row of raw attributes that came in. -/
theorem raws_in {fuel : Nat} {v : Value} {x : DataW H × List MemPlace} (h : DataW.trod enc Tryz.prog w 0 (fun _ => true) true fuel 26 [v] = some x) :
    ∃ (L : List Rw) (A : Option Addr) (c : Nat), v = .slice A L.length c ∧ RwIn w w.heap.size A L ∧ L.length ≤ c ∧ c ≤ maxLen ∧ ∀ s ∈ L, RwArg s := by
  rcases Go.Deep.open_slice Tryz.underlying26 h with ⟨hcs, _⟩ | ⟨x, len, cap, m, n, D, Pl, hcs, _, hl, hm, hmm, hx, hi⟩
  · obtain rfl : v = .slice none 0 0 := by simpa using hcs
    exact ⟨[], none, 0, rfl, RwIn.nil _ _ _, Nat.le_refl _, Nat.zero_le _, fun s hs => by cases hs⟩
  · obtain rfl : v = .slice (some x) len cap := by simpa using hcs
    have hmc : m = cap := by simpa using hmm
    have hC : Tryz.prog.cellsOf 77 = 3 := by kernel_rfl
    have one : ∀ i, i < len → ∃ s : Rw, w.cell? (x.add (i * 3)) = some (.int .i64 s.flags) ∧ w.cell? (x.add (i * 3 + 1)) = some (.int .i64 s.ty) ∧ w.cell? (x.add (i * 3 + 2)) = some (.slice s.adr s.data.length s.cap) ∧ At w w.heap.size s.adr s.data ∧ RwArg s := by
      intro i hi2
      obtain ⟨cs', hc, ht'⟩ := hi i (by omega)
      rw [hC] at hc
      obtain ⟨_, hcl, hat⟩ := World.cells?_some hc
      obtain ⟨s, rfl, hok, hra⟩ := raw_in ht' hcl
      have h0 := hat 0 (by omega)
      have h1 := hat 1 (by omega)
      have h2 := hat 2 (by omega)
      rw [Go.Deep.add_add] at h0 h1 h2
      exact ⟨s, by simpa using h0, by simpa using h1, by simpa using h2, hok, hra⟩
    have all : ∀ k, k ≤ len → ∃ L : List Rw, L.length = k ∧ ∀ (j : Nat) (s : Rw), L[j]? = some s → w.cell? (x.add (j * 3)) = some (.int .i64 s.flags) ∧ w.cell? (x.add (j * 3 + 1)) = some (.int .i64 s.ty) ∧ w.cell? (x.add (j * 3 + 2)) = some (.slice s.adr s.data.length s.cap) ∧ At w w.heap.size s.adr s.data ∧ RwArg s := by
      intro k
      induction k with
      | zero => exact fun _ => ⟨[], rfl, fun j s h => by simp at h⟩
      | succ k ih =>
        intro hk
        obtain ⟨L, hL, hall⟩ := ih (by omega)
        obtain ⟨s, hs⟩ := one k (by omega)
        refine ⟨L ++ [s], by simp [hL], fun j t hj => ?_⟩
        by_cases hjk : j < L.length
        · rw [List.getElem?_append_left hjk] at hj
          exact hall j t hj
        · rw [List.getElem?_append_right (by omega)] at hj
          by_cases h0 : j - L.length = 0
          · rw [h0] at hj
            obtain rfl : s = t := by simpa using hj
            obtain rfl : j = k := by omega
            exact hs
          · obtain ⟨q, hq⟩ := Nat.exists_eq_succ_of_ne_zero h0
            rw [hq] at hj
            simp at hj
    obtain ⟨L, hL, hall⟩ := all len (Nat.le_refl _)
    subst hL
    refine ⟨L, _, _, rfl, fun hne => ?_, hl, hm, fun s hs => ?_⟩
    · obtain ⟨s0, hs0⟩ : ∃ s, L[0]? = some s := by
        cases L with
        | nil => exact absurd rfl hne
        | cons s L => exact ⟨s, rfl⟩
      obtain ⟨b, off, spot⟩ := x
      have h0 := (hall 0 s0 hs0).1
      have hspot : spot = none := by simpa [Addr.add] using World.cell?_spot h0
      subst hspot
      refine ⟨b, off, rfl, World.block_lt_of_cell? w _ h0, fun j s hj => ?_⟩
      obtain ⟨h1, h2, h3, h4, h5⟩ := hall j s hj
      rw [Addr.add_lit] at h1 h2 h3
      exact ⟨h1, by rw [Nat.add_assoc]; exact h2, by rw [Nat.add_assoc]; exact h3, h4⟩
    · obtain ⟨j, hj⟩ := List.getElem?_of_mem hs
      exact (hall j s hj).2.2.2.2
/-- Numbers of four bytes that came in. -/
theorem comms_in {fuel : Nat} {v : Value} {x : DataW H × List MemPlace} (h : DataW.trod enc Tryz.prog w 0 (fun _ => true) true fuel 25 [v] = some x) :
    ∃ (Z : List Nat) (A : Option Addr) (c : Nat), v = .slice A Z.length c ∧ At32 w w.heap.size A Z ∧ Z.length ≤ c ∧ c ≤ maxLen ∧ ∀ y ∈ Z, y < 4294967296 := by
  rcases open_ints Tryz.underlying25 Tryz.underlying24 (by kernel_rfl) h with ⟨e1, _⟩ | ⟨a, len, cap, zs, e1, _, hl9, hm, hz, hy1, hcell, hwz⟩
  · obtain rfl : v = .slice none 0 0 := by simpa using e1
    exact ⟨[], none, 0, rfl, At32.nil _ _ _, Nat.le_refl _, Nat.zero_le _, fun y hy => by cases hy⟩
  · obtain rfl : v = .slice (some a) len cap := by simpa using e1
    obtain ⟨z, hz1, hz2, hz3⟩ := u32_in hl9 (cap := cap) (by simpa using hz) hcell hwz
    subst hz1
    exact ⟨z, some a, cap, rfl, hz2, hl9, hm, hz3⟩
theorem segs_fit {B : Nat} {A : Option Addr} {L : List Sg} (h : Segs w B A L) : ∀ s ∈ L, s.Fit := by
  intro s hs
  obtain ⟨j, hj⟩ := List.getElem?_of_mem hs
  obtain ⟨_, _, _, _, _, _, hok⟩ := h.at hj
  exact ⟨hok.2.2.2.1, hok.2.2.2.2⟩
/-- What attributes are that came in. -/
structure AvArg (w : World) (a : Av) : Prop where
  inn : a.In w w.heap.size
  comms : ∀ x ∈ a.comms, x < 4294967296
  fit : ∀ s ∈ a.path, s.Fit
  raws : ∀ s ∈ a.raws, RwArg s
  next : 0 ≤ a.next ∧ a.next < 4294967296
  aas : 0 ≤ a.aas ∧ a.aas < 4294967296
  aad : 0 ≤ a.aad ∧ a.aad < 4294967296
  org : -9223372036854775808 ≤ a.org ∧ a.org ≤ 9223372036854775807
  med : -9223372036854775808 ≤ a.med ∧ a.med ≤ 9223372036854775807
  pref : -9223372036854775808 ≤ a.pref ∧ a.pref ≤ 9223372036854775807
/-- Attributes that came in. -/
theorem attrs_in {n : Nat} {cs : List Value} {y : DataW H × List MemPlace} (h : DataW.trod enc Tryz.prog w 0 (fun _ => true) true n 28 cs = some y) (hl : cs.length = 11) :
    ∃ (org : Int) (pa : Option Addr) (pc : Nat) (L : List Sg) (next med pref : Int) (atomic has : Bool) (aas aad : Int) (ca : Option Addr) (cc : Nat) (Z : List Nat) (ra : Option Addr) (rc : Nat) (R : List Rw),
      cs = [.int .i64 org, .slice pa L.length pc, .int .u32 next, .int .i64 med, .int .i64 pref, .bool atomic, .bool has, .int .u32 aas, .int .u32 aad, .slice ca Z.length cc, .slice ra R.length rc] ∧ Av.In w w.heap.size ⟨org, pa, pc, L, next, med, pref, atomic, has, aas, aad, ca, cc, Z, ra, rc, R⟩ ∧ (∀ x ∈ Z, x < 4294967296) ∧ (∀ s ∈ L, s.Fit) ∧ (∀ s ∈ R, RwArg s) ∧ (0 ≤ next ∧ next < 4294967296) ∧ (0 ≤ aas ∧ aas < 4294967296) ∧ (0 ≤ aad ∧ aad < 4294967296) ∧
      (-9223372036854775808 ≤ org ∧ org ≤ 9223372036854775807) ∧ (-9223372036854775808 ≤ med ∧ med ≤ 9223372036854775807) ∧ (-9223372036854775808 ≤ pref ∧ pref ≤ 9223372036854775807) ∧
      ∀ N, (∀ u ∈ y.1.weights Tryz.prog 28, u ≤ N) → Wt N L := by
  obtain ⟨xs, m, _, hx, _, hlen, hg⟩ := DataW.trod_struct Tryz.underlying28 h
  obtain ⟨y0, y1, y2, y3, y4, y5, y6, y7, y8, y9, y10, rfl⟩ := eleven_list hlen
  obtain ⟨c0, c1, c2, c3, c4, c5, c6, c7, c8, c9, c10, rfl⟩ := eleven_list hl
  have g0 := hg 0 _ rfl
  have g1 := hg 1 _ rfl
  have g2 := hg 2 _ rfl
  have g3 := hg 3 _ rfl
  have g4 := hg 4 _ rfl
  have g5 := hg 5 _ rfl
  have g6 := hg 6 _ rfl
  have g7 := hg 7 _ rfl
  have g8 := hg 8 _ rfl
  have g9 := hg 9 _ rfl
  have g10 := hg 10 _ rfl
  have q1 : DataW.trod enc Tryz.prog w 0 (fun _ => true) true m 23 ((List.drop 1 [c0, c1, c2, c3, c4, c5, c6, c7, c8, c9, c10]).take (Tryz.prog.cellsOf 23)) = some y1 := g1
  rw [cp15] at q1
  have f1 : DataW.trod enc Tryz.prog w 0 (fun _ => true) true m 23 [c1] = some y1 := q1
  have q9 : DataW.trod enc Tryz.prog w 0 (fun _ => true) true m 25 ((List.drop 9 [c0, c1, c2, c3, c4, c5, c6, c7, c8, c9, c10]).take (Tryz.prog.cellsOf 25)) = some y9 := g9
  rw [cs1] at q9
  have f9 : DataW.trod enc Tryz.prog w 0 (fun _ => true) true m 25 [c9] = some y9 := q9
  have q10 : DataW.trod enc Tryz.prog w 0 (fun _ => true) true m 26 ((List.drop 10 [c0, c1, c2, c3, c4, c5, c6, c7, c8, c9, c10]).take (Tryz.prog.cellsOf 26)) = some y10 := g10
  rw [cr15] at q10
  have f10 : DataW.trod enc Tryz.prog w 0 (fun _ => true) true m 26 [c10] = some y10 := q10
  obtain ⟨k0, e0, _, w0⟩ := DataW.trod_int Tryz.underlying3 g0
  obtain rfl : c0 = .int .i64 k0 := by simpa [ci] using e0
  obtain ⟨k2, e2, _, w2⟩ := DataW.trod_int Tryz.underlying24 g2
  obtain rfl : c2 = .int .u32 k2 := by simpa [cu15] using e2
  obtain ⟨k3, e3, _, w3⟩ := DataW.trod_int Tryz.underlying3 g3
  obtain rfl : c3 = .int .i64 k3 := by simpa [ci] using e3
  obtain ⟨k4, e4, _, w4⟩ := DataW.trod_int Tryz.underlying3 g4
  obtain rfl : c4 = .int .i64 k4 := by simpa [ci] using e4
  obtain ⟨k5, e5, _⟩ := DataW.trod_bool Tryz.underlying4 g5
  obtain rfl : c5 = .bool k5 := by simpa [cb15] using e5
  obtain ⟨k6, e6, _⟩ := DataW.trod_bool Tryz.underlying4 g6
  obtain rfl : c6 = .bool k6 := by simpa [cb15] using e6
  obtain ⟨k7, e7, _, w7⟩ := DataW.trod_int Tryz.underlying24 g7
  obtain rfl : c7 = .int .u32 k7 := by simpa [cu15] using e7
  obtain ⟨k8, e8, _, w8⟩ := DataW.trod_int Tryz.underlying24 g8
  obtain rfl : c8 = .int .u32 k8 := by simpa [cu15] using e8
  obtain ⟨Z, A9, n9, rfl, z1, z2, z3, z4⟩ := comms_in f9
  obtain ⟨R, A10, n10, rfl, r1, r2, r3, r4⟩ := raws_in f10
  obtain ⟨A1, l1, n1, rfl⟩ := hdr_in Tryz.underlying23 f1
  obtain ⟨L, hL, hs, h1, h2, hw⟩ := segs_in_w (p := y1.2) (d := y1.1) ⟨m, f1⟩
  subst hL
  have b2 := bounds_u32 w2; have b7 := bounds_u32 w7; have b8 := bounds_u32 w8
  refine ⟨k0, A1, n1, L, k2, k3, k4, k5, k6, k7, k8, A9, n9, Z, A10, n10, R, rfl, ⟨hs, ⟨h1, h2⟩, z1, ⟨z2, z3⟩, r1, ⟨r2, r3⟩, fun s hs => ⟨(r4 s hs).1, (r4 s hs).2.1⟩⟩, z4, segs_fit hs, fun s hs => (r4 s hs), by omega, by omega, by omega, bounds_i64 w0, bounds_i64 w3, bounds_i64 w4, fun N hN => hw N fun u hu => hN u ?_⟩
  rw [hx]
  simp only [DataW.weights, Tryz.underlying28, DataW.weightsEach, List.map_cons, List.map_nil, List.mem_append]
  exact .inr (.inl hu)
set_option maxRecDepth 100000 in
/-- Attributes that came in as they are. -/
theorem attrs_arg {b0 : Nat} {v : Value} {d : DataW H} {p : List MemPlace} (hv : Value.okWide Tryz.prog w .any b0 28 v) (h : DataW.Trod enc Tryz.prog w 0 (fun _ => true) true 28 v d p) :
    ∃ a : Av, v = .agg a.row.toArray ∧ AvArg w a ∧ ∀ N, (∀ u ∈ d.weights Tryz.prog 28, u ≤ N) → Wt N a.path := by
  obtain ⟨cs, rfl, hsz⟩ := okWide_struct Tryz.underlying28 hv
  obtain ⟨fuel, hf⟩ := h
  obtain ⟨org, pa, pc, L, next, med, pref, atomic, has, aas, aad, ca, cc, Z, ra, rc, R, hcs, h1, h2, h3, h4, h5, h6, h7, b1, b2, b3, hw⟩ := attrs_in (y := (d, p)) hf (by show cs.toList.length = 11; rw [Array.length_toList, hsz, ca15])
  refine ⟨⟨org, pa, pc, L, next, med, pref, atomic, has, aas, aad, ca, cc, Z, ra, rc, R⟩, ?_, ⟨h1, h2, h3, h4, h5, h6, h7, b1, b2, b3⟩, hw⟩
  have e : cs = cs.toList.toArray := by simp
  rw [e]
  exact congrArg (fun l => Value.agg (List.toArray l)) hcs
end
end Go.Proofs.YtnaangnmlbgmkaaGreatDoor

/-
  A row of prefixes, that comes in as a statement's argument.
-/
namespace Go.Proofs.YtnaangnmlbgmkaaGreatDoor
open Go.ChangeShapes Go.WideShapes Go.ChangeAt Go.RowKit
set_option linter.unusedVariables false
set_option linter.unusedSimpArgs false

theorem two_list5 {α : Type} {l : List α} (h : l.length = 2) : ∃ a b, l = [a, b] := by
  match l, h with
  | [a, b], _ => exact ⟨a, b, rfl⟩
theorem cp5 : Tryz.prog.cellsOf 54 = 2 := by kernel_rfl
section
variable {H : Type} {enc : TypeId × Value → H} {w : World}
/-- A prefix's cells. -/
theorem pfx_cells5 {n : Nat} {cs : List Value} {y : DataW H × List MemPlace} (h : DataW.trod enc Tryz.prog w 0 (fun _ => true) true n 54 cs = some y) (hl : cs.length = 2) :
    ∃ (a : Nat) (k : Int), cs = [.int .u32 (a : Int), .int .i64 k] ∧ PxFit (a, k) := by
  obtain ⟨c0, c1, rfl⟩ := two_list5 hl
  obtain ⟨xs, m, _, hx, _, hlen, hg⟩ := DataW.trod_struct Tryz.underlying54 h
  obtain ⟨y0, y1, rfl⟩ := two_list5 hlen
  have k0 := hg 0 _ rfl
  have k1 := hg 1 _ rfl
  obtain ⟨u0, e0, _, w0⟩ := DataW.trod_int Tryz.underlying24 k0
  obtain ⟨u1, e1, _, w1⟩ := DataW.trod_int Tryz.underlying3 k1
  obtain rfl : c0 = .int .u32 u0 := by simpa [cu15] using e0
  obtain rfl : c1 = .int .i64 u1 := by simpa [cu15, ci] using e1
  have b0 := bounds_u32 w0
  obtain ⟨a, rfl⟩ := Int.eq_ofNat_of_zero_le b0.1
  exact ⟨a, u1, rfl, by show a < 4294967296; omega, bounds_i64 w1⟩
/-- A row of prefixes that came in. -/
theorem pfxs_in {a : Option Addr} {len cap : Nat} {d : DataW H} {p : List MemPlace} (h : DataW.Trod enc Tryz.prog w 0 (fun _ => true) true 22 (.slice a len cap) d p) :
    ∃ L : List Px, L.length = len ∧ PxsIn w w.heap.size a L ∧ len ≤ cap ∧ cap ≤ maxLen ∧ ∀ s ∈ L, PxFit s := by
  obtain ⟨fuel, hf⟩ := h
  rcases Go.Deep.open_slice Tryz.underlying22 hf with ⟨hcs, _⟩ | ⟨x, l, c, m, n, D, Pl, hcs, _, hl, hm, hmm, hx, hi⟩
  · simp [Value.cells] at hcs
    obtain ⟨rfl, rfl, rfl⟩ := hcs
    exact ⟨[], rfl, PxsIn.nil _ _ _, Nat.le_refl _, Nat.zero_le _, fun s hs => by cases hs⟩
  · simp [Value.cells] at hcs
    obtain ⟨rfl, rfl, rfl⟩ := hcs
    have hmc : m = cap := by simpa using hmm
    have one : ∀ i, i < len → ∃ s : Px, (w.cell? (x.add (i * 2)) = some (.int .u32 (s.1 : Int)) ∧ w.cell? (x.add (i * 2 + 1)) = some (.int .i64 s.2)) ∧ PxFit s := by
      intro i hi2
      obtain ⟨cs', hc, ht'⟩ := hi i (by omega)
      rw [cp5] at hc
      obtain ⟨_, hcl, hat⟩ := World.cells?_some hc
      obtain ⟨a, k, rfl, h1⟩ := pfx_cells5 ht' hcl
      have g0 := hat 0 (by omega)
      have g1 := hat 1 (by omega)
      rw [Go.Deep.add_add] at g0 g1
      exact ⟨(a, k), ⟨by simpa using g0, by simpa using g1⟩, h1⟩
    have all : ∀ k, k ≤ len → ∃ L : List Px, L.length = k ∧ ∀ (j : Nat) s, L[j]? = some s → (w.cell? (x.add (j * 2)) = some (.int .u32 (s.1 : Int)) ∧ w.cell? (x.add (j * 2 + 1)) = some (.int .i64 s.2)) ∧ PxFit s := by
      intro k
      induction k with
      | zero => exact fun _ => ⟨[], rfl, fun j s h => by simp at h⟩
      | succ k ih =>
        intro hk
        obtain ⟨L, hL, hall⟩ := ih (by omega)
        obtain ⟨s, hs⟩ := one k (by omega)
        refine ⟨L ++ [s], by simp [hL], fun j t hj => ?_⟩
        by_cases hjk : j < L.length
        · rw [List.getElem?_append_left hjk] at hj
          exact hall j t hj
        · rw [List.getElem?_append_right (by omega)] at hj
          by_cases h0 : j - L.length = 0
          · rw [h0] at hj
            obtain rfl : s = t := by simpa using hj
            obtain rfl : j = k := by omega
            exact hs
          · obtain ⟨q, hq⟩ := Nat.exists_eq_succ_of_ne_zero h0
            rw [hq] at hj
            simp at hj
    obtain ⟨L, hL, hall⟩ := all len (Nat.le_refl _)
    refine ⟨L, hL, fun hne => ?_, hl, hm, fun s hs => ?_⟩
    · obtain ⟨s0, hs0⟩ : ∃ s, L[0]? = some s := by
        cases L with
        | nil => exact absurd rfl hne
        | cons s L => exact ⟨s, rfl⟩
      obtain ⟨b, off, spot⟩ := x
      have h0 := (hall 0 s0 hs0).1.1
      have hspot : spot = none := by simpa [Addr.add] using World.cell?_spot h0
      subst hspot
      refine ⟨b, off, rfl, World.block_lt_of_cell? w _ h0, fun j s hj => ?_⟩
      obtain ⟨⟨h1, h2⟩, h5⟩ := hall j s hj
      rw [Addr.add_lit] at h1 h2
      exact ⟨h1, by rw [Nat.add_assoc]; exact h2⟩
    · obtain ⟨j, hj⟩ := List.getElem?_of_mem hs
      exact (hall j s hj).2
end
end Go.Proofs.YtnaangnmlbgmkaaGreatDoor

/-
  Attributes as values that are carried along whole: the walk's laws on loading and boxing them.
-/
namespace Go.Proofs.YtnaangnmlbgmkaaGreatDoor
set_option linter.unusedVariables false
set_option linter.unusedSimpArgs false
open Go.RowKit

def Av.agg (a : Av) : Value := .agg a.row.toArray
/-- Attributes lie here. -/
def AvAt (w : World) (g off : Nat) (c : Av) : Prop := ∀ i u, c.row[i]? = some u → w.cell? ⟨g, off + i, none⟩ = some u
theorem AvAt.below {w w' : World} {B g off : Nat} {c : Av} (h : AvAt w g off c) (hb : Below B w w') (hg : g < B) : AvAt w' g off c := fun i u hu => (hb.cell (p := ⟨g, off + i, none⟩) hg).trans (h i u hu)
theorem AvAt.drewN {w : World} {g off : Nat} {c : Av} (h : AvAt w g off c) (n : Nat) : AvAt (w.drewN n) g off c := h
theorem av_blk {w : World} {g T : Nat} {c : Av} (h : Blk w g T c.row) : AvAt w g 0 c := fun i u hu => by rw [h.cell, Nat.zero_add]; exact hu
theorem isAggA (w : World) : (isAgg 28).run Tryz.prog w = .ok true w := by kernel_rfl
theorem sizeA (w : World) : (sizeOf 28).run Tryz.prog w = .ok 11 w := by kernel_rfl
theorem run_loadA {w : World} {g off : Nat} {c : Av} (h : AvAt w g off c) : (Instr.loadAt 28 (.pointer (some ⟨g, off, none⟩))).run Tryz.prog w = .ok c.agg w := by
  have hr : c.row.length = 11 := rfl
  have hc := run_loadCells (P := Tryz.prog) w ⟨g, off, none⟩ 11 (fun j => c.row.getD j undef) (fun j hj => by
    rw [Addr.add_lit]
    exact h j _ (by rw [List.getElem?_eq_getElem (by omega)]; simp [List.getD, hr, hj]))
  have e : ((List.range 11).map fun j => c.row.getD j undef).toArray = c.row.toArray := rfl
  rw [e] at hc
  simp [Instr.loadAt, Instr.sureAddr, loadVar, Sem.run_bind, isAggA, sizeA, hc, Result.andThen, Av.agg]
theorem run_boxA (w : World) (c : Av) : (Instr.box 28 c.agg).run Tryz.prog w = .ok (.pointer (some ⟨w.heap.size, 0, none⟩)) (w.alloc (.cells c.row.toArray 28)) := by kernel_rfl
section
variable {ops : Array Oper} {rest : List Oper} {o : Oper} {a : Act} {Q : Exit → Act → World → Prop}
theorem wpList_loadA (w : World) (hg : o.guard = none) (p : Operand) (hop : o.op = Op.load 28 p) (g off : Nat) (c : Av) (hp : a.eval p = .pointer (some ⟨g, off, none⟩)) (h : AvAt w g off c)
    (hK : wpList Tryz.prog ops Q rest (a.put o.dst c.agg) w) : wpList Tryz.prog ops Q (o :: rest) a w := by
  refine wpList_plain hg fun K' hK' => ?_
  unfold Oper.wp
  simp [execOp, hop, hp, run_loadA h, Result.andThen]
  exact hK' _ _ hK
theorem wpList_loadG (w : World) (hw : Region.wanted o (yielded ops a.tmps) = true) (p : Operand) (hop : o.op = Op.load 28 p) (g off : Nat) (c : Av) (hp : a.eval p = .pointer (some ⟨g, off, none⟩)) (h : AvAt w g off c)
    (hK : wpList Tryz.prog ops Q rest (a.put o.dst c.agg) w) : wpList Tryz.prog ops Q (o :: rest) a w := by
  refine wpList_step fun K' hK' => ?_
  rw [if_pos hw]
  unfold Oper.wp
  simp [execOp, hop, hp, run_loadA h, Result.andThen]
  exact hK' _ _ hK
theorem wpList_boxA (w : World) (hg : o.guard = none) (x : Operand) (hop : o.op = Op.box 28 x) (c : Av) (hx : a.eval x = c.agg)
    (hK : wpList Tryz.prog ops Q rest (a.put o.dst (.pointer (some ⟨w.heap.size, 0, none⟩))) (w.alloc (.cells c.row.toArray 28))) : wpList Tryz.prog ops Q (o :: rest) a w := by
  refine wpList_plain hg fun K' hK' => ?_
  unfold Oper.wp
  simp [execOp, hop, hx, run_boxA, Result.andThen]
  exact hK' _ _ hK
end
theorem load_execA {w : World} {g off : Nat} {c : Av} {a : Act} {o : Oper} (p : Operand) (hop : o.op = Op.load 28 p) (hp : a.eval p = .pointer (some ⟨g, off, none⟩)) (h : AvAt w g off c) : (execOp a.eval o).run Tryz.prog w = .ok (.value c.agg) w := by
  simp [execOp, hop, hp, run_loadA h, Result.andThen]
end Go.Proofs.YtnaangnmlbgmkaaGreatDoor

/-
  A system's number, an aggregator, as bytes.
-/
namespace Go.Proofs.YtnaangnmlbgmkaaGreatDoor
set_option linter.unusedVariables false
set_option linter.unusedSimpArgs false
open Go.RowKit

theorem Blk.alloc' {w : World} {g t : Nat} {cs : List Value} (h : Blk w g t cs) (o : Obj) : Blk (w.alloc o) g t cs := h.below ((Below.refl w.heap.size w).alloc (Nat.le_refl _) o) h.lt
theorem below_undrew {B : Nat} {w w' : World} (h : Below B w.drew w') : Below B w w' := ⟨h.os, h.tape, h.output, h.size, h.block⟩
/-- Bytes that lie somewhere. -/
def RetSome (w : World) (d : List UInt8) (e : Ending) (w' : World) : Prop :=
  ∃ A c, e = .returned (.slice A d.length c) ∧ Bytes w' A d ∧ d.length ≤ c ∧ c ≤ maxLen ∧ Below w.heap.size w w'
theorem RetBytes.some {w w' : World} {d : List UInt8} {e : Ending} (h : RetBytes w d e w') : RetSome w d e w' := by
  obtain ⟨A, c, rfl, h1, h2, h3, h4⟩ := h
  exact ⟨A, c, rfl, h3.bytes, h1, h2, h4⟩
theorem numB_two (wide : Bool) (x : Nat) : 2 ≤ (numB wide x).length := by
  unfold numB
  split
  · simp [be32]
  · split <;> simp [be16]
set_option maxHeartbeats 3200000 in
theorem system_any (sa : Nat) (wide : Bool) (w : World) (ha : sa < 4294967296) :
    Calls Tryz.prog 119 #[.int .u32 (sa : Int), .bool wide] w (RetSome w (numB wide sa)) := by
  have hb1 := (Below.refl w.heap.size w).alloc (Nat.le_refl _) (.cells #[.int .u32 (sa : Int)] 24)
  have hb2 := hb1.alloc hb1.size (.cells #[.int .i64 2, .slice (some ⟨w.heap.size, 0, none⟩) 1 1] 112)
  have hseg : Segs ((w.alloc (.cells #[.int .u32 (sa : Int)] 24)).alloc (.cells #[.int .i64 2, .slice (some ⟨w.heap.size, 0, none⟩) 1 1] 112)) ((w.alloc (.cells #[.int .u32 (sa : Int)] 24)).alloc (.cells #[.int .i64 2, .slice (some ⟨w.heap.size, 0, none⟩) 1 1] 112)).heap.size (some ⟨w.heap.size + 1, 0, none⟩) [⟨2, some ⟨w.heap.size, 0, none⟩, 1, [sa]⟩] := by
    intro _
    have hk1 := Blk.new w 24 [.int .u32 (sa : Int)]
    have hk2 := Blk.new (w.alloc (.cells #[.int .u32 (sa : Int)] 24)) 112 [.int .i64 2, .slice (some ⟨w.heap.size, 0, none⟩) 1 1]
    have hz : (w.alloc (.cells #[.int .u32 (sa : Int)] 24)).heap.size = w.heap.size + 1 := by simp
    rw [hz] at hk2
    refine ⟨w.heap.size + 1, 0, rfl, by simp, fun j s hj => ?_⟩
    cases j with
    | succ j => simp at hj
    | zero =>
      simp at hj
      subst hj
      refine ⟨hk2.cell 0, hk2.cell 1, by simp, by unfold maxLen; simp, ?_, by simpa using ha, by simp⟩
      intro _
      refine ⟨w.heap.size, 0, rfl, by simp; omega, fun i hi => ?_⟩
      obtain rfl : i = 0 := by simpa using hi
      exact (hk1.alloc' _).cell 0
  have q := Put3_any (some ⟨w.heap.size + 1, 0, none⟩) 1 [⟨2, some ⟨w.heap.size, 0, none⟩, 1, [sa]⟩] wide _ hseg (by simp) (by simp [totN])
  have e : putB wide [⟨2, some ⟨w.heap.size, 0, none⟩, 1, [sa]⟩] = [2, 1] ++ numB wide sa := by
    unfold putB numsB headB
    simp
  rw [e] at q
  have Q := Lib.hid q; have HB := Lib.hid hb2; have H2 := Lib.hid (numB_two wide sa)
  clear q e hseg hb1 hb2
  obtain ⟨N, hN⟩ : ∃ N, N = numB wide sa := ⟨_, rfl⟩
  rw [← hN] at Q H2 ⊢
  clear hN
  go_enter Tryz.func119, Tryz.ntmps119
  go_wp2_with fail
  refine Q.out.mono ?_
  rintro e w3 ⟨A3, c3, rfl, f3, g3, ho3, hb3⟩
  have hy := ho3.bytes
  have hl : ([2, 1] ++ N : List UInt8).length = N.length + 2 := by simp
  have h2 := H2.out
  rw [hl] at f3 ⊢
  obtain ⟨b3, o3, rfl, _⟩ := id hy (by simp)
  have hd := Bytes.drop (k := 2) (c := c3) hy (by rw [hl]; omega)
  have hc2 : ¬ c3 = 2 := by omega
  rw [if_neg hc2] at hd
  have HD := Lib.hid (show Bytes w3 (some ⟨b3, o3 + 2, none⟩) N from by simpa [Addr.add_lit] using hd)
  have HB3 := Lib.hid (HB.out.trans (hb3.mono HB.out.size))
  have G3 := Lib.hid g3; have F3 := Lib.hid f3
  have hcI : (2 : Int) ≤ (c3 : Int) := by omega
  clear hy hd ho3 hb3 Q h2
  go_wp2_with fail
  go_ret
  exact ⟨some ⟨b3, o3 + 2, none⟩, c3 - 2, rfl, HD.out, by have := F3.out; omega, by have := G3.out; omega, HB3.out⟩

theorem cat_two (A4 A5 : Option Addr) (c4 c5 : Nat) (N M : List UInt8) (w5 : World) (h4 : Bytes w5 A4 N) (h5 : Bytes w5 A5 M) (hl : N.length + M.length ≤ 1000000) :
    Calls Tryz.prog 47 #[.slice (some ⟨w5.heap.size, 0, none⟩) 2 2] (w5.alloc (.cells #[.slice A4 N.length c4, .slice A5 M.length c5] 33)) fun e w' => ∃ A c, e = .returned (.slice A (N ++ M).length c) ∧ (N ++ M).length ≤ c ∧ c ≤ maxLen ∧ Own w' w5.heap.size 5 (.slice A (N ++ M).length c) (N ++ M) ∧ Below w5.heap.size w5 w' := by
  have hb2 := (Below.refl w5.heap.size w5).alloc (Nat.le_refl _) (.cells #[.slice A4 N.length c4, .slice A5 M.length c5] 33)
  have q := ConcatN_any w5.heap.size 2 2 [(A4, c4, N), (A5, c5, M)] (w5.alloc (.cells #[.slice A4 N.length c4, .slice A5 M.length c5] 33)) rfl
    (sls_of_blk (by simpa using Blk.new w5 33 [.slice A4 N.length c4, .slice A5 M.length c5]) (by
      intro x hx
      simp only [List.mem_cons, List.not_mem_nil, or_false] at hx
      rcases hx with rfl | rfl
      · exact h4.below hb2
      · exact h5.below hb2)) (by simp [joinB]; omega) (by simp)
  have hj : joinB [(A4, c4, N), (A5, c5, M)] = N ++ M := by simp [joinB]
  rw [hj] at q
  refine q.mono ?_
  rintro e w6 ⟨A6, c6, rfl, f1, f2, ho, hb⟩
  exact ⟨A6, c6, rfl, f1, f2, ho.lower hb2.size, hb2.trans (hb.mono hb2.size)⟩
/-- What an aggregator says. -/
def aggrB (wide : Bool) (sa ad : Nat) : List UInt8 := numB wide sa ++ be32 (ad : Int)
theorem aggrB_len (wide : Bool) (sa ad : Nat) : (aggrB wide sa ad).length ≤ 8 := by
  have := numB_len wide sa
  unfold aggrB
  simp [be32]
  omega
set_option maxHeartbeats 6400000 in
set_option maxRecDepth 100000 in
theorem aggregator_any (a : Av) (sa ad : Nat) (wide : Bool) (w : World) (hs : a.aas = (sa : Int)) (hd : a.aad = (ad : Int)) (h1 : sa < 4294967296) (h2 : ad < 4294967296) :
    Calls Tryz.prog 85 #[.agg a.row.toArray, .bool wide] w (RetBytes w (aggrB wide sa ad)) := by
  obtain ⟨org, pa, pc, path, next, med, pref, atomic, has, aas, aad, ca, cc, comms, ra, rc, raws⟩ := a
  dsimp only at hs hd
  subst hs hd
  unfold Av.row
  dsimp only
  have hb1 := (Below.refl w.heap.size w).alloc (Nat.le_refl _) (.cells #[.int .i64 org, .slice pa path.length pc, .int .u32 next, .int .i64 med, .int .i64 pref, .bool atomic, .bool has, .int .u32 (sa : Int), .int .u32 (ad : Int), .slice ca comms.length cc, .slice ra raws.length rc] 28)
  have hk := Blk.new w 28 [.int .i64 org, .slice pa path.length pc, .int .u32 next, .int .i64 med, .int .i64 pref, .bool atomic, .bool has, .int .u32 (sa : Int), .int .u32 (ad : Int), .slice ca comms.length cc, .slice ra raws.length rc]
  have c7 : World.cell? _ ⟨w.heap.size, 7, none⟩ = some (.int .u32 (sa : Int)) := hk.cell 7
  have c8 : World.cell? _ ⟨w.heap.size, 8, none⟩ = some (.int .u32 (ad : Int)) := hk.cell 8
  have HK := Lib.hid hk; have HB1 := Lib.hid hb1
  have QS := fun w => Lib.hid (system_any sa wide w h1)
  have QP := fun w => Lib.hid (Put32_any none 0 0 [] rfl (ad : Int) w (by simp) (Bytes.nil _ _) (by omega) (by omega))
  have HLN := Lib.hid (numB_len wide sa)
  have HLL := Lib.hid (show (numB wide sa).length + (be32 (ad : Int)).length ≤ 1000000 by have := numB_len wide sa; simp [be32]; omega)
  have HAG := Lib.hid (show aggrB wide sa ad = numB wide sa ++ be32 (ad : Int) from rfl)
  obtain ⟨N, hN⟩ : ∃ N, N = numB wide sa := ⟨_, rfl⟩
  rw [← hN] at QS HLN HAG HLL
  clear hk hb1 hN h1 h2
  go_enter Tryz.func85, Tryz.ntmps85
  go_wp2_with fail
  go_region_law ((first
    | (have hq5 := HO5; clear hq5; go_simp; go_at_call 47; refine (cat_two A4 A5 c4 c5 N (be32 (ad : Int)) w5 HO45.out HO5.out HLL.out).mono ?_; rintro e w6 ⟨A6, c6, rfl, f61, f62, ho6, hb6⟩; have HF61 := Lib.hid f61; have HF62 := Lib.hid f62; clear f61 f62; have HO6 := Lib.hid ho6; have HB6 := Lib.hid hb6; clear ho6 hb6)
    | (have hq4 := HO4; clear hq4; go_simp; go_at_call 91; refine (QP _).out.mono ?_; rintro e w5 ⟨A5, c5, rfl, f51, f52, ho5, hb5⟩; have HO5 := Lib.hid ho5.bytes; have HO45 := Lib.hid (HO4.out.below hb5); have HB5 := Lib.hid hb5; clear ho5 hb5 f51 f52)
    | (go_simp; go_at_call 119; refine (QS _).out.mono ?_; rintro e w4 ⟨A4, c4, rfl, hy4, f41, f42, hb4⟩; have hk4 := HK.out.below (below_undrew hb4) HK.out.lt; have c84 : w4.cell? ⟨w.heap.size, 8, none⟩ = some (.int .u32 (ad : Int)) := hk4.cell 8; have HO4 := Lib.hid hy4; have HB4 := Lib.hid hb4; clear hk4 hy4)))
  all_goals
    go_wp2_with fail
    go_ret
    have hb4 := HB1.out.trans ((below_undrew HB4.out).mono HB1.out.size)
    have hb5 := hb4.trans (HB5.out.mono hb4.size)
    exact ret_own (by simp) HF61.out HF62.out (HO6.out.lower hb5.size) (hb5.trans (HB6.out.mono hb5.size)) HAG.out.symm
end Go.Proofs.YtnaangnmlbgmkaaGreatDoor

/-
  Attributes that may not be: Put tells EARG.
-/
namespace Go.Proofs.YtnaangnmlbgmkaaGreatDoor
set_option linter.unusedVariables false
open Go.RowKit

set_option maxHeartbeats 1600000 in
theorem PutA_no (a : Av) (wide : Bool) (w : World) (ht : TabK w) (hin : a.In w w.heap.size) (hok : a.okB = false) (hpl : a.path.length ≤ 10000) (hpt : totN a.path ≤ 1152921504606846976) (hrl : a.raws.length ≤ 1000) :
    Calls Tryz.prog 44 #[.agg a.row.toArray, .bool wide] w fun e w' => e = .returned (.tuple #[.slice none 0 0, .int .i64 1]) ∧ Below w.heap.size w w' := by
  have hb0 := ((Below.refl w.heap.size w).alloc (Nat.le_refl _) (.cells a.row.toArray 28)).alloc (by simp) (.cells #[.bool wide] 4)
  have hkA := (Blk.new w 28 a.row).below ((Below.refl _ _).alloc (Nat.le_refl _) (.cells #[.bool wide] 4)) (by simp)
  have q := Right_attrs a _ (ht.below hb0 ht.lt) ((hin.below hb0 (Nat.le_refl _)).lift hb0.size) (by omega) (by omega) (by omega)
  rw [hok] at q
  obtain ⟨org, pa, pc, path, next, med, pref, atomic, has, sa, ad, ca, cc, comms, ra, rc, raws⟩ := a
  have Q1 := Lib.hid q; have HB0 := Lib.hid hb0; have HKA := Lib.hid hkA
  clear q hb0 hkA hin ht hok
  unfold Av.row at Q1 HB0 HKA ⊢
  dsimp only at Q1 HB0 HKA ⊢
  go_enter Tryz.func44, Tryz.ntmps44
  go_wp2_with fail
  refine Q1.out.mono ?_
  rintro e w1 ⟨rfl, hb1⟩
  have HB1 := Lib.hid (HB0.out.trans (hb1.mono HB0.out.size))
  clear hb1
  go_wp2_with fail
  go_ret2
  exact ⟨rfl, HB1.out⟩
end Go.Proofs.YtnaangnmlbgmkaaGreatDoor

/-
  Are attributes small enough: what the statements of this layer ask first.
-/
namespace Go.Proofs.YtnaangnmlbgmkaaGreatDoor
set_option linter.unusedVariables false
set_option linter.unusedSimpArgs false
open Go.RowKit

/-- What a call tells that asks whether attributes are few. -/
def RetFew4 (w : World) (a : Av) (e : Ending) (w' : World) : Prop :=
  ∃ b : Bool, e = .returned (.bool b) ∧ (b = true → fewB a.path = true ∧ a.comms.length ≤ 60 ∧ a.raws.length ≤ 12 ∧ ∀ s ∈ a.raws, s.data.length ≤ 400) ∧ Below w.heap.size w w'
theorem few4_upto {L : List Rw} {j : Nat} {s : Rw} (hs : L[j]? = some s) (h : ∀ t ∈ L.take j, t.data.length ≤ 400) (h1 : s.data.length ≤ 400) : ∀ t ∈ L.take (j + 1), t.data.length ≤ 400 := by
  obtain ⟨q1, q2⟩ := List.getElem?_eq_some_iff.1 hs
  rw [List.take_succ_eq_append_getElem q1, q2]
  intro t ht
  rcases List.mem_append.1 ht with ht | ht
  · exact h t ht
  · rw [List.mem_singleton.1 ht]; exact h1
set_option maxRecDepth 100000 in
set_option maxHeartbeats 6400000 in
theorem Few4_any (a : Av) (w : World) (h : a.In w w.heap.size) :
    Calls Tryz.prog 17 #[.agg a.row.toArray] w (RetFew4 w a) := by
  obtain ⟨org, pa, pc, path, next, med, pref, atomic, has, aas, aad, ca, cc, comms, ra, rc, raws⟩ := a
  obtain ⟨hp, hpc, hcm, hcc, hrw, hrc, hea⟩ := h
  dsimp only at hp hpc hcm hcc hrw hrc hea
  unfold Av.row
  dsimp only
  have hb0 := (Below.refl w.heap.size w).alloc (Nat.le_refl _) (.cells #[.int .i64 org, .slice pa path.length pc, .int .u32 next, .int .i64 med, .int .i64 pref, .bool atomic, .bool has, .int .u32 aas, .int .u32 aad, .slice ca comms.length cc, .slice ra raws.length rc] 28)
  have kO := Blk.new w 28 [.int .i64 org, .slice pa path.length pc, .int .u32 next, .int .i64 med, .int .i64 pref, .bool atomic, .bool has, .int .u32 aas, .int .u32 aad, .slice ca comms.length cc, .slice ra raws.length rc]
  obtain ⟨W0, hW0⟩ : ∃ W0, W0 = w.alloc (.cells #[.int .i64 org, .slice pa path.length pc, .int .u32 next, .int .i64 med, .int .i64 pref, .bool atomic, .bool has, .int .u32 aas, .int .u32 aad, .slice ca comms.length cc, .slice ra raws.length rc] 28) := ⟨_, rfl⟩
  rw [← hW0] at kO
  rw [← hW0] at hb0
  have Q := Lib.hid (Few_any pa pc path W0 ((hp.below hb0 (Nat.le_refl _)).lift hb0.size))
  have HRW := Lib.hid ((hrw.below hb0 (Nat.le_refl _)).lift hb0.size)
  have HB := Lib.hid hb0
  have d9 : World.cell? _ ⟨w.heap.size, 9, none⟩ = some _ := kO.cell 9
  have d10 : World.cell? _ ⟨w.heap.size, 10, none⟩ = some _ := kO.cell 10
  have d1 : World.cell? _ ⟨w.heap.size, 1, none⟩ = some _ := kO.cell 1
  have HW0 := Lib.hid hW0
  have hrm := hrc.2; unfold maxLen at hrm
  have hrl : raws.length ≤ 9223372036854775807 := by omega
  clear hp hpc hcm hcc hrw hrc hea hb0 kO hW0 hrm
  obtain ⟨U, hU⟩ : ∃ U, U = fewB path := ⟨_, rfl⟩
  rw [← hU] at Q
  have HU := Lib.hid hU
  clear hU
  go_enter Tryz.func17, Tryz.ntmps17
  by_cases h60 : comms.length ≤ 60
  · have h60I : ¬ (60 : Int) < (comms.length : Int) := by omega
    by_cases h12 : raws.length ≤ 12
    · have h12I : ¬ (12 : Int) < (raws.length : Int) := by omega
      cases U with
      | false =>
        go_wp2_with (rw [← HW0.out])
        refine Q.out.mono ?_
        rintro e w1 ⟨rfl, rfl⟩
        go_wp2_with fail
        go_ret
        exact ⟨false, rfl, fun q => (by cases q), HB.out⟩
      | true =>
        go_wp2_with (rw [← HW0.out])
        refine Q.out.mono ?_
        rintro e w1 ⟨rfl, rfl⟩
        go_wp2_with fail
        go_loop [3] (fun i => ∃ j : Nat, j ≤ raws.length ∧ i = .int .i64 (j : Int) ∧ Hid (∀ t ∈ raws.take j, t.data.length ≤ 400)) (fun i => raws.length - (intOf i).toNat)
        case atStart => exact ⟨0, Nat.zero_le _, rfl, Lib.hid (fun t ht => by simp at ht)⟩
        case round =>
          obtain ⟨j, hj, rfl, hall⟩ := hrel
          by_cases hlt : j < raws.length
          · obtain ⟨s, hs⟩ : ∃ s, raws[j]? = some s := ⟨_, List.getElem?_eq_getElem hlt⟩
            obtain ⟨b, off, hA, hb, k0, k1, k2, hy⟩ := HRW.out.at hs
            subst hA
            have hjI : (j : Int) < (raws.length : Int) := by omega
            have HN := Lib.hid (fun h => few4_upto hs hall.out h)
            clear hs hall hy
            by_cases h4 : s.data.length ≤ 400
            · have h4I : ¬ (400 : Int) < (s.data.length : Int) := by omega
              have HN2 := Lib.hid (HN.out h4)
              clear HN h4
              go_wp2_with fail
              go_round
              case rel => exact ⟨j + 1, hlt, by go_num, HN2⟩
              case measure => simp [intOf]; omega
            · have h4I : (400 : Int) < (s.data.length : Int) := by omega
              clear HN h4
              go_wp2_with fail
              go_ret
              exact ⟨false, rfl, fun q => (by cases q), HB.out⟩
          · obtain rfl : j = raws.length := by omega
            rw [List.take_length] at hall
            go_wp2_with fail
            go_ret
            exact ⟨true, rfl, fun _ => ⟨HU.out.symm, h60, h12, hall.out⟩, HB.out⟩
    · have h12I : (12 : Int) < (raws.length : Int) := by omega
      cases U with
      | false =>
        go_wp2_with (rw [← HW0.out])
        refine Q.out.mono ?_
        rintro e w1 ⟨rfl, rfl⟩
        go_wp2_with fail
        go_ret
        exact ⟨false, rfl, fun q => (by cases q), HB.out⟩
      | true =>
        go_wp2_with (rw [← HW0.out])
        refine Q.out.mono ?_
        rintro e w1 ⟨rfl, rfl⟩
        go_wp2_with fail
        go_ret
        exact ⟨false, rfl, fun q => (by cases q), HB.out⟩
  · have h60I : (60 : Int) < (comms.length : Int) := by omega
    cases U with
    | false =>
      go_wp2_with (rw [← HW0.out])
      refine Q.out.mono ?_
      rintro e w1 ⟨rfl, rfl⟩
      go_wp2_with fail
      go_ret
      exact ⟨false, rfl, fun q => (by cases q), HB.out⟩
    | true =>
      go_wp2_with (rw [← HW0.out])
      refine Q.out.mono ?_
      rintro e w1 ⟨rfl, rfl⟩
      go_wp2_with fail
      go_ret
      exact ⟨false, rfl, fun q => (by cases q), HB.out⟩
end Go.Proofs.YtnaangnmlbgmkaaGreatDoor

/-
  The table of looks, as the row lists it.
-/
namespace Go.Proofs.YtnaangnmlbgmkaaGreatDoor
open Go.ChangeShapes Go.WideShapes Go.ChangeAt Go.RowKit
set_option linter.unusedVariables false
set_option linter.unusedSimpArgs false

theorem gLooks : Tryz.prog.globalNamed "speculum/attrs.looks" = some 0 := by kernel_rfl
theorem gLooksT : (Tryz.prog.globals[0]?).map (·.type) = some 149 := by kernel_rfl
theorem looks_flat : ∀ (L : List Look) (i : Nat) (x : Look), L[i]? = some x → ∀ r u, x.cells[r]? = some u → (L.flatMap Look.cells)[i * 5 + r]? = some u
  | [], i, x, h, r, u, hu => by simp at h
  | a :: L, 0, x, h, r, u, hu => by
    obtain rfl : a = x := by simpa using h
    have hi := (List.getElem?_eq_some_iff.1 hu).1
    rw [List.flatMap_cons, List.getElem?_append_left (by omega), Nat.zero_mul, Nat.zero_add]
    exact hu
  | a :: L, i + 1, x, h, r, u, hu => by
    have h' : L[i]? = some x := by simpa using h
    have hr : a.cells.length = 5 := rfl
    rw [List.flatMap_cons, List.getElem?_append_right (by omega), hr, show (i + 1) * 5 + r - 5 = i * 5 + r by omega]
    exact looks_flat L i x h' r u hu
theorem looks_data : (Rows.laid_speculum_attrs_looks : DataW Unit) = .agg (looksL.map fun l => .agg ([l.1, l.2.1, l.2.2.1, l.2.2.2.1, l.2.2.2.2].map fun z => .lit (.int .i64 z))) := by kernel_rfl
/-- What a row that lists the table gives. -/
theorem tabk_of_laid {W : World} (h : laidMetH Tryz.prog [("speculum/attrs.looks", Rows.laid_speculum_attrs_looks)] W) : TabK W := by
  have h0 : laidMet Tryz.prog [("speculum/attrs.looks", Rows.laid_speculum_attrs_looks)] W := h
  obtain ⟨g, t, cs, fuel, p, hg, hty, hvar, htr⟩ := Lib.laidMet.reads h0 (.head _)
  obtain rfl := Option.some.inj (gLooks.symm.trans hg)
  obtain rfl := Option.some.inj (gLooksT.symm.trans hty)
  rw [looks_data] at htr
  have hlen : cs.toList.length = 50 := by
    have h2 := htr
    cases fuel with
    | zero => simp [DataW.trod] at h2
    | succ fuel =>
      simp only [DataW.trod, Tryz.underlying149] at h2
      split at h2
      · rename_i hl
        have e50 : Tryz.prog.cellsOf 149 = 50 := by kernel_rfl
        rw [e50] at hl
        exact hl
      · cases h2
  have hcs : cs.toList = looksL.flatMap Look.cells := by
    apply List.ext_getElem?
    intro j
    by_cases hj : j < 50
    · obtain ⟨fuel', d, q, hd, ht⟩ := Lib.array_elem Tryz.underlying149 htr (j / 5) (by omega)
      obtain ⟨l, hl⟩ : ∃ l, looksL[j / 5]? = some l := ⟨_, List.getElem?_eq_getElem (by show j / 5 < 10; omega)⟩
      simp only [List.getElem?_map, hl, Option.map_some, Option.some.injEq] at hd
      subst hd
      have e5 : Tryz.prog.cellsOf 121 = 5 := by kernel_rfl
      have he := Lib.ints_of_struct Tryz.underlying121 (fun i f hf => by
        match i, hf with
        | 0, hf => cases hf; exact ⟨Tryz.underlying3, rfl, by kernel_rfl⟩
        | 1, hf => cases hf; exact ⟨Tryz.underlying3, rfl, by kernel_rfl⟩
        | 2, hf => cases hf; exact ⟨Tryz.underlying3, rfl, by kernel_rfl⟩
        | 3, hf => cases hf; exact ⟨Tryz.underlying3, rfl, by kernel_rfl⟩
        | 4, hf => cases hf; exact ⟨Tryz.underlying3, rfl, by kernel_rfl⟩
        | i + 5, hf => simp at hf) (by kernel_rfl) ht
      rw [e5] at he
      have hc := congrArg (fun (x : List Value) => x[j % 5]?) he
      simp only [List.getElem?_take, List.getElem?_drop] at hc
      rw [if_pos (by omega), show j / 5 * 5 + j % 5 = j by omega] at hc
      rw [hc]
      have hr : j % 5 < l.cells.length := by show j % 5 < 5; omega
      have hf := looks_flat looksL (j / 5) l hl (j % 5) _ (List.getElem?_eq_getElem hr)
      rw [show j / 5 * 5 + j % 5 = j by omega] at hf
      rw [hf]
      exact List.getElem?_eq_getElem hr
    · rw [List.getElem?_eq_none (by omega), List.getElem?_eq_none (by show 50 ≤ j; omega)]
  simp only [World.var?, gLooks, Option.bind_some] at hvar
  split at hvar
  · rename_i cs' t' fr' hh
    have e : cs' = lookCells := by
      have e1 : cs' = cs := by simpa using hvar
      rw [e1]
      unfold lookCells
      rw [← hcs]
    exact ⟨t', fr', by rw [hh, e]⟩
  · cases hvar
end Go.Proofs.YtnaangnmlbgmkaaGreatDoor

/-
  Updates as values that are carried along whole.
-/
namespace Go.Proofs.YtnaangnmlbgmkaaGreatDoor
set_option linter.unusedVariables false
set_option linter.unusedSimpArgs false
open Go.RowKit

/-- An update: what goes, what is said of what comes, what comes. -/
structure Uv where
  goneA : Option Addr
  goneC : Nat
  gone : List Px
  attrs : Av
  newsA : Option Addr
  newsC : Nat
  news : List Px
def Uv.row (u : Uv) : List Value := .slice u.goneA u.gone.length u.goneC :: (u.attrs.row ++ [.slice u.newsA u.news.length u.newsC])
def Uv.agg (u : Uv) : Value := .agg u.row.toArray
/-- What an update leads to lies below B. -/
structure Uv.In (w : World) (B : Nat) (u : Uv) : Prop where
  gone : PxsIn w B u.goneA u.gone
  goneC : u.gone.length ≤ u.goneC ∧ u.goneC ≤ maxLen
  goneF : ∀ x ∈ u.gone, PxFit x
  attrs : u.attrs.In w B
  news : PxsIn w B u.newsA u.news
  newsC : u.news.length ≤ u.newsC ∧ u.newsC ≤ maxLen
  newsF : ∀ x ∈ u.news, PxFit x
theorem Uv.In.below {w w' : World} {B B' : Nat} {u : Uv} (h : u.In w B) (hb : Below B' w w') (hB : B ≤ B') : u.In w' B :=
  ⟨h.gone.below hb hB, h.goneC, h.goneF, h.attrs.below hb hB, h.news.below hb hB, h.newsC, h.newsF⟩
theorem Uv.In.lift {w : World} {B B' : Nat} {u : Uv} (h : u.In w B) (hB : B ≤ B') : u.In w B' :=
  ⟨h.gone.lift hB, h.goneC, h.goneF, h.attrs.lift hB, h.news.lift hB, h.newsC, h.newsF⟩
/-- An update lies here. -/
def UvAt (w : World) (g : Nat) (u : Uv) : Prop := ∀ i x, u.row[i]? = some x → w.cell? ⟨g, i, none⟩ = some x
theorem UvAt.below {w w' : World} {B g : Nat} {u : Uv} (h : UvAt w g u) (hb : Below B w w') (hg : g < B) : UvAt w' g u := fun i x hu => (hb.cell (p := ⟨g, i, none⟩) hg).trans (h i x hu)
theorem uv_blk {w : World} {g T : Nat} {u : Uv} (h : Blk w g T u.row) : UvAt w g u := fun i x hu => by rw [h.cell]; exact hu
theorem UvAt.gone {w : World} {g : Nat} {u : Uv} (h : UvAt w g u) : w.cell? ⟨g, 0, none⟩ = some (.slice u.goneA u.gone.length u.goneC) := h 0 _ rfl
theorem UvAt.news {w : World} {g : Nat} {u : Uv} (h : UvAt w g u) : w.cell? ⟨g, 12, none⟩ = some (.slice u.newsA u.news.length u.newsC) := h 12 _ rfl
theorem UvAt.attrs {w : World} {g : Nat} {u : Uv} (h : UvAt w g u) : AvAt w g 1 u.attrs := fun i x hu => by
  rw [Nat.add_comm]
  refine h (i + 1) x ?_
  have hl : i < u.attrs.row.length := (List.getElem?_eq_some_iff.1 hu).1
  show (u.attrs.row ++ [.slice u.newsA u.news.length u.newsC])[i]? = some x
  rw [List.getElem?_append_left hl]
  exact hu
theorem isAggU (w : World) : (isAgg 30).run Tryz.prog w = .ok true w := by kernel_rfl
theorem sizeU (w : World) : (sizeOf 30).run Tryz.prog w = .ok 13 w := by kernel_rfl
theorem run_loadU {w : World} {g : Nat} {c : Uv} (h : UvAt w g c) : (Instr.loadAt 30 (.pointer (some ⟨g, 0, none⟩))).run Tryz.prog w = .ok c.agg w := by
  have hr : c.row.length = 13 := rfl
  have hc := run_loadCells (P := Tryz.prog) w ⟨g, 0, none⟩ 13 (fun j => c.row.getD j undef) (fun j hj => by
    rw [Addr.add_lit, Nat.zero_add]
    exact h j _ (by rw [List.getElem?_eq_getElem (by omega)]; simp [List.getD, hr, hj]))
  have e : ((List.range 13).map fun j => c.row.getD j undef).toArray = c.row.toArray := rfl
  rw [e] at hc
  simp [Instr.loadAt, Instr.sureAddr, loadVar, Sem.run_bind, isAggU, sizeU, hc, Result.andThen, Uv.agg]
theorem run_boxU (w : World) (c : Uv) : (Instr.box 30 c.agg).run Tryz.prog w = .ok (.pointer (some ⟨w.heap.size, 0, none⟩)) (w.alloc (.cells c.row.toArray 30)) := by kernel_rfl
section
variable {ops : Array Oper} {rest : List Oper} {o : Oper} {a : Act} {Q : Exit → Act → World → Prop}
theorem wpList_loadU (w : World) (hg : o.guard = none) (p : Operand) (hop : o.op = Op.load 30 p) (g : Nat) (c : Uv) (hp : a.eval p = .pointer (some ⟨g, 0, none⟩)) (h : UvAt w g c)
    (hK : wpList Tryz.prog ops Q rest (a.put o.dst c.agg) w) : wpList Tryz.prog ops Q (o :: rest) a w := by
  refine wpList_plain hg fun K' hK' => ?_
  unfold Oper.wp
  simp [execOp, hop, hp, run_loadU h, Result.andThen]
  exact hK' _ _ hK
theorem wpList_boxU (w : World) (hg : o.guard = none) (x : Operand) (hop : o.op = Op.box 30 x) (c : Uv) (hx : a.eval x = c.agg)
    (hK : wpList Tryz.prog ops Q rest (a.put o.dst (.pointer (some ⟨w.heap.size, 0, none⟩))) (w.alloc (.cells c.row.toArray 30))) : wpList Tryz.prog ops Q (o :: rest) a w := by
  refine wpList_plain hg fun K' hK' => ?_
  unfold Oper.wp
  simp [execOp, hop, hx, run_boxU, Result.andThen]
  exact hK' _ _ hK
end
end Go.Proofs.YtnaangnmlbgmkaaGreatDoor

/-
  What an update says of what comes: the program's bytes of it.
-/
namespace Go.Proofs.YtnaangnmlbgmkaaGreatDoor
set_option linter.unusedVariables false
set_option linter.unusedSimpArgs false
open Go.RowKit

/-- What a call leaves that tells bytes of its own, and an error's number. -/
def RetE (w : World) (d : List UInt8) (E : Int) (e : Ending) (w' : World) : Prop :=
  ∃ (A : Option Addr) (c : Nat), e = .returned (.tuple #[.slice A d.length c, .int .i64 E]) ∧ d.length ≤ c ∧ c ≤ maxLen ∧ Own w' w.heap.size 5 (.slice A d.length c) d ∧ Below w.heap.size w w'
/-- What is said, or the error. -/
def sayF (u : Uv) (d : List UInt8) (E : Int) : List UInt8 × Int := if (pxsOk u.gone && pxsOk u.news) = true then (if u.news = [] then ([], 0) else (d, E)) else ([], 1)
set_option maxHeartbeats 3200000 in
theorem saying_any (u : Uv) (wide : Bool) (w : World) (h : u.In w w.heap.size) (hl : u.gone.length ≤ 1000000 ∧ u.news.length ≤ 1000000) (d : List UInt8) (E : Int) (hput : ∀ W, Below w.heap.size w W → Calls Tryz.prog 44 #[.agg u.attrs.row.toArray, .bool wide] W (RetE W d E)) :
    Calls Tryz.prog 19 #[.agg u.row.toArray, .bool wide] w (RetE w (sayF u d E).1 (sayF u d E).2) := by
  have hb1 := (Below.refl w.heap.size w).alloc (Nat.le_refl _) (.cells u.row.toArray 30)
  have kU := Blk.new w 30 u.row
  obtain ⟨W0, hW0⟩ : ∃ W0, W0 = w.alloc (.cells u.row.toArray 30) := ⟨_, rfl⟩
  rw [← hW0] at hb1 kU
  have HW0 := Lib.hid hW0; have HB1 := Lib.hid hb1
  have HUV := Lib.hid (fun (W : World) (q : Below W0.heap.size W0 W) => (uv_blk kU).below q kU.lt)
  have HQ := fun (W : World) (q : Below W0.heap.size W0 W) => hb1.trans (q.mono hb1.size)
  have QG := Lib.hid (fun (W : World) (q : Below W0.heap.size W0 W) => ContainsFunc5_any u.goneA u.goneC u.gone W ((h.gone.below (HQ W q) (Nat.le_refl _)).lift (HQ W q).size) h.goneF (by omega))
  have QN := Lib.hid (fun (W : World) (q : Below W0.heap.size W0 W) => ContainsFunc5_any u.newsA u.newsC u.news W ((h.news.below (HQ W q) (Nat.le_refl _)).lift (HQ W q).size) h.newsF (by omega))
  have QP := Lib.hid (fun (W : World) (q : Below W0.heap.size W0 W) => hput W (HQ W q))
  have HBW := Lib.hid HQ
  clear hW0 hb1 kU h hl hput HQ
  go_enter Tryz.func19, Tryz.ntmps19
  have g0 := (HUV.out _ (Below.refl _ _)).gone
  go_wp2_with (first
    | (refine wpList_boxU _ rfl (.tmp 0) rfl u rfl ?_; rw [← HW0.out]))
  refine (QG.out _ (Below.refl _ _)).mono ?_
  rintro e w1 ⟨rfl, hb1⟩
  have HA := Lib.hid hb1
  have n1 := (HUV.out _ hb1).news
  clear hb1 g0
  cases hg : pxsOk u.gone with
  | false =>
    have HS := Lib.hid (show sayF u d E = ([], 1) by unfold sayF; rw [hg]; rfl)
    clear hg
    go_wp2_with fail
    go_ret2
    rw [HS.out]
    exact ⟨none, 0, rfl, Nat.le_refl _, Nat.zero_le _, Own.nil _ _ _, HBW.out _ HA.out⟩
  | true =>
    have HG := Lib.hid hg
    clear hg
    go_wp2_with fail
    refine (QN.out _ HA.out).mono ?_
    rintro e w2 ⟨rfl, hb2⟩
    have hbB : Below W0.heap.size W0 w2 := HA.out.trans (hb2.mono HA.out.size)
    have HB := Lib.hid hbB
    have n2 := (HUV.out _ hbB).news
    clear hb2 n1 hbB
    cases hn : pxsOk u.news with
    | false =>
      have HS := Lib.hid (show sayF u d E = ([], 1) by unfold sayF; rw [hn, HG.out]; rfl)
      clear hn
      go_wp2_with fail
      go_ret2
      rw [HS.out]
      exact ⟨none, 0, rfl, Nat.le_refl _, Nat.zero_le _, Own.nil _ _ _, HBW.out _ HB.out⟩
    | true =>
      by_cases hz : u.news.length = 0
      · have HS := Lib.hid (show sayF u d E = ([], 0) by unfold sayF; rw [hn, HG.out]; simp [List.eq_nil_of_length_eq_zero hz])
        clear hn
        go_wp2_with fail
        go_ret2
        rw [HS.out]
        exact ⟨none, 0, rfl, Nat.le_refl _, Nat.zero_le _, Own.nil _ _ _, HBW.out _ HB.out⟩
      · have HS := Lib.hid (show sayF u d E = (d, E) by unfold sayF; rw [hn, HG.out]; simp; intro e; rw [e] at hz; exact absurd rfl hz)
        clear hn
        go_wp2_with (refine wpList_loadA _ rfl (.tmp 21) rfl w.heap.size 1 u.attrs rfl (HUV.out _ HB.out).attrs ?_)
        refine (QP.out _ HB.out).mono ?_
        rintro e w3 ⟨A3, c3, rfl, f3, g3, ho3, hb3⟩
        have HC := Lib.hid (HB.out.trans (hb3.mono HB.out.size))
        have HO := Lib.hid ho3
        clear ho3 hb3 n2
        go_wp2_with fail
        go_ret2
        rw [HS.out]
        exact ⟨A3, c3, rfl, f3, g3, Own.lower HO.out (HBW.out _ HB.out).size, HBW.out _ HC.out⟩
end Go.Proofs.YtnaangnmlbgmkaaGreatDoor

/-
  Is an update small enough?
-/
namespace Go.Proofs.YtnaangnmlbgmkaaGreatDoor
set_option linter.unusedVariables false
set_option linter.unusedSimpArgs false
open Go.RowKit

/-- What Few leaves: where it is small, its attributes' own Few was told so too. -/
def RetFew5 (w : World) (u : Uv) (n : Nat) (e : Ending) (w' : World) : Prop :=
  ∃ b : Bool, e = .returned (.bool b) ∧ Below w.heap.size w w' ∧ (b = true → (∃ W1 W2, RetFew4 W1 u.attrs (.returned (.bool true)) W2) ∧ u.gone.length ≤ n ∧ u.news.length ≤ n)
set_option maxHeartbeats 3200000 in
theorem Few5_any (u : Uv) (n : Nat) (w : World) (h : u.In w w.heap.size) (hn : n ≤ 1000000) :
    Calls Tryz.prog 6 #[.agg u.row.toArray, .int .i64 (n : Int)] w (RetFew5 w u n) := by
  have hb1 := (Below.refl w.heap.size w).alloc (Nat.le_refl _) (.cells u.row.toArray 30)
  have kU := Blk.new w 30 u.row
  obtain ⟨W0, hW0⟩ : ∃ W0, W0 = w.alloc (.cells u.row.toArray 30) := ⟨_, rfl⟩
  rw [← hW0] at hb1 kU
  have HW0 := Lib.hid hW0
  have HUV := Lib.hid (fun (W : World) (q : Below W0.heap.size W0 W) => (uv_blk kU).below q kU.lt)
  have HBW := Lib.hid (fun (W : World) (q : Below W0.heap.size W0 W) => hb1.trans (q.mono hb1.size))
  have QF := Lib.hid (Few4_any u.attrs W0 ((h.attrs.below hb1 (Nat.le_refl _)).lift hb1.size))
  clear hW0 hb1 kU h
  go_enter Tryz.func6, Tryz.ntmps6
  go_wp2_with (first
    | (refine wpList_boxU _ rfl (.tmp 0) rfl u rfl ?_; rw [← HW0.out])
    | (refine wpList_loadA _ rfl (.tmp 5) rfl w.heap.size 1 u.attrs rfl (HUV.out _ (Below.refl _ _)).attrs ?_))
  refine QF.out.mono ?_
  rintro e w1 hr
  have HR := Lib.hid hr
  obtain ⟨q, rfl, _, hb⟩ := hr
  have HB := Lib.hid hb
  have g1 := (HUV.out _ hb).gone
  have n1 := (HUV.out _ hb).news
  clear hb
  cases q with
  | false =>
    clear HR
    go_wp2_with fail
    go_ret
    exact ⟨false, rfl, HBW.out _ HB.out, fun h => by cases h⟩
  | true =>
    by_cases h1 : u.gone.length ≤ n
    · by_cases h2 : u.news.length ≤ n
      · have H12 := Lib.hid (And.intro h1 h2)
        go_wp2_with fail
        go_ret
        exact ⟨true, rfl, HBW.out _ HB.out, fun _ => ⟨⟨_, _, HR.out⟩, H12.out⟩⟩
      · go_wp2_with fail
        go_ret
        exact ⟨false, rfl, HBW.out _ HB.out, fun h => by cases h⟩
    · go_wp2_with fail
      go_ret
      exact ⟨false, rfl, HBW.out _ HB.out, fun h => by cases h⟩
end Go.Proofs.YtnaangnmlbgmkaaGreatDoor

/-
  An update's body, or why there is none: the program's.
-/
namespace Go.Proofs.YtnaangnmlbgmkaaGreatDoor
set_option linter.unusedVariables false
set_option linter.unusedSimpArgs false
open Go.RowKit

theorem within5_any (r : Int) (w : World) : Calls Tryz.prog 20 #[.int .i64 r] w fun e w' => e = .returned (.func (.func 45) #[] #[.pointer (some ⟨w.heap.size, 0, none⟩)]) ∧ w' = w.alloc (.cells #[.int .i64 r] 3) := by
  go_enter Tryz.func20, Tryz.ntmps20
  go_wp2_with fail
  go_ret
  exact ⟨rfl, rfl⟩
theorem room_below {W w' : World} {g : Nat} {r : Int} (hb : Below W.heap.size (roomW W g r) w') (hg : g ≤ W.heap.size) : Below g W w' :=
  ((Below.refl g W).setCell (p := ⟨g, 0, none⟩) (Nat.le_refl _) (.int .i64 r)).trans (hb.mono hg)
/-- Do what goes and what comes find room? -/
def fitsB (u : Uv) (s : List UInt8) : Prop := roomB u.gone (4073 - (s.length : Int)) ∧ roomB u.news (4073 - (s.length : Int) - ((pxB u.gone).length : Int))
open Classical in
/-- An update's body, or the error. -/
noncomputable def putF (u : Uv) (d : List UInt8) (E : Int) : List UInt8 × Int :=
  if (sayF u d E).2 ≠ 0 then ([], (sayF u d E).2) else if fitsB u (sayF u d E).1 then (updB (pxB u.gone) (sayF u d E).1 (pxB u.news), 0) else ([], 4)
theorem say_ok {u : Uv} {d : List UInt8} {E : Int} (h : (sayF u d E).2 = 0) : pxsOk u.gone = true ∧ pxsOk u.news = true := by
  unfold sayF at h
  by_cases e : (pxsOk u.gone && pxsOk u.news) = true
  · simpa using e
  · rw [if_neg e] at h; cases h
theorem say_len {u : Uv} {d : List UInt8} {E : Int} : (sayF u d E).1.length ≤ d.length := by
  unfold sayF
  split
  · split
    · simp
    · exact Nat.le_refl _
  · simp
theorem putF_all (u : Uv) (d : List UInt8) (E : Int) : ((sayF u d E).2 ≠ 0 → putF u d E = ([], (sayF u d E).2)) ∧ ((sayF u d E).2 = 0 → fitsB u (sayF u d E).1 → putF u d E = (updB (pxB u.gone) (sayF u d E).1 (pxB u.news), 0)) ∧ ((sayF u d E).2 = 0 → ¬ fitsB u (sayF u d E).1 → putF u d E = ([], 4)) := by
  unfold putF
  refine ⟨fun h => if_pos h, fun h hf => ?_, fun h hf => ?_⟩
  · rw [if_neg (by simpa using h), if_pos hf]
  · rw [if_neg (by simpa using h), if_neg hf]
set_option maxHeartbeats 6400000 in
theorem UPut_any (u : Uv) (wide : Bool) (w : World) (h : u.In w w.heap.size) (hl : u.gone.length ≤ 100000 ∧ u.news.length ≤ 100000) (d : List UInt8) (E : Int) (hdl : d.length ≤ 100000) (hput : ∀ W, Below w.heap.size w W → Calls Tryz.prog 44 #[.agg u.attrs.row.toArray, .bool wide] W (RetE W d E)) :
    Calls Tryz.prog 8 #[.agg u.row.toArray, .bool wide] w (RetE w (putF u d E).1 (putF u d E).2) := by
  have hb1 := (Below.refl w.heap.size w).alloc (Nat.le_refl _) (.cells u.row.toArray 30)
  have kU := Blk.new w 30 u.row
  obtain ⟨W0, hW0⟩ : ∃ W0, W0 = w.alloc (.cells u.row.toArray 30) := ⟨_, rfl⟩
  rw [← hW0] at hb1 kU
  have HW0 := Lib.hid hW0; have HB1 := Lib.hid hb1; have HKU := Lib.hid kU
  have HUV := Lib.hid (fun (W : World) (q : Below W0.heap.size W0 W) => (uv_blk kU).below q kU.lt)
  have HQ := fun (W : World) (q : Below W0.heap.size W0 W) => hb1.trans (q.mono hb1.size)
  have HIN := Lib.hid (fun (W : World) (q : Below W0.heap.size W0 W) => h.below (HQ W q) (Nat.le_refl _))
  have QS := Lib.hid (fun (W : World) (q : Below W0.heap.size W0 W) => saying_any u wide W ((h.below (HQ W q) (Nat.le_refl _)).lift (HQ W q).size) (by omega) d E (fun W' q' => hput W' ((HQ W q).trans (q'.mono (HQ W q).size))))
  have HBW := Lib.hid HQ
  have HH := Lib.hid h; have HL := Lib.hid hl; have HDL := Lib.hid hdl
  obtain ⟨s, hs⟩ : ∃ s, s = sayF u d E := ⟨_, rfl⟩
  have HSL := Lib.hid (show s.1.length ≤ 100000 by rw [hs]; exact Nat.le_trans say_len hdl)
  have HSO := Lib.hid (show s.2 = 0 → pxsOk u.gone = true ∧ pxsOk u.news = true by rw [hs]; exact say_ok)
  have HPF := Lib.hid (putF_all u d E)
  rw [← hs] at HPF QS
  obtain ⟨sd, se⟩ := s
  dsimp only at HSL HSO HPF QS
  clear hW0 hb1 kU h hl hput HQ hdl hs
  go_enter Tryz.func8, Tryz.ntmps8
  go_wp2_with (first
    | (refine wpList_boxU _ rfl (.tmp 0) rfl u rfl ?_; rw [← HW0.out])
    | (refine wpList_loadU _ rfl (.tmp 2) rfl w.heap.size u rfl (HUV.out _ (Below.refl _ _)) ?_))
  refine (QS.out _ (Below.refl _ _)).mono ?_
  rintro e w2 ⟨A2, c2, rfl, f2, g2, ho2, hb2⟩
  have HB2 := Lib.hid hb2; have HO2 := Lib.hid ho2
  clear ho2 hb2
  by_cases hse : se = 0
  · subst hse
    obtain ⟨hok1, hok2⟩ := HSO.out rfl
    have hsl := HSL.out
    obtain ⟨r, hr⟩ : ∃ r : Int, r = 4073 - (sd.length : Int) := ⟨_, rfl⟩
    have HR := Lib.hid hr
    have hw : wrap64 (4073 - (sd.length : Int)) = r := by rw [hr]; unfold wrap64; omega
    have QW := Lib.hid (within5_any r w2)
    have HW := Lib.hid (Below.refl w2.heap.size w2 |>.alloc (Nat.le_refl _) (.cells #[.int .i64 r] 3))
    have kR := Blk.new w2 3 [.int .i64 r]
    obtain ⟨W, hW⟩ : ∃ W, W = w2.alloc (.cells #[.int .i64 r] 3) := ⟨_, rfl⟩
    rw [← hW] at HW kR
    have HWE := Lib.hid hW
    have hgW : w2.heap.size < W.heap.size := kR.lt
    have hbW : Below W0.heap.size W0 W := HB2.out.trans (HW.out.mono HB2.out.size)
    have hg0 : W0.heap.size ≤ w2.heap.size := HB2.out.size
    have hg1 : w.heap.size ≤ w2.heap.size := Nat.le_trans HB1.out.size hg0
    have cU := (HUV.out W hbW).gone
    have Q1 := Lib.hid (Room5_any u.goneA u.goneC u.gone W w2.heap.size r kR ((HIN.out W hbW).gone.lift hg1) HH.out.goneC.1 HH.out.goneC.2 HH.out.goneF hok1 HL.out.1 (by omega))
    have HKR := Lib.hid kR; have HBW2 := Lib.hid hbW; have HG := Lib.hid (And.intro hgW (And.intro hg0 hg1)); have HOK2 := Lib.hid hok2
    have HCU := Lib.hid cU
    clear hr hsl kR hW hgW hbW hg0 hg1 hok1 hok2 cU
    go_wp2_with fail
    refine QW.out.mono ?_
    rintro e w3 ⟨rfl, hw3⟩
    rw [← HWE.out] at hw3
    subst hw3
    have cU := HCU.out
    go_wp2_with fail
    refine Q1.out.mono ?_
    rintro e w3 ⟨A3, l3, c3, D3, m3, dc3, r3, rfl, f3, g3, hr3, hr3b, hl3, hb3, ho3, hy3, hn3⟩
    have kg3 := (roomW_blk HKR.out r3).below hb3 HG.out.1
    have hbb3 := room_below hb3 (Nat.le_of_lt HG.out.1)
    have hB3 : Below W0.heap.size W0 w3 := HBW2.out.trans (hbb3.mono HG.out.2.1)
    have n3 := (HUV.out w3 hB3).news
    have Q2 := Lib.hid (Room5_any u.newsA u.newsC u.news w3 w2.heap.size r3 kg3 ((HIN.out w3 hB3).news.lift HG.out.2.2) HH.out.newsC.1 HH.out.newsC.2 HH.out.newsF HOK2.out HL.out.2 (by have := HR.out; have := HSL.out; omega))
    have HO3 := Lib.hid ho3; have HB3 := Lib.hid hB3; have HBB3 := Lib.hid hb3; have HKG3 := Lib.hid kg3
    have HY3 := Lib.hid hy3; have HN3 := Lib.hid hn3; have HL3 := Lib.hid hl3; have HR3 := Lib.hid hr3
    clear ho3 hb3 kg3 hbb3 hB3 hy3 hn3 hl3 hr3 hr3b cU
    go_wp2_with fail
    refine Q2.out.mono ?_
    rintro e w4 ⟨A4, l4, c4, D4, m4, dc4, r4, rfl, f4, g4, hr4, hr4b, hl4, hb4, ho4, hy4, hn4⟩
    have HO4 := Lib.hid ho4; have HBB4 := Lib.hid hb4; have HY4 := Lib.hid hy4; have HN4 := Lib.hid hn4
    have hz3 : w2.heap.size < w3.heap.size := HKG3.out.lt
    have HB4 := Lib.hid (HB3.out.trans ((room_below hb4 (Nat.le_of_lt hz3)).mono HG.out.2.1))
    have HO3b := Lib.hid ((HO3.out.room HKG3.out r4).below (by rw [roomW_size]; exact hb4))
    have HL4 := Lib.hid hl4
    clear ho4 hb4 hy4 hn4 hl4 hr4 hr4b n3 hz3
    by_cases hfa : roomB u.gone r
    · obtain ⟨e1, e2, e3⟩ := HY3.out hfa
      subst e1
      by_cases hfb : roomB u.news r3
      · obtain ⟨e4, e5, e6⟩ := HY4.out hfb
        subst e4
        have HE := Lib.hid (HPF.out.2.1 trivial ⟨by rw [← HR.out]; exact hfa, by rw [← HR.out, ← e3]; exact hfb⟩)
        have hoW : Own (w2.alloc (.cells #[.int .i64 r] 3)) W0.heap.size 5 (.slice A2 sd.length c2) sd := HO2.out.alloc _
        rw [← HWE.out] at hoW
        have ho4 := ((((hoW.room HKR.out r3).below (by rw [roomW_size]; exact HBB3.out)).room HKG3.out r4).below (by rw [roomW_size]; exact HBB4.out)).bytes
        have QB := Lib.hid (body_any A3 A2 A4 c3 c2 c4 l3 sd l4 w4 HO3b.out.bytes ho4 HO4.out.bytes (by have := HL3.out; have := HL.out.1; omega) (by have := HSL.out; omega) (by have := HL4.out; have := HL.out.2; omega))
        rw [e2, e5] at QB
        have E2 := Lib.hid e2; have E5 := Lib.hid e5
        clear hoW ho4 hfa hfb e3 e6
        rw [← e2, ← e5] at QB
        clear e2 e5
        go_wp2_with fail
        refine QB.out.mono ?_
        rintro e w6 ⟨A6, c6, rfl, f6, g6, ho6, hb6⟩
        have HO6 := Lib.hid ho6
        have HB6 := Lib.hid (HB4.out.trans (hb6.mono HB4.out.size))
        clear ho6 hb6
        go_wp2_with fail
        go_ret2
        rw [HE.out]
        dsimp only
        rw [← E2.out, ← E5.out]
        exact ⟨A6, c6, rfl, f6, g6, Own.lower HO6.out (HBW.out _ HB4.out).size, HBW.out _ HB6.out⟩
      · have hpos := HN4.out hfb
        have HE := Lib.hid (HPF.out.2.2 trivial (fun hf => hfb (by rw [e3]; have := hf.2; rw [← HR.out] at this; exact this)))
        clear hfa hfb e2 e3
        go_wp2_with fail
        go_ret2
        rw [HE.out]
        exact ⟨none, 0, rfl, Nat.le_refl _, Nat.zero_le _, Own.nil _ _ _, HBW.out _ HB4.out⟩
    · have hpos := HN3.out hfa
      have HE := Lib.hid (HPF.out.2.2 trivial (fun hf => hfa (by have := hf.1; rw [← HR.out] at this; exact this)))
      clear hfa
      go_wp2_with fail
      go_ret2
      rw [HE.out]
      exact ⟨none, 0, rfl, Nat.le_refl _, Nat.zero_le _, Own.nil _ _ _, HBW.out _ HB4.out⟩
  · have HE := Lib.hid (HPF.out.1 hse)
    go_wp2_with fail
    go_ret2
    rw [HE.out]
    exact ⟨none, 0, rfl, Nat.le_refl _, Nat.zero_le _, Own.nil _ _ _, HBW.out _ HB2.out⟩
end Go.Proofs.YtnaangnmlbgmkaaGreatDoor

/-
  An update's body, or why there is none: the document's.
-/
namespace Go.Proofs.YtnaangnmlbgmkaaGreatDoor
set_option linter.unusedVariables false
set_option linter.unusedSimpArgs false
open Go.RowKit

theorem updB_len (g s n : List UInt8) : (updB g s n).length = 4 + g.length + s.length + n.length := by
  unfold updB
  simp only [List.length_append]
  have h1 : (be16 (g.length : Int)).length = 2 := rfl
  have h2 : (be16 (s.length : Int)).length = 2 := rfl
  omega
theorem fits_iff (u : Uv) (s : List UInt8) (hs : u.news = [] → s = []) : fitsB u s ↔ (updB (pxB u.gone) s (pxB u.news)).length ≤ 4077 := by
  rw [updB_len]
  unfold fitsB roomB
  constructor
  · rintro ⟨h1, h2⟩
    rcases h2 with h2 | h2
    · have e := hs h2
      rw [h2, e] at *
      rcases h1 with h1 | h1
      · rw [h1]; simp [pxB]
      · simp [pxB] at h1 ⊢; omega
    · omega
  · intro h
    exact ⟨.inr (by omega), .inr (by omega)⟩
theorem say_nil {u : Uv} {d : List UInt8} {E : Int} (h : u.news = []) : (sayF u d E).1 = [] := by
  unfold sayF
  split <;> first | rfl | (rw [if_pos h])
set_option maxHeartbeats 12800000 in
theorem RefUPut_any (u : Uv) (wide : Bool) (w : World) (h : u.In w w.heap.size) (hl : u.gone.length ≤ 100000 ∧ u.news.length ≤ 100000) (d : List UInt8) (E : Int) (hE : E = 0 ∨ E = 1) (hdl : d.length ≤ 100000) (hput : ∀ W, Below w.heap.size w W → Calls Tryz.prog 23 #[.agg u.attrs.row.toArray, .bool wide] W (RetE W d E)) :
    Calls Tryz.prog 9 #[.agg u.row.toArray, .bool wide] w (RetE w (putF u d E).1 (putF u d E).2) := by
  have hb1 := (Below.refl w.heap.size w).alloc (Nat.le_refl _) (.cells u.row.toArray 30)
  have kU := Blk.new w 30 u.row
  obtain ⟨W0, hW0⟩ : ∃ W0, W0 = w.alloc (.cells u.row.toArray 30) := ⟨_, rfl⟩
  rw [← hW0] at hb1 kU
  have HW0 := Lib.hid hW0; have HB1 := Lib.hid hb1
  have HUV := Lib.hid (fun (W : World) (q : Below W0.heap.size W0 W) => (uv_blk kU).below q kU.lt)
  have HQ := fun (W : World) (q : Below W0.heap.size W0 W) => hb1.trans (q.mono hb1.size)
  have QG := Lib.hid (fun (W : World) (q : Below W0.heap.size W0 W) => RefList5_any u.goneA u.goneC u.gone W ((h.gone.below (HQ W q) (Nat.le_refl _)).lift (HQ W q).size) h.goneF hl.1)
  have QN := Lib.hid (fun (W : World) (q : Below W0.heap.size W0 W) => RefList5_any u.newsA u.newsC u.news W ((h.news.below (HQ W q) (Nat.le_refl _)).lift (HQ W q).size) h.newsF hl.2)
  have QP := Lib.hid (fun (W : World) (q : Below W0.heap.size W0 W) => hput W (HQ W q))
  have HBW := Lib.hid HQ
  have HL := Lib.hid (show (pxB u.gone).length ≤ 500000 ∧ (pxB u.news).length ≤ 500000 ∧ d.length ≤ 100000 by have h1 := pxB_len u.gone; have h2 := pxB_len u.news; omega)
  have HPF := Lib.hid (putF_all u d E)
  have HFI := Lib.hid (fits_iff u)
  clear hW0 hb1 kU h hl hput HQ hdl
  go_enter Tryz.func9, Tryz.ntmps9
  have g0 := (HUV.out _ (Below.refl _ _)).gone
  go_wp2_with (refine wpList_boxU _ rfl (.tmp 0) rfl u rfl ?_; rw [← HW0.out])
  refine (QG.out _ (Below.refl _ _)).mono ?_
  rintro e w1 ⟨hb1, hr1⟩
  have HA := Lib.hid hb1
  have n1 := (HUV.out _ hb1).news
  clear hb1 g0
  rcases hr1 with ⟨hg, A1, c1, rfl, f1, g1, ho1⟩ | ⟨hg, rfl⟩
  · have HO1 := Lib.hid ho1; have HG := Lib.hid hg
    clear ho1 hg
    go_wp2_with fail
    refine (QN.out _ HA.out).mono ?_
    rintro e w2 ⟨hb2, hr2⟩
    have hbB : Below W0.heap.size W0 w2 := HA.out.trans (hb2.mono HA.out.size)
    have HB := Lib.hid hbB; have HB12 := Lib.hid hb2
    have n2 := (HUV.out _ hbB).news
    clear hb2 n1 hbB
    rcases hr2 with ⟨hn, A2, c2, rfl, f2, g2, ho2⟩ | ⟨hn, rfl⟩
    · have HO2 := Lib.hid ho2
      clear ho2
      by_cases hz : u.news.length = 0
      · have hS := show sayF u d E = ([], 0) by unfold sayF; rw [hn, HG.out]; simp [List.eq_nil_of_length_eq_zero hz]
        rw [hS] at HPF
        have HNIL := Lib.hid (HFI.out [] (fun _ => rfl))
        clear hS hn
        have HGc := Lib.hid (HO1.out.bytes.below HB12.out)
        have HSc := Lib.hid (At.nil w2 w2.heap.size none : Bytes w2 none [])
        have HNc := Lib.hid HO2.out.bytes
        have QA := fun W => Lib.hid (show Calls Tryz.prog 24 #[.slice none 0 0, .int .i64 ((pxB u.gone).length : Int)] W (RetBytes W (be16 ((pxB u.gone).length : Int))) from refPut16_any none 0 0 [] rfl ((pxB u.gone).length : Int) W (by simp) (At.nil _ _ _) (by omega) (by have := HL.out; omega))
        obtain ⟨p1, hp1⟩ : ∃ p, p = be16 ((pxB u.gone).length : Int) := ⟨_, rfl⟩
        have HP1 := Lib.hid (show p1.length = 2 by rw [hp1]; rfl)
        obtain ⟨m6, hm6⟩ : ∃ m, m = p1 ++ pxB u.gone := ⟨_, rfl⟩
        obtain ⟨m7, hm7⟩ : ∃ m, m = m6 ++ be16 ((([] : List UInt8)).length : Int) := ⟨_, rfl⟩
        obtain ⟨m8, hm8⟩ : ∃ m, m = m7 ++ ([] : List UInt8) := ⟨_, rfl⟩
        obtain ⟨m9, hm9⟩ : ∃ m, m = m8 ++ pxB u.news := ⟨_, rfl⟩
        have HM9 := Lib.hid (show updB (pxB u.gone) (([] : List UInt8)) (pxB u.news) = m9 by rw [hm9, hm8, hm7, hm6, hp1]; unfold updB; simp only [List.append_assoc])
        have e7 : (be16 ((([] : List UInt8)).length : Int)).length = 2 := rfl
        have HLM := Lib.hid (show m6.length ≤ 600000 ∧ m7.length ≤ 700000 ∧ m8.length ≤ 900000 ∧ (([] : List UInt8)).length ≤ 100000 by
          have h1 := HP1.out; have h2 := HL.out
          have a6 : m6.length = p1.length + (pxB u.gone).length := by rw [hm6, List.length_append]
          have a7 : m7.length = m6.length + 2 := by rw [hm7, List.length_append, e7]
          have a8 : m8.length = m7.length + (([] : List UInt8)).length := by rw [hm8, List.length_append]
          have a9 : (([] : List UInt8)).length ≤ 100000 := by first | exact h2.2.2 | simp
          omega)
        have HM6 := Lib.hid hm6; have HM7 := Lib.hid hm7; have HM8 := Lib.hid hm8; have HM9b := Lib.hid hm9
        rw [← hp1] at QA
        clear hp1 hm6 hm7 hm8 hm9 e7
        rw [HM9.out] at HNIL HPF
        go_wp2_with fail
        refine (QA _).out.mono ?_
        rintro e w5 ⟨A5, c5, rfl, f5, g5, ho5, hb5⟩
        have HB5 := Lib.hid hb5
        have HO5 := Lib.hid ho5
        clear ho5 hb5
        go_wp2_with (at_builtin; refine wpList_append_bytes isBytes rfl (.tmp 49) (.tmp 50) rfl w2 (.slice A5 p1.length c5) p1 rfl HO5.out A1 (pxB u.gone) _ c1 rfl rfl (HGc.out.below HB5.out) (by have := HP1.out; have := HL.out; omega) HB5.out ?_)
        intro v6 w6 ho6 hg6 hb6
        rw [← HM6.out] at ho6
        obtain ⟨A6, c6, rfl, f6, g6⟩ := ho6.form
        have HB6 := Lib.hid hb6; have HO6 := Lib.hid ho6
        have Q7 := Lib.hid (refPut16_any A6 m6.length c6 m6 rfl ((([] : List UInt8)).length : Int) w6 (by have := HLM.out; omega) ho6.bytes (by omega) (by have := HLM.out; omega))
        rw [← HM7.out] at Q7
        clear ho6 hg6 hb6
        go_wp2_with fail
        refine Q7.out.mono ?_
        rintro e w7 ⟨A7, c7, rfl, f7, g7, ho7, hb7⟩
        have HB7 := Lib.hid (HB6.out.trans (hb7.mono HB6.out.size)); have HO7 := Lib.hid (Own.lower ho7 HB6.out.size)
        clear ho7 hb7
        go_wp2_with (at_builtin; refine wpList_append_bytes isBytes rfl (.tmp 56) (.tmp 57) rfl w2 (.slice A7 m7.length c7) m7 rfl HO7.out none (([] : List UInt8)) 0 0 rfl rfl (At.nil _ _ _) (by have h := HLM.out.2.1; simp only [List.length_nil]; omega) HB7.out ?_)
        intro v8 w8 ho8 hg8 hb8
        replace ho8 : Own w8 w2.heap.size 5 v8 m8 := by (have e8 := HM8.out; (try simp only [List.append_nil] at ho8 e8); rw [e8]; exact ho8)
        obtain ⟨A8, c8, rfl, f8, g8⟩ := ho8.form
        have HB8 := Lib.hid hb8; have HO8 := Lib.hid ho8
        clear ho8 hg8 hb8
        go_wp2_with (at_builtin; refine wpList_append_bytes isBytes rfl (.tmp 59) (.tmp 60) rfl w2 (.slice A8 m8.length c8) m8 rfl HO8.out A2 (pxB u.news) _ c2 rfl rfl (HNc.out.below HB8.out) (by have := HLM.out; have := HL.out; omega) HB8.out ?_)
        intro v9 w9 ho9 hg9 hb9
        rw [← HM9b.out] at ho9
        obtain ⟨A9, c9, rfl, f9, g9⟩ := ho9.form
        have HB9 := Lib.hid hb9; have HO9 := Lib.hid ho9
        clear ho9 hg9 hb9
        by_cases hfit : m9.length ≤ 4077
        · have HE := Lib.hid (HPF.out.2.1 (by first | trivial | rfl) (HNIL.out.2 hfit))
          go_wp2_with fail
          go_ret2
          rw [HE.out]
          exact ⟨A9, c9, rfl, f9, g9, Own.lower HO9.out (HBW.out _ HB.out).size, (HBW.out _ HB.out).trans (HB9.out.mono (HBW.out _ HB.out).size)⟩
        · have HE := Lib.hid (HPF.out.2.2 (by first | trivial | rfl) (fun hf => hfit (HNIL.out.1 hf)))
          have hfit2 : 4077 < m9.length := by omega
          go_wp2_with fail
          go_ret2
          rw [HE.out]
          exact ⟨none, 0, rfl, Nat.le_refl _, Nat.zero_le _, Own.nil _ _ _, (HBW.out _ HB.out).trans (HB9.out.mono (HBW.out _ HB.out).size)⟩
      · have hS := show sayF u d E = (d, E) by unfold sayF; rw [hn, HG.out]; simp; intro e; rw [e] at hz; exact absurd rfl hz
        rw [hS] at HPF
        have HNIL := Lib.hid (HFI.out d (fun e => absurd (by rw [e]; rfl) hz))
        clear hS hn
        have hzp : 0 < u.news.length := by omega
        go_wp2_with (refine wpList_loadA _ rfl (.tmp 37) rfl w.heap.size 1 u.attrs rfl (HUV.out _ HB.out).attrs ?_)
        refine (QP.out _ HB.out).mono ?_
        rintro e w3 ⟨A3, c3, rfl, f3, g3, ho3, hb3⟩
        have HC := Lib.hid (HB.out.trans (hb3.mono HB.out.size)); have HBC := Lib.hid hb3
        have HO3 := Lib.hid ho3
        clear ho3 hb3 n2
        rcases hE with rfl | rfl
        · skip
          have HGc := Lib.hid ((HO1.out.bytes.below HB12.out).below HBC.out)
          have HSc := Lib.hid HO3.out.bytes
          have HNc := Lib.hid (HO2.out.bytes.below HBC.out)
          have QA := fun W => Lib.hid (show Calls Tryz.prog 24 #[.slice none 0 0, .int .i64 ((pxB u.gone).length : Int)] W (RetBytes W (be16 ((pxB u.gone).length : Int))) from refPut16_any none 0 0 [] rfl ((pxB u.gone).length : Int) W (by simp) (At.nil _ _ _) (by omega) (by have := HL.out; omega))
          obtain ⟨p1, hp1⟩ : ∃ p, p = be16 ((pxB u.gone).length : Int) := ⟨_, rfl⟩
          have HP1 := Lib.hid (show p1.length = 2 by rw [hp1]; rfl)
          obtain ⟨m6, hm6⟩ : ∃ m, m = p1 ++ pxB u.gone := ⟨_, rfl⟩
          obtain ⟨m7, hm7⟩ : ∃ m, m = m6 ++ be16 ((d).length : Int) := ⟨_, rfl⟩
          obtain ⟨m8, hm8⟩ : ∃ m, m = m7 ++ d := ⟨_, rfl⟩
          obtain ⟨m9, hm9⟩ : ∃ m, m = m8 ++ pxB u.news := ⟨_, rfl⟩
          have HM9 := Lib.hid (show updB (pxB u.gone) (d) (pxB u.news) = m9 by rw [hm9, hm8, hm7, hm6, hp1]; unfold updB; simp only [List.append_assoc])
          have e7 : (be16 ((d).length : Int)).length = 2 := rfl
          have HLM := Lib.hid (show m6.length ≤ 600000 ∧ m7.length ≤ 700000 ∧ m8.length ≤ 900000 ∧ (d).length ≤ 100000 by
            have h1 := HP1.out; have h2 := HL.out
            have a6 : m6.length = p1.length + (pxB u.gone).length := by rw [hm6, List.length_append]
            have a7 : m7.length = m6.length + 2 := by rw [hm7, List.length_append, e7]
            have a8 : m8.length = m7.length + (d).length := by rw [hm8, List.length_append]
            have a9 : (d).length ≤ 100000 := by first | exact h2.2.2 | simp
            omega)
          have HM6 := Lib.hid hm6; have HM7 := Lib.hid hm7; have HM8 := Lib.hid hm8; have HM9b := Lib.hid hm9
          rw [← hp1] at QA
          clear hp1 hm6 hm7 hm8 hm9 e7
          rw [HM9.out] at HNIL HPF
          go_wp2_with fail
          refine (QA _).out.mono ?_
          rintro e w5 ⟨A5, c5, rfl, f5, g5, ho5, hb5⟩
          have HB5 := Lib.hid hb5
          have HO5 := Lib.hid ho5
          clear ho5 hb5
          go_wp2_with (at_builtin; refine wpList_append_bytes isBytes rfl (.tmp 49) (.tmp 50) rfl w3 (.slice A5 p1.length c5) p1 rfl HO5.out A1 (pxB u.gone) _ c1 rfl rfl (HGc.out.below HB5.out) (by have := HP1.out; have := HL.out; omega) HB5.out ?_)
          intro v6 w6 ho6 hg6 hb6
          rw [← HM6.out] at ho6
          obtain ⟨A6, c6, rfl, f6, g6⟩ := ho6.form
          have HB6 := Lib.hid hb6; have HO6 := Lib.hid ho6
          have Q7 := Lib.hid (refPut16_any A6 m6.length c6 m6 rfl ((d).length : Int) w6 (by have := HLM.out; omega) ho6.bytes (by omega) (by have := HLM.out; omega))
          rw [← HM7.out] at Q7
          clear ho6 hg6 hb6
          go_wp2_with fail
          refine Q7.out.mono ?_
          rintro e w7 ⟨A7, c7, rfl, f7, g7, ho7, hb7⟩
          have HB7 := Lib.hid (HB6.out.trans (hb7.mono HB6.out.size)); have HO7 := Lib.hid (Own.lower ho7 HB6.out.size)
          clear ho7 hb7
          go_wp2_with (at_builtin; refine wpList_append_bytes isBytes rfl (.tmp 56) (.tmp 57) rfl w3 (.slice A7 m7.length c7) m7 rfl HO7.out A3 (d) _ c3 rfl rfl (HSc.out.below HB7.out) (by have := HLM.out; omega) HB7.out ?_)
          intro v8 w8 ho8 hg8 hb8
          replace ho8 : Own w8 w3.heap.size 5 v8 m8 := by (have e8 := HM8.out; (try simp only [List.append_nil] at ho8 e8); rw [e8]; exact ho8)
          obtain ⟨A8, c8, rfl, f8, g8⟩ := ho8.form
          have HB8 := Lib.hid hb8; have HO8 := Lib.hid ho8
          clear ho8 hg8 hb8
          go_wp2_with (at_builtin; refine wpList_append_bytes isBytes rfl (.tmp 59) (.tmp 60) rfl w3 (.slice A8 m8.length c8) m8 rfl HO8.out A2 (pxB u.news) _ c2 rfl rfl (HNc.out.below HB8.out) (by have := HLM.out; have := HL.out; omega) HB8.out ?_)
          intro v9 w9 ho9 hg9 hb9
          rw [← HM9b.out] at ho9
          obtain ⟨A9, c9, rfl, f9, g9⟩ := ho9.form
          have HB9 := Lib.hid hb9; have HO9 := Lib.hid ho9
          clear ho9 hg9 hb9
          by_cases hfit : m9.length ≤ 4077
          · have HE := Lib.hid (HPF.out.2.1 (by first | trivial | rfl) (HNIL.out.2 hfit))
            go_wp2_with fail
            go_ret2
            rw [HE.out]
            exact ⟨A9, c9, rfl, f9, g9, Own.lower HO9.out (HBW.out _ HC.out).size, (HBW.out _ HC.out).trans (HB9.out.mono (HBW.out _ HC.out).size)⟩
          · have HE := Lib.hid (HPF.out.2.2 (by first | trivial | rfl) (fun hf => hfit (HNIL.out.1 hf)))
            have hfit2 : 4077 < m9.length := by omega
            go_wp2_with fail
            go_ret2
            rw [HE.out]
            exact ⟨none, 0, rfl, Nat.le_refl _, Nat.zero_le _, Own.nil _ _ _, (HBW.out _ HC.out).trans (HB9.out.mono (HBW.out _ HC.out).size)⟩
        · have HE := Lib.hid (HPF.out.1 (by decide))
          go_wp2_with fail
          go_ret2
          rw [HE.out]
          exact ⟨none, 0, rfl, Nat.le_refl _, Nat.zero_le _, Own.nil _ _ _, HBW.out _ HC.out⟩
    · have hS := show sayF u d E = ([], 1) by unfold sayF; rw [hn, HG.out]; rfl
      rw [hS] at HPF
      have HE := Lib.hid (HPF.out.1 (by decide))
      clear hn hS
      go_wp2_with fail
      go_ret2
      rw [HE.out]
      exact ⟨none, 0, rfl, Nat.le_refl _, Nat.zero_le _, Own.nil _ _ _, HBW.out _ HB.out⟩
  · have hS := show sayF u d E = ([], 1) by unfold sayF; rw [hg]; rfl
    rw [hS] at HPF
    have HE := Lib.hid (HPF.out.1 (by decide))
    clear hg hS
    go_wp2_with fail
    refine (QN.out _ HA.out).mono ?_
    rintro e w2 ⟨hb2, hr2⟩
    have HB := Lib.hid (HA.out.trans (hb2.mono HA.out.size))
    clear hb2
    rcases hr2 with ⟨hn, A2, c2, rfl, f2, g2, ho2⟩ | ⟨hn, rfl⟩
    · clear hn ho2
      go_wp2_with fail
      go_ret2
      rw [HE.out]
      exact ⟨none, 0, rfl, Nat.le_refl _, Nat.zero_le _, Own.nil _ _ _, HBW.out _ HB.out⟩
    · clear hn
      go_wp2_with fail
      go_ret2
      rw [HE.out]
      exact ⟨none, 0, rfl, Nat.le_refl _, Nat.zero_le _, Own.nil _ _ _, HBW.out _ HB.out⟩
end Go.Proofs.YtnaangnmlbgmkaaGreatDoor

/-
  Attributes that say the same as others, wherever their rows lie.
-/
namespace Go.Proofs.YtnaangnmlbgmkaaGreatDoor
set_option linter.unusedVariables false
set_option linter.unusedSimpArgs false
open Go.RowKit

def likeA (x a : Av) : Prop := x.org = a.org ∧ x.path.map Sg.abs = a.path.map Sg.abs ∧ x.next = a.next ∧ x.med = a.med ∧ x.pref = a.pref ∧ x.atomic = a.atomic ∧ x.has = a.has ∧ x.aas = a.aas ∧ x.aad = a.aad ∧ x.comms = a.comms ∧ x.raws.map Rw.abs = a.raws.map Rw.abs
theorem likeA.refl (a : Av) : likeA a a := ⟨rfl, rfl, rfl, rfl, rfl, rfl, rfl, rfl, rfl, rfl, rfl⟩
theorem likeA.trans {x y z : Av} (h : likeA x y) (k : likeA y z) : likeA x z := by
  obtain ⟨h1, h2, h3, h4, h5, h6, h7, h8, h9, h10, h11⟩ := h
  obtain ⟨k1, k2, k3, k4, k5, k6, k7, k8, k9, k10, k11⟩ := k
  exact ⟨h1.trans k1, h2.trans k2, h3.trans k3, h4.trans k4, h5.trans k5, h6.trans k6, h7.trans k7, h8.trans k8, h9.trans k9, h10.trans k10, h11.trans k11⟩
theorem right_abs5 {L M : List Sg} (h : L.map Sg.abs = M.map Sg.abs) : rightB L = rightB M := by
  have h1 : L.length = M.length := by have := congrArg List.length h; simpa using this
  have h2 : totN L = totN M := by
    have e : ∀ K : List Sg, totN K = ((K.map Sg.abs).map fun s => s.2.length).sum := fun K => by
      unfold totN
      rw [List.map_map]
      rfl
    rw [e, e, h]
  have h3 : L.all okS = M.all okS := by
    have e : ∀ K : List Sg, K.all okS = (K.map Sg.abs).all (fun s => okS ⟨s.1, none, 0, s.2⟩) := fun K => by
      rw [List.all_map]
      rfl
    rw [e, e, h]
  unfold rightB
  rw [h1, h2, h3]
theorem okB_like {x a : Av} (h : likeA x a) : x.okB = a.okB := by
  obtain ⟨h1, h2, h3, h4, h5, h6, h7, h8, h9, h10, h11⟩ := h
  have hl : x.raws.length = a.raws.length := by have := congrArg List.length h11; simpa using this
  unfold Av.okB
  rw [h1, right_abs5 h2, h4, h5, h7, h8, h9, h10, h11, hl]
theorem avarg_like {w W : World} {x a : Av} (h : likeA x a) (ha : AvArg w a) (hx : x.In W W.heap.size) : AvArg W x := by
  obtain ⟨h1, h2, h3, h4, h5, h6, h7, h8, h9, h10, h11⟩ := h
  refine ⟨hx, by rw [h10]; exact ha.comms, fun s hs => ?_, fun s hs => ?_, by rw [h3]; exact ha.next, by rw [h8]; exact ha.aas, by rw [h9]; exact ha.aad, by rw [h1]; exact ha.org, by rw [h4]; exact ha.med, by rw [h5]; exact ha.pref⟩
  · have hm : Sg.abs s ∈ a.path.map Sg.abs := by rw [← h2]; exact List.mem_map.2 ⟨s, hs, rfl⟩
    obtain ⟨t, ht, e⟩ := List.mem_map.1 hm
    have hf := ha.fit t ht
    simp only [Sg.abs, Prod.mk.injEq] at e
    unfold Sg.Fit at hf ⊢
    rw [← e.1, ← e.2]
    exact hf
  · have hm : Rw.abs s ∈ a.raws.map Rw.abs := by rw [← h11]; exact List.mem_map.2 ⟨s, hs, rfl⟩
    obtain ⟨t, ht, e⟩ := List.mem_map.1 hm
    have hf := ha.raws t ht
    simp only [Rw.abs, Prod.mk.injEq] at e
    have hc := hx.each s hs
    unfold RwArg at hf ⊢
    rw [← e.1, ← e.2.1]
    exact ⟨hc.1, hc.2, hf.2.2.1, hf.2.2.2⟩
theorem like_small {x a : Av} (h : likeA x a) (hl : a.path.length ≤ 1000000 ∧ (∀ s ∈ a.path, s.nums.length ≤ 1000000000) ∧ a.comms.length ≤ 1000000 ∧ a.raws.length ≤ 1000000 ∧ ∀ s ∈ a.raws, s.data.length ≤ 1000000) :
    x.path.length ≤ 1000000 ∧ (∀ s ∈ x.path, s.nums.length ≤ 1000000000) ∧ x.comms.length ≤ 1000000 ∧ x.raws.length ≤ 1000000 ∧ ∀ s ∈ x.raws, s.data.length ≤ 1000000 := by
  obtain ⟨h1, h2, h3, h4, h5, h6, h7, h8, h9, h10, h11⟩ := h
  have e1 : x.path.length = a.path.length := by have := congrArg List.length h2; simpa using this
  have e2 : x.raws.length = a.raws.length := by have := congrArg List.length h11; simpa using this
  refine ⟨by rw [e1]; exact hl.1, fun s hs => ?_, by rw [h10]; exact hl.2.2.1, by rw [e2]; exact hl.2.2.2.1, fun s hs => ?_⟩
  · have hm : Sg.abs s ∈ a.path.map Sg.abs := by rw [← h2]; exact List.mem_map.2 ⟨s, hs, rfl⟩
    obtain ⟨t, ht, e⟩ := List.mem_map.1 hm
    simp only [Sg.abs, Prod.mk.injEq] at e
    rw [← e.2]; exact hl.2.1 t ht
  · have hm : Rw.abs s ∈ a.raws.map Rw.abs := by rw [← h11]; exact List.mem_map.2 ⟨s, hs, rfl⟩
    obtain ⟨t, ht, e⟩ := List.mem_map.1 hm
    simp only [Rw.abs, Prod.mk.injEq] at e
    rw [← e.2.2]; exact hl.2.2.2.2 t ht
/-- What is wrong among what is left is wrong in all. -/
theorem pxsOk_app (L M : List Px) : pxsOk (L ++ M) = (pxsOk L && pxsOk M) := by unfold pxsOk; rw [List.all_append]
theorem say_left {u l : Uv} {G N : List Px} {d d2 : List UInt8} (hg : G ++ l.gone = u.gone) (hn : N ++ l.news = u.news) (h : (sayF l d 0).2 ≠ 0) : (sayF u d2 0).2 = 1 ∧ (sayF l d 0).2 = 1 := by
  have h1 : (pxsOk l.gone && pxsOk l.news) = false := by
    cases hb : (pxsOk l.gone && pxsOk l.news) with
    | false => rfl
    | true =>
      exfalso
      apply h
      unfold sayF
      rw [if_pos hb]
      split <;> rfl
  have h2 : (pxsOk u.gone && pxsOk u.news) = false := by
    rw [← hg, ← hn, pxsOk_app, pxsOk_app]
    cases ha : pxsOk l.gone
    · simp
    · rw [ha, Bool.true_and] at h1
      rw [h1]
      simp
  constructor
  · unfold sayF
    rw [if_neg (by rw [h2]; decide)]
  · unfold sayF
    rw [if_neg (by rw [h1]; decide)]
end Go.Proofs.YtnaangnmlbgmkaaGreatDoor

/-
  An update, that comes in as a statement's argument.
-/
namespace Go.Proofs.YtnaangnmlbgmkaaGreatDoor
open Go.ChangeShapes Go.WideShapes Go.ChangeAt Go.RowKit
set_option linter.unusedVariables false
set_option linter.unusedSimpArgs false

theorem three_list5 {α : Type} {l : List α} (h : l.length = 3) : ∃ a b c, l = [a, b, c] := by
  match l, h with
  | [a, b, c], _ => exact ⟨a, b, c, rfl⟩
theorem thirteen_list {α : Type} {l : List α} (h : l.length = 13) : ∃ a b c d e f g h i j k m n, l = [a, b, c, d, e, f, g, h, i, j, k, m, n] := by
  match l, h with
  | [a, b, c, d, e, f, g, h, i, j, k, m, n], _ => exact ⟨a, b, c, d, e, f, g, h, i, j, k, m, n, rfl⟩
theorem cu5 : Tryz.prog.cellsOf 30 = 13 := by kernel_rfl
theorem cps5 : Tryz.prog.cellsOf 22 = 1 := by kernel_rfl
section
variable {H : Type} {enc : TypeId × Value → H} {w : World}
set_option maxRecDepth 100000 in
set_option maxHeartbeats 1600000 in
/-- An update that came in as it is. -/
theorem upd_arg {b0 : Nat} {v : Value} {d : DataW H} {p : List MemPlace} (hv : Value.okWide Tryz.prog w .any b0 30 v) (h : DataW.Trod enc Tryz.prog w 0 (fun _ => true) true 30 v d p) :
    ∃ u : Uv, v = .agg u.row.toArray ∧ u.In w w.heap.size ∧ AvArg w u.attrs ∧ ∀ N, (∀ x ∈ d.weights Tryz.prog 30, x ≤ N) → Wt N u.attrs.path := by
  obtain ⟨cs, rfl, hsz⟩ := okWide_struct Tryz.underlying30 hv
  obtain ⟨fuel, hf⟩ := h
  obtain ⟨l⟩ := cs
  obtain ⟨c0, c1, c2, c3, c4, c5, c6, c7, c8, c9, c10, c11, c12, rfl⟩ := thirteen_list (l := l) (by rw [cu5] at hsz; simpa using hsz)
  obtain ⟨xs, m, _, hx, _, hlen, hg⟩ := DataW.trod_struct Tryz.underlying30 hf
  obtain ⟨y0, y1, y2, rfl⟩ := three_list5 hlen
  have g0 := hg 0 _ rfl
  have g1 := hg 1 _ rfl
  have g2 := hg 2 _ rfl
  have q0 : DataW.trod enc Tryz.prog w 0 (fun _ => true) true m 22 ((List.drop 0 [c0, c1, c2, c3, c4, c5, c6, c7, c8, c9, c10, c11, c12]).take (Tryz.prog.cellsOf 22)) = some y0 := g0
  rw [cps5] at q0
  have f0 : DataW.trod enc Tryz.prog w 0 (fun _ => true) true m 22 [c0] = some y0 := q0
  have q1 : DataW.trod enc Tryz.prog w 0 (fun _ => true) true m 28 ((List.drop 1 [c0, c1, c2, c3, c4, c5, c6, c7, c8, c9, c10, c11, c12]).take (Tryz.prog.cellsOf 28)) = some y1 := g1
  rw [ca15] at q1
  have f1 : DataW.trod enc Tryz.prog w 0 (fun _ => true) true m 28 [c1, c2, c3, c4, c5, c6, c7, c8, c9, c10, c11] = some y1 := q1
  have q2 : DataW.trod enc Tryz.prog w 0 (fun _ => true) true m 22 ((List.drop 12 [c0, c1, c2, c3, c4, c5, c6, c7, c8, c9, c10, c11, c12]).take (Tryz.prog.cellsOf 22)) = some y2 := g2
  rw [cps5] at q2
  have f2 : DataW.trod enc Tryz.prog w 0 (fun _ => true) true m 22 [c12] = some y2 := q2
  obtain ⟨A0, l0, n0, rfl⟩ := hdr_in Tryz.underlying22 f0
  obtain ⟨A2, l2, n2, rfl⟩ := hdr_in Tryz.underlying22 f2
  obtain ⟨L0, hL0, s0, s01, s02, s03⟩ := pfxs_in (p := y0.2) (d := y0.1) ⟨m, f0⟩
  obtain ⟨L2, hL2, s2, s21, s22, s23⟩ := pfxs_in (p := y2.2) (d := y2.1) ⟨m, f2⟩
  subst hL0 hL2
  obtain ⟨org, pa, pc, L, next, med, pref, atomic, has, aas, aad, ca, cc, Z, ra, rc, R, hcs, h1, h2, h3, h4, h5, h6, h7, b1, b2, b3, hw⟩ := attrs_in (y := y1) f1 rfl
  refine ⟨⟨A0, n0, L0, ⟨org, pa, pc, L, next, med, pref, atomic, has, aas, aad, ca, cc, Z, ra, rc, R⟩, A2, n2, L2⟩, ?_, ⟨s0, ⟨s01, s02⟩, s03, h1, s2, ⟨s21, s22⟩, s23⟩, ⟨h1, h2, h3, h4, h5, h6, h7, b1, b2, b3⟩, fun N hN => hw N fun x hxx => hN x ?_⟩
  · have e : [c1, c2, c3, c4, c5, c6, c7, c8, c9, c10, c11] ++ [Value.slice A2 L2.length n2] = _ := congrArg (· ++ [Value.slice A2 L2.length n2]) hcs
    exact congrArg (fun l => Value.agg (List.toArray (Value.slice A0 L0.length n0 :: l))) e
  · have hd := congrArg Prod.fst hx
    dsimp only at hd
    rw [hd]
    simp only [DataW.weights, Tryz.underlying30, DataW.weightsEach, List.map_cons, List.map_nil, List.mem_append]
    exact .inr (.inl hxx)
end
end Go.Proofs.YtnaangnmlbgmkaaGreatDoor

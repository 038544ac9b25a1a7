/-
  Texts of this seat, put together: Frame4, Aggr4, Agg4, Few4, FrameT4.
-/
import Derived.Deep.Slices
import Derived.Deep.Fields
import GoSem.ClaimJoined
import Derived.Deep.RegionLaw
import Derived.Laws.Cells
import Derived.Laws.IdiomCopy
import Derived.Test.YtkpbldhkoobnaaaDoorTie
import Derived.Test.YtkpbldhkoobnaaaDoorCards
import Derived.Lib.LaidU8
import Derived.Deep.DeepHandedRow
import Derived.Test.YtkpbldhkoobnaaaDoorAttr4Mg
import Derived.Test.YtkpbldhkoobnaaaDoorMg1
import Derived.Test.YtkpbldhkoobnaaaDoorLook4Mg
/-
  Attributes that come in as a statement's argument (written by gen04f.py).
-/
namespace Go.Proofs.YtkpbldhkoobnaaaDoor
open Go.ChangeShapes Go.WideShapes Go.ChangeAt Go.RowKit
set_option linter.unusedVariables false
set_option linter.unusedSimpArgs false

/-- A slice of numbers of four bytes that came in. -/
theorem u32_in {w : World} {x : Addr} {len cap : Nat} {zs : List Int} (hl : len ≤ cap) (hz : zs.length = cap) (hc : ∀ i, i < zs.length → w.cell? (x.add i) = some (.int .u32 (zs.getD i 0))) (hwz : ∀ n ∈ zs, (Lit.int .u32 n).wf = true) :
    ∃ z : List Nat, z.length = len ∧ At32 w w.heap.size (some x) z ∧ ∀ y ∈ z, y < 4294967296 := by
  have hz1 : ((zs.take len).map fun n => n.toNat).length = len := by simp; omega
  refine ⟨(zs.take len).map fun n => n.toNat, hz1, fun hne => ?_, fun y hy => ?_⟩
  · have hpos : 0 < len := by
      rcases Nat.eq_zero_or_pos len with h0 | h0
      · subst h0; simp at hne
      · exact h0
    obtain ⟨b, off, spot⟩ := x
    have h0 := hc 0 (by omega)
    have hspot : spot = none := by simpa [Addr.add] using World.cell?_spot h0
    subst hspot
    refine ⟨b, off, rfl, World.block_lt_of_cell? w _ h0, fun j hj => ?_⟩
    have hj' : j < len := by rw [hz1] at hj; exact hj
    have h1 := hc j (by omega)
    rw [Addr.add_lit] at h1
    rw [h1]
    have hjz : j < zs.length := by omega
    have hm := hwz zs[j] (List.getElem_mem _)
    have hr := bounds_u32 hm
    simp [List.getD, hjz, hj']
    omega
  · obtain ⟨n, hn, rfl⟩ := List.mem_map.1 hy
    have hr := bounds_u32 (hwz n (List.mem_of_mem_take hn))
    omega

theorem two_of {α : Type} {l : List α} (h : l.length = 2) : ∃ a b, l = [a, b] := by
  match l, h with
  | [a, b], _ => exact ⟨a, b, rfl⟩
theorem one_of {α : Type} {a b c : α} {n : Nat} (hn : n = 1) (h : (List.drop 0 [a, b]).take n = [c]) : a = c := by
  subst hn; simpa using h
theorem two_one_of {α : Type} {a b c : α} {n : Nat} (hn : n = 1) (h : (List.drop 1 [a, b]).take n = [c]) : b = c := by
  subst hn; simpa using h
theorem ci : Tryd.prog.cellsOf 3 = 1 := by kernel_rfl
theorem cs1 : Tryd.prog.cellsOf 24 = 1 := by kernel_rfl
theorem bu32 : Tryd.prog.bytesOf 23 = 4 := by kernel_rfl
section
variable {H : Type} {enc : TypeId × Value → H} {w : World}
theorem weightsAll_mem {P : Program} {e : TypeId} {l : List (DataW H)} {d : DataW H} (h : d ∈ l) : ∀ x ∈ d.weights P e, x ∈ DataW.weightsAll P e l := by
  induction l with
  | nil => cases h
  | cons a r ih =>
    intro x hx
    simp only [DataW.weightsAll]
    rw [List.mem_append]
    rcases List.mem_cons.1 h with rfl | h
    · exact .inl hx
    · exact .inr (ih h x hx)
/-- One segment that came in. -/
theorem seg_in_w {n : Nat} {cs : List Value} {y : DataW H × List MemPlace} (h : DataW.trod enc Tryd.prog w 0 (fun _ => true) true n 87 cs = some y) (hl : cs.length = 2) :
    ∃ s : Sg, cs = [.int .i64 s.kind, .slice s.adr s.nums.length s.cap] ∧ Sg.Ok w w.heap.size s ∧ ∀ N, (∀ u ∈ y.1.weights Tryd.prog 87, u ≤ N) → s.nums.length * 4 ≤ N := by
  obtain ⟨y0, y1, n', hx, _, h0, h1⟩ := trod_struct2 Tryd.underlying87 h
  obtain ⟨c0, c1, rfl⟩ := two_of hl
  obtain ⟨k, e0, _, wk⟩ := DataW.trod_int Tryd.underlying3 h0
  obtain rfl : c0 = .int .i64 k := one_of ci e0
  rcases open_ints Tryd.underlying24 Tryd.underlying23 (by kernel_rfl) h1 with ⟨e1, _⟩ | ⟨a, len, cap, zs, e1, _, hl9, hm, hz, hy1, hcell, hwz⟩
  · obtain rfl : c1 = .slice none 0 0 := two_one_of cs1 e1
    exact ⟨⟨k, none, 0, []⟩, rfl, ⟨Nat.le_refl _, Nat.zero_le _, At32.nil _ _ _, by simp, bounds_i64 wk⟩, fun N _ => by simp⟩
  · obtain rfl : c1 = .slice (some a) len cap := two_one_of cs1 e1
    obtain ⟨z, hz1, hz2, hz3⟩ := u32_in hl9 (cap := cap) (by simpa using hz) hcell hwz
    subst hz1
    refine ⟨⟨k, some a, cap, z⟩, rfl, ⟨hl9, hm, hz2, hz3, bounds_i64 wk⟩, fun N hN => ?_⟩
    have hw : zs.length * 4 ∈ y.1.weights Tryd.prog 87 := by
      rw [hx, hy1]
      simp only [DataW.weights, Tryd.underlying87, Tryd.underlying24, DataW.weightsEach, List.map_cons, List.map_nil, lits, List.length_map, List.length_take, List.length_drop, bu32]
      rw [List.mem_append]
      right
      rw [List.mem_append]
      left
      have e9 : min z.length zs.length + (zs.length - z.length) = zs.length := by
        have : zs.length = cap := by simpa using hz
        omega
      rw [e9]
      exact List.mem_cons_self
    have h9 := hN _ hw
    have h8 : zs.length = cap := by simpa using hz
    show z.length * 4 ≤ N
    omega

/-- A path that came in. -/
theorem segs_in_w {a : Option Addr} {len cap : Nat} {d : DataW H} {p : List MemPlace} (h : DataW.Trod enc Tryd.prog w 0 (fun _ => true) true 22 (.slice a len cap) d p) :
    ∃ L : List Sg, L.length = len ∧ Segs w w.heap.size a L ∧ len ≤ cap ∧ cap ≤ maxLen ∧ ∀ N, (∀ u ∈ d.weights Tryd.prog 22, u ≤ N) → ∀ s ∈ L, s.nums.length * 4 ≤ N := by
  obtain ⟨fuel, hf⟩ := h
  rcases Go.Deep.open_slice Tryd.underlying22 hf with ⟨hcs, _⟩ | ⟨x, l, c, m, n, D, Pl, hcs, _, hl, hm, hmm, hx, hi⟩
  · simp [Value.cells] at hcs
    obtain ⟨rfl, rfl, rfl⟩ := hcs
    exact ⟨[], rfl, Segs.nil _ _ _, Nat.le_refl _, Nat.zero_le _, fun N _ s hs => by cases hs⟩
  · simp [Value.cells] at hcs
    obtain ⟨rfl, rfl, rfl⟩ := hcs
    have hmc : m = cap := by simpa using hmm
    have hC : Tryd.prog.cellsOf 87 = 2 := by kernel_rfl
    have one : ∀ i, i < len → ∃ s : Sg, w.cell? (x.add (i * 2)) = some (.int .i64 s.kind) ∧ w.cell? (x.add (i * 2 + 1)) = some (.slice s.adr s.nums.length s.cap) ∧ Sg.Ok w w.heap.size s ∧ ∀ N, (∀ u ∈ (D i).weights Tryd.prog 87, u ≤ N) → s.nums.length * 4 ≤ N := by
      intro i hi2
      obtain ⟨cs', hc, ht'⟩ := hi i (by omega)
      rw [hC] at hc
      obtain ⟨_, hcl, hat⟩ := World.cells?_some hc
      obtain ⟨s, rfl, hok, hwt⟩ := seg_in_w ht' hcl
      have h0 := hat 0 (by omega)
      have h1 := hat 1 (by omega)
      rw [Go.Deep.add_add] at h0 h1
      exact ⟨s, by simpa using h0, by simpa using h1, hok, hwt⟩
    have all : ∀ k, k ≤ len → ∃ L : List Sg, L.length = k ∧ ∀ (j : Nat) (s : Sg), L[j]? = some s → w.cell? (x.add (j * 2)) = some (.int .i64 s.kind) ∧ w.cell? (x.add (j * 2 + 1)) = some (.slice s.adr s.nums.length s.cap) ∧ Sg.Ok w w.heap.size s ∧ ∀ N, (∀ u ∈ (D j).weights Tryd.prog 87, u ≤ N) → s.nums.length * 4 ≤ N := by
      intro k
      induction k with
      | zero => exact fun _ => ⟨[], rfl, fun j s h => by simp at h⟩
      | succ k ih =>
        intro hk
        obtain ⟨L, hL, hall⟩ := ih (by omega)
        obtain ⟨s, hs⟩ := one k (by omega)
        refine ⟨L ++ [s], by simp [hL], fun j t hj => ?_⟩
        by_cases hjk : j < L.length
        · rw [List.getElem?_append_left hjk] at hj
          exact hall j t hj
        · rw [List.getElem?_append_right (by omega)] at hj
          by_cases h0 : j - L.length = 0
          · rw [h0] at hj
            obtain rfl : s = t := by simpa using hj
            obtain rfl : j = k := by omega
            exact hs
          · obtain ⟨q, hq⟩ := Nat.exists_eq_succ_of_ne_zero h0
            rw [hq] at hj
            simp at hj
    obtain ⟨L, hL, hall⟩ := all len (Nat.le_refl _)
    refine ⟨L, hL, fun hne => ?_, hl, hm, fun N hN s hs => ?_⟩
    rotate_left
    · obtain ⟨j, hj, hj2⟩ := List.mem_iff_getElem.1 hs
      refine (hall j s (by rw [List.getElem?_eq_getElem hj, hj2])).2.2.2 N (fun u hu => hN u ?_)
      have hd : d = .slice ((List.range len).map D) ((List.range (m - len)).map fun j => D (len + j)) := by
        have := congrArg Prod.fst hx
        simpa using this
      rw [hd]
      simp only [DataW.weights, Tryd.underlying22]
      refine List.mem_cons_of_mem _ (List.mem_append_left _ (weightsAll_mem (d := D j) ?_ u hu))
      exact List.mem_map.2 ⟨j, List.mem_range.2 (by omega), rfl⟩
    obtain ⟨s0, hs0⟩ : ∃ s, L[0]? = some s := by
      cases L with
      | nil => exact absurd rfl hne
      | cons s L => exact ⟨s, rfl⟩
    obtain ⟨b, off, spot⟩ := x
    have h0 := (hall 0 s0 hs0).1
    have hspot : spot = none := by simpa [Addr.add] using World.cell?_spot h0
    subst hspot
    refine ⟨b, off, rfl, World.block_lt_of_cell? w _ h0, fun j s hj => ?_⟩
    obtain ⟨h1, h2, h3, _⟩ := hall j s hj
    rw [Addr.add_lit] at h1 h2
    exact ⟨h1, h2, h3⟩
end
/-- A path that is short enough holds no more numbers than its longest segment could. -/
theorem few_tot : ∀ (L : List Sg), fewN L ≤ 300 → totN L = fewN L ∨ (fewN L = 300 ∧ ∃ s ∈ L, totN L = s.nums.length) := by
  intro L
  induction L with
  | nil => intro _; exact .inl rfl
  | cons s r ih =>
    intro h
    have e1 : fewN (s :: r) = min s.nums.length 300 + fewN r := by simp [fewN]
    have e2 : totN (s :: r) = s.nums.length + totN r := by simp [totN]
    rw [e1] at h
    rcases ih (by omega) with h1 | ⟨h1, t, ht, h2⟩
    · by_cases hs : s.nums.length ≤ 300
      · left; omega
      · right
        exact ⟨by omega, s, by simp, by omega⟩
    · right
      exact ⟨by omega, t, by simp [ht], by omega⟩
theorem few_tot_le {L : List Sg} (hf : fewB L = true) (h : ∀ s ∈ L, s.nums.length * 4 ≤ 140737488351232) : totN L ≤ 35184372088832 := by
  have h1 : L.length ≤ 12 ∧ fewN L ≤ 300 := of_decide_eq_true hf
  rcases few_tot L h1.2 with h2 | ⟨_, s, hs, h2⟩
  · omega
  · have := h s hs
    omega

theorem cu15 : Tryd.prog.cellsOf 23 = 1 := by kernel_rfl
theorem cb15 : Tryd.prog.cellsOf 4 = 1 := by kernel_rfl
theorem cp15 : Tryd.prog.cellsOf 22 = 1 := by kernel_rfl
theorem cr15 : Tryd.prog.cellsOf 25 = 1 := by kernel_rfl
theorem ca15 : Tryd.prog.cellsOf 27 = 11 := by kernel_rfl
theorem eleven_list {α : Type} {l : List α} (h : l.length = 11) : ∃ a b c d e f g i j k m, l = [a, b, c, d, e, f, g, i, j, k, m] := by
  match l, h with
  | [a, b, c, d, e, f, g, i, j, k, m], _ => exact ⟨a, b, c, d, e, f, g, i, j, k, m, rfl⟩
section
variable {H : Type} {enc : TypeId × Value → H} {w : World}
/-- Any slice: its header. -/
theorem hdr_in {t e : TypeId} {n : Nat} {c : Value} {y : DataW H × List MemPlace} (ht : Tryd.prog.underlying t = some (.slice e)) (h : DataW.trod enc Tryd.prog w 0 (fun _ => true) true n t [c] = some y) : ∃ A l k, c = .slice A l k := by
  rcases Go.Deep.open_slice ht h with ⟨hcs, _⟩ | ⟨x, l, k, m, n, D, Pl, hcs, _⟩
  · exact ⟨none, 0, 0, by simpa using hcs⟩
  · exact ⟨some x, l, k, by simpa using hcs⟩
/-- How much one candidate's path may hold. -/
def Wt (N : Nat) (L : List Sg) : Prop := ∀ s ∈ L, s.nums.length * 4 ≤ N
/-- What one raw attribute is that came in. -/
def RwArg (s : Rw) : Prop := s.data.length ≤ s.cap ∧ s.cap ≤ maxLen ∧ (-9223372036854775808 ≤ s.flags ∧ s.flags ≤ 9223372036854775807) ∧ (-9223372036854775808 ≤ s.ty ∧ s.ty ≤ 9223372036854775807)
theorem cby : Tryd.prog.cellsOf 36 = 1 := by kernel_rfl
theorem three_list {α : Type} {l : List α} (h : l.length = 3) : ∃ a b c, l = [a, b, c] := by
  match l, h with
  | [a, b, c], _ => exact ⟨a, b, c, rfl⟩
theorem raw_in {n : Nat} {cs : List Value} {y : DataW H × List MemPlace} (h : DataW.trod enc Tryd.prog w 0 (fun _ => true) true n 53 cs = some y) (hl : cs.length = 3) :
    ∃ s : Rw, cs = [.int .i64 s.flags, .int .i64 s.ty, .slice s.adr s.data.length s.cap] ∧ At w w.heap.size s.adr s.data ∧ RwArg s := by
  obtain ⟨xs, m, _, hx, _, hlen, hg⟩ := DataW.trod_struct Tryd.underlying53 h
  obtain ⟨y0, y1, y2, rfl⟩ := three_list hlen
  obtain ⟨c0, c1, c2, rfl⟩ := three_list hl
  have g0 := hg 0 _ rfl
  have g1 := hg 1 _ rfl
  have g2 := hg 2 _ rfl
  obtain ⟨k0, e0, _, w0⟩ := DataW.trod_int Tryd.underlying3 g0
  obtain rfl : c0 = .int .i64 k0 := by simpa [ci] using e0
  obtain ⟨k1, e1, _, w1⟩ := DataW.trod_int Tryd.underlying3 g1
  obtain rfl : c1 = .int .i64 k1 := by simpa [ci] using e1
  have q2 : DataW.trod enc Tryd.prog w 0 (fun _ => true) true m 36 ((List.drop 2 [.int .i64 k0, .int .i64 k1, c2]).take (Tryd.prog.cellsOf 36)) = some y2 := g2
  rw [cby] at q2
  have f2 : DataW.trod enc Tryd.prog w 0 (fun _ => true) true m 36 [c2] = some y2 := q2
  rcases open_ints Tryd.underlying36 Tryd.underlying5 (by kernel_rfl) f2 with ⟨e2, _⟩ | ⟨a, len, cap, zs, e2, _, hl9, hm, hz, _, hcell, hwz⟩
  · obtain rfl : c2 = .slice none 0 0 := by simpa using e2
    exact ⟨⟨k0, k1, none, 0, []⟩, rfl, At.nil _ _ _, Nat.le_refl _, Nat.zero_le _, bounds_i64 w0, bounds_i64 w1⟩
  · obtain rfl : c2 = .slice (some a) len cap := by simpa using e2
    obtain ⟨z, hz1, hz2⟩ := bytes_in hl9 (cap := cap) (by simpa using hz) hcell hwz
    subst hz1
    exact ⟨⟨k0, k1, some a, cap, z⟩, rfl, hz2, hl9, hm, bounds_i64 w0, bounds_i64 w1⟩
/-- A row of raw attributes that came in. -/
theorem raws_in {fuel : Nat} {v : Value} {x : DataW H × List MemPlace} (h : DataW.trod enc Tryd.prog w 0 (fun _ => true) true fuel 25 [v] = some x) :
    ∃ (L : List Rw) (A : Option Addr) (c : Nat), v = .slice A L.length c ∧ RwIn w w.heap.size A L ∧ L.length ≤ c ∧ c ≤ maxLen ∧ ∀ s ∈ L, RwArg s := by
  rcases Go.Deep.open_slice Tryd.underlying25 h with ⟨hcs, _⟩ | ⟨x, len, cap, m, n, D, Pl, hcs, _, hl, hm, hmm, hx, hi⟩
  · obtain rfl : v = .slice none 0 0 := by simpa using hcs
    exact ⟨[], none, 0, rfl, RwIn.nil _ _ _, Nat.le_refl _, Nat.zero_le _, fun s hs => by cases hs⟩
  · obtain rfl : v = .slice (some x) len cap := by simpa using hcs
    have hmc : m = cap := by simpa using hmm
    have hC : Tryd.prog.cellsOf 53 = 3 := by kernel_rfl
    have one : ∀ i, i < len → ∃ s : Rw, w.cell? (x.add (i * 3)) = some (.int .i64 s.flags) ∧ w.cell? (x.add (i * 3 + 1)) = some (.int .i64 s.ty) ∧ w.cell? (x.add (i * 3 + 2)) = some (.slice s.adr s.data.length s.cap) ∧ At w w.heap.size s.adr s.data ∧ RwArg s := by
      intro i hi2
      obtain ⟨cs', hc, ht'⟩ := hi i (by omega)
      rw [hC] at hc
      obtain ⟨_, hcl, hat⟩ := World.cells?_some hc
      obtain ⟨s, rfl, hok, hra⟩ := raw_in ht' hcl
      have h0 := hat 0 (by omega)
      have h1 := hat 1 (by omega)
      have h2 := hat 2 (by omega)
      rw [Go.Deep.add_add] at h0 h1 h2
      exact ⟨s, by simpa using h0, by simpa using h1, by simpa using h2, hok, hra⟩
    have all : ∀ k, k ≤ len → ∃ L : List Rw, L.length = k ∧ ∀ (j : Nat) (s : Rw), L[j]? = some s → w.cell? (x.add (j * 3)) = some (.int .i64 s.flags) ∧ w.cell? (x.add (j * 3 + 1)) = some (.int .i64 s.ty) ∧ w.cell? (x.add (j * 3 + 2)) = some (.slice s.adr s.data.length s.cap) ∧ At w w.heap.size s.adr s.data ∧ RwArg s := by
      intro k
      induction k with
      | zero => exact fun _ => ⟨[], rfl, fun j s h => by simp at h⟩
      | succ k ih =>
        intro hk
        obtain ⟨L, hL, hall⟩ := ih (by omega)
        obtain ⟨s, hs⟩ := one k (by omega)
        refine ⟨L ++ [s], by simp [hL], fun j t hj => ?_⟩
        by_cases hjk : j < L.length
        · rw [List.getElem?_append_left hjk] at hj
          exact hall j t hj
        · rw [List.getElem?_append_right (by omega)] at hj
          by_cases h0 : j - L.length = 0
          · rw [h0] at hj
            obtain rfl : s = t := by simpa using hj
            obtain rfl : j = k := by omega
            exact hs
          · obtain ⟨q, hq⟩ := Nat.exists_eq_succ_of_ne_zero h0
            rw [hq] at hj
            simp at hj
    obtain ⟨L, hL, hall⟩ := all len (Nat.le_refl _)
    subst hL
    refine ⟨L, _, _, rfl, fun hne => ?_, hl, hm, fun s hs => ?_⟩
    · obtain ⟨s0, hs0⟩ : ∃ s, L[0]? = some s := by
        cases L with
        | nil => exact absurd rfl hne
        | cons s L => exact ⟨s, rfl⟩
      obtain ⟨b, off, spot⟩ := x
      have h0 := (hall 0 s0 hs0).1
      have hspot : spot = none := by simpa [Addr.add] using World.cell?_spot h0
      subst hspot
      refine ⟨b, off, rfl, World.block_lt_of_cell? w _ h0, fun j s hj => ?_⟩
      obtain ⟨h1, h2, h3, h4, h5⟩ := hall j s hj
      rw [Addr.add_lit] at h1 h2 h3
      exact ⟨h1, by rw [Nat.add_assoc]; exact h2, by rw [Nat.add_assoc]; exact h3, h4⟩
    · obtain ⟨j, hj⟩ := List.getElem?_of_mem hs
      exact (hall j s hj).2.2.2.2
/-- Numbers of four bytes that came in. -/
theorem comms_in {fuel : Nat} {v : Value} {x : DataW H × List MemPlace} (h : DataW.trod enc Tryd.prog w 0 (fun _ => true) true fuel 24 [v] = some x) :
    ∃ (Z : List Nat) (A : Option Addr) (c : Nat), v = .slice A Z.length c ∧ At32 w w.heap.size A Z ∧ Z.length ≤ c ∧ c ≤ maxLen ∧ ∀ y ∈ Z, y < 4294967296 := by
  rcases open_ints Tryd.underlying24 Tryd.underlying23 (by kernel_rfl) h with ⟨e1, _⟩ | ⟨a, len, cap, zs, e1, _, hl9, hm, hz, hy1, hcell, hwz⟩
  · obtain rfl : v = .slice none 0 0 := by simpa using e1
    exact ⟨[], none, 0, rfl, At32.nil _ _ _, Nat.le_refl _, Nat.zero_le _, fun y hy => by cases hy⟩
  · obtain rfl : v = .slice (some a) len cap := by simpa using e1
    obtain ⟨z, hz1, hz2, hz3⟩ := u32_in hl9 (cap := cap) (by simpa using hz) hcell hwz
    subst hz1
    exact ⟨z, some a, cap, rfl, hz2, hl9, hm, hz3⟩
theorem segs_fit {B : Nat} {A : Option Addr} {L : List Sg} (h : Segs w B A L) : ∀ s ∈ L, s.Fit := by
  intro s hs
  obtain ⟨j, hj⟩ := List.getElem?_of_mem hs
  obtain ⟨_, _, _, _, _, _, hok⟩ := h.at hj
  exact ⟨hok.2.2.2.1, hok.2.2.2.2⟩
/-- What attributes are that came in. -/
structure AvArg (w : World) (a : Av) : Prop where
  inn : a.In w w.heap.size
  comms : ∀ x ∈ a.comms, x < 4294967296
  fit : ∀ s ∈ a.path, s.Fit
  raws : ∀ s ∈ a.raws, RwArg s
  next : 0 ≤ a.next ∧ a.next < 4294967296
  aas : 0 ≤ a.aas ∧ a.aas < 4294967296
  aad : 0 ≤ a.aad ∧ a.aad < 4294967296
  org : -9223372036854775808 ≤ a.org ∧ a.org ≤ 9223372036854775807
  med : -9223372036854775808 ≤ a.med ∧ a.med ≤ 9223372036854775807
  pref : -9223372036854775808 ≤ a.pref ∧ a.pref ≤ 9223372036854775807
/-- Attributes that came in. -/
theorem attrs_in {n : Nat} {cs : List Value} {y : DataW H × List MemPlace} (h : DataW.trod enc Tryd.prog w 0 (fun _ => true) true n 27 cs = some y) (hl : cs.length = 11) :
    ∃ (org : Int) (pa : Option Addr) (pc : Nat) (L : List Sg) (next med pref : Int) (atomic has : Bool) (aas aad : Int) (ca : Option Addr) (cc : Nat) (Z : List Nat) (ra : Option Addr) (rc : Nat) (R : List Rw),
      cs = [.int .i64 org, .slice pa L.length pc, .int .u32 next, .int .i64 med, .int .i64 pref, .bool atomic, .bool has, .int .u32 aas, .int .u32 aad, .slice ca Z.length cc, .slice ra R.length rc] ∧ Av.In w w.heap.size ⟨org, pa, pc, L, next, med, pref, atomic, has, aas, aad, ca, cc, Z, ra, rc, R⟩ ∧ (∀ x ∈ Z, x < 4294967296) ∧ (∀ s ∈ L, s.Fit) ∧ (∀ s ∈ R, RwArg s) ∧ (0 ≤ next ∧ next < 4294967296) ∧ (0 ≤ aas ∧ aas < 4294967296) ∧ (0 ≤ aad ∧ aad < 4294967296) ∧
      (-9223372036854775808 ≤ org ∧ org ≤ 9223372036854775807) ∧ (-9223372036854775808 ≤ med ∧ med ≤ 9223372036854775807) ∧ (-9223372036854775808 ≤ pref ∧ pref ≤ 9223372036854775807) ∧
      ∀ N, (∀ u ∈ y.1.weights Tryd.prog 27, u ≤ N) → Wt N L := by
  obtain ⟨xs, m, _, hx, _, hlen, hg⟩ := DataW.trod_struct Tryd.underlying27 h
  obtain ⟨y0, y1, y2, y3, y4, y5, y6, y7, y8, y9, y10, rfl⟩ := eleven_list hlen
  obtain ⟨c0, c1, c2, c3, c4, c5, c6, c7, c8, c9, c10, rfl⟩ := eleven_list hl
  have g0 := hg 0 _ rfl
  have g1 := hg 1 _ rfl
  have g2 := hg 2 _ rfl
  have g3 := hg 3 _ rfl
  have g4 := hg 4 _ rfl
  have g5 := hg 5 _ rfl
  have g6 := hg 6 _ rfl
  have g7 := hg 7 _ rfl
  have g8 := hg 8 _ rfl
  have g9 := hg 9 _ rfl
  have g10 := hg 10 _ rfl
  have q1 : DataW.trod enc Tryd.prog w 0 (fun _ => true) true m 22 ((List.drop 1 [c0, c1, c2, c3, c4, c5, c6, c7, c8, c9, c10]).take (Tryd.prog.cellsOf 22)) = some y1 := g1
  rw [cp15] at q1
  have f1 : DataW.trod enc Tryd.prog w 0 (fun _ => true) true m 22 [c1] = some y1 := q1
  have q9 : DataW.trod enc Tryd.prog w 0 (fun _ => true) true m 24 ((List.drop 9 [c0, c1, c2, c3, c4, c5, c6, c7, c8, c9, c10]).take (Tryd.prog.cellsOf 24)) = some y9 := g9
  rw [cs1] at q9
  have f9 : DataW.trod enc Tryd.prog w 0 (fun _ => true) true m 24 [c9] = some y9 := q9
  have q10 : DataW.trod enc Tryd.prog w 0 (fun _ => true) true m 25 ((List.drop 10 [c0, c1, c2, c3, c4, c5, c6, c7, c8, c9, c10]).take (Tryd.prog.cellsOf 25)) = some y10 := g10
  rw [cr15] at q10
  have f10 : DataW.trod enc Tryd.prog w 0 (fun _ => true) true m 25 [c10] = some y10 := q10
  obtain ⟨k0, e0, _, w0⟩ := DataW.trod_int Tryd.underlying3 g0
  obtain rfl : c0 = .int .i64 k0 := by simpa [ci] using e0
  obtain ⟨k2, e2, _, w2⟩ := DataW.trod_int Tryd.underlying23 g2
  obtain rfl : c2 = .int .u32 k2 := by simpa [cu15] using e2
  obtain ⟨k3, e3, _, w3⟩ := DataW.trod_int Tryd.underlying3 g3
  obtain rfl : c3 = .int .i64 k3 := by simpa [ci] using e3
  obtain ⟨k4, e4, _, w4⟩ := DataW.trod_int Tryd.underlying3 g4
  obtain rfl : c4 = .int .i64 k4 := by simpa [ci] using e4
  obtain ⟨k5, e5, _⟩ := DataW.trod_bool Tryd.underlying4 g5
  obtain rfl : c5 = .bool k5 := by simpa [cb15] using e5
  obtain ⟨k6, e6, _⟩ := DataW.trod_bool Tryd.underlying4 g6
  obtain rfl : c6 = .bool k6 := by simpa [cb15] using e6
  obtain ⟨k7, e7, _, w7⟩ := DataW.trod_int Tryd.underlying23 g7
  obtain rfl : c7 = .int .u32 k7 := by simpa [cu15] using e7
  obtain ⟨k8, e8, _, w8⟩ := DataW.trod_int Tryd.underlying23 g8
  obtain rfl : c8 = .int .u32 k8 := by simpa [cu15] using e8
  obtain ⟨Z, A9, n9, rfl, z1, z2, z3, z4⟩ := comms_in f9
  obtain ⟨R, A10, n10, rfl, r1, r2, r3, r4⟩ := raws_in f10
  obtain ⟨A1, l1, n1, rfl⟩ := hdr_in Tryd.underlying22 f1
  obtain ⟨L, hL, hs, h1, h2, hw⟩ := segs_in_w (p := y1.2) (d := y1.1) ⟨m, f1⟩
  subst hL
  have b2 := bounds_u32 w2; have b7 := bounds_u32 w7; have b8 := bounds_u32 w8
  refine ⟨k0, A1, n1, L, k2, k3, k4, k5, k6, k7, k8, A9, n9, Z, A10, n10, R, rfl, ⟨hs, ⟨h1, h2⟩, z1, ⟨z2, z3⟩, r1, ⟨r2, r3⟩, fun s hs => ⟨(r4 s hs).1, (r4 s hs).2.1⟩⟩, z4, segs_fit hs, fun s hs => (r4 s hs), by omega, by omega, by omega, bounds_i64 w0, bounds_i64 w3, bounds_i64 w4, fun N hN => hw N fun u hu => hN u ?_⟩
  rw [hx]
  simp only [DataW.weights, Tryd.underlying27, DataW.weightsEach, List.map_cons, List.map_nil, List.mem_append]
  exact .inr (.inl hu)
set_option maxRecDepth 100000 in
/-- Attributes that came in as they are. -/
theorem attrs_arg {b0 : Nat} {v : Value} {d : DataW H} {p : List MemPlace} (hv : Value.okWide Tryd.prog w .any b0 27 v) (h : DataW.Trod enc Tryd.prog w 0 (fun _ => true) true 27 v d p) :
    ∃ a : Av, v = .agg a.row.toArray ∧ AvArg w a ∧ ∀ N, (∀ u ∈ d.weights Tryd.prog 27, u ≤ N) → Wt N a.path := by
  obtain ⟨cs, rfl, hsz⟩ := okWide_struct Tryd.underlying27 hv
  obtain ⟨fuel, hf⟩ := h
  obtain ⟨org, pa, pc, L, next, med, pref, atomic, has, aas, aad, ca, cc, Z, ra, rc, R, hcs, h1, h2, h3, h4, h5, h6, h7, b1, b2, b3, hw⟩ := attrs_in (y := (d, p)) hf (by show cs.toList.length = 11; rw [Array.length_toList, hsz, ca15])
  refine ⟨⟨org, pa, pc, L, next, med, pref, atomic, has, aas, aad, ca, cc, Z, ra, rc, R⟩, ?_, ⟨h1, h2, h3, h4, h5, h6, h7, b1, b2, b3⟩, hw⟩
  have e : cs = cs.toList.toArray := by simp
  rw [e]
  exact congrArg (fun l => Value.agg (List.toArray l)) hcs
end
end Go.Proofs.YtkpbldhkoobnaaaDoor

/-
  A system's number, an aggregator, as bytes.
-/
namespace Go.Proofs.YtkpbldhkoobnaaaDoor
set_option linter.unusedVariables false
set_option linter.unusedSimpArgs false
open Go.RowKit

theorem Blk.alloc' {w : World} {g t : Nat} {cs : List Value} (h : Blk w g t cs) (o : Obj) : Blk (w.alloc o) g t cs := h.below ((Below.refl w.heap.size w).alloc (Nat.le_refl _) o) h.lt
theorem below_undrew {B : Nat} {w w' : World} (h : Below B w.drew w') : Below B w w' := ⟨h.os, h.tape, h.output, h.size, h.block⟩
/-- Bytes that lie somewhere. -/
def RetSome (w : World) (d : List UInt8) (e : Ending) (w' : World) : Prop :=
  ∃ A c, e = .returned (.slice A d.length c) ∧ Bytes w' A d ∧ d.length ≤ c ∧ c ≤ maxLen ∧ Below w.heap.size w w'
theorem RetBytes.some {w w' : World} {d : List UInt8} {e : Ending} (h : RetBytes w d e w') : RetSome w d e w' := by
  obtain ⟨A, c, rfl, h1, h2, h3, h4⟩ := h
  exact ⟨A, c, rfl, h3.bytes, h1, h2, h4⟩
theorem numB_two (wide : Bool) (x : Nat) : 2 ≤ (numB wide x).length := by
  unfold numB
  split
  · simp [be32]
  · split <;> simp [be16]
set_option maxHeartbeats 3200000 in
theorem system_any (sa : Nat) (wide : Bool) (w : World) (ha : sa < 4294967296) :
    Calls Tryd.prog 71 #[.int .u32 (sa : Int), .bool wide] w (RetSome w (numB wide sa)) := by
  have hb1 := (Below.refl w.heap.size w).alloc (Nat.le_refl _) (.cells #[.int .u32 (sa : Int)] 23)
  have hb2 := hb1.alloc hb1.size (.cells #[.int .i64 2, .slice (some ⟨w.heap.size, 0, none⟩) 1 1] 87)
  have hseg : Segs ((w.alloc (.cells #[.int .u32 (sa : Int)] 23)).alloc (.cells #[.int .i64 2, .slice (some ⟨w.heap.size, 0, none⟩) 1 1] 87)) ((w.alloc (.cells #[.int .u32 (sa : Int)] 23)).alloc (.cells #[.int .i64 2, .slice (some ⟨w.heap.size, 0, none⟩) 1 1] 87)).heap.size (some ⟨w.heap.size + 1, 0, none⟩) [⟨2, some ⟨w.heap.size, 0, none⟩, 1, [sa]⟩] := by
    intro _
    have hk1 := Blk.new w 23 [.int .u32 (sa : Int)]
    have hk2 := Blk.new (w.alloc (.cells #[.int .u32 (sa : Int)] 23)) 87 [.int .i64 2, .slice (some ⟨w.heap.size, 0, none⟩) 1 1]
    have hz : (w.alloc (.cells #[.int .u32 (sa : Int)] 23)).heap.size = w.heap.size + 1 := by simp
    rw [hz] at hk2
    refine ⟨w.heap.size + 1, 0, rfl, by simp, fun j s hj => ?_⟩
    cases j with
    | succ j => simp at hj
    | zero =>
      simp at hj
      subst hj
      refine ⟨hk2.cell 0, hk2.cell 1, by simp, by unfold maxLen; simp, ?_, by simpa using ha, by simp⟩
      intro _
      refine ⟨w.heap.size, 0, rfl, by simp; omega, fun i hi => ?_⟩
      obtain rfl : i = 0 := by simpa using hi
      exact (hk1.alloc' _).cell 0
  have q := Put3_any (some ⟨w.heap.size + 1, 0, none⟩) 1 [⟨2, some ⟨w.heap.size, 0, none⟩, 1, [sa]⟩] wide _ hseg (by simp) (by simp [totN])
  have e : putB wide [⟨2, some ⟨w.heap.size, 0, none⟩, 1, [sa]⟩] = [2, 1] ++ numB wide sa := by
    unfold putB numsB headB
    simp
  rw [e] at q
  have Q := Lib.hid q; have HB := Lib.hid hb2; have H2 := Lib.hid (numB_two wide sa)
  clear q e hseg hb1 hb2
  obtain ⟨N, hN⟩ : ∃ N, N = numB wide sa := ⟨_, rfl⟩
  rw [← hN] at Q H2 ⊢
  clear hN
  go_enter Tryd.func71, Tryd.ntmps71
  go_wp2_with fail
  refine Q.out.mono ?_
  rintro e w3 ⟨A3, c3, rfl, f3, g3, ho3, hb3⟩
  have hy := ho3.bytes
  have hl : ([2, 1] ++ N : List UInt8).length = N.length + 2 := by simp
  have h2 := H2.out
  rw [hl] at f3 ⊢
  obtain ⟨b3, o3, rfl, _⟩ := id hy (by simp)
  have hd := Bytes.drop (k := 2) (c := c3) hy (by rw [hl]; omega)
  have hc2 : ¬ c3 = 2 := by omega
  rw [if_neg hc2] at hd
  have HD := Lib.hid (show Bytes w3 (some ⟨b3, o3 + 2, none⟩) N from by simpa [Addr.add_lit] using hd)
  have HB3 := Lib.hid (HB.out.trans (hb3.mono HB.out.size))
  have G3 := Lib.hid g3; have F3 := Lib.hid f3
  have hcI : (2 : Int) ≤ (c3 : Int) := by omega
  clear hy hd ho3 hb3 Q h2
  go_wp2_with fail
  go_ret
  exact ⟨some ⟨b3, o3 + 2, none⟩, c3 - 2, rfl, HD.out, by have := F3.out; omega, by have := G3.out; omega, HB3.out⟩

theorem cat_two (A4 A5 : Option Addr) (c4 c5 : Nat) (N M : List UInt8) (w5 : World) (h4 : Bytes w5 A4 N) (h5 : Bytes w5 A5 M) (hl : N.length + M.length ≤ 1000000) :
    Calls Tryd.prog 66 #[.slice (some ⟨w5.heap.size, 0, none⟩) 2 2] (w5.alloc (.cells #[.slice A4 N.length c4, .slice A5 M.length c5] 36)) fun e w' => ∃ A c, e = .returned (.slice A (N ++ M).length c) ∧ (N ++ M).length ≤ c ∧ c ≤ maxLen ∧ Own w' w5.heap.size 5 (.slice A (N ++ M).length c) (N ++ M) ∧ Below w5.heap.size w5 w' := by
  have hb2 := (Below.refl w5.heap.size w5).alloc (Nat.le_refl _) (.cells #[.slice A4 N.length c4, .slice A5 M.length c5] 36)
  have q := ConcatN_any w5.heap.size 2 2 [(A4, c4, N), (A5, c5, M)] (w5.alloc (.cells #[.slice A4 N.length c4, .slice A5 M.length c5] 36)) rfl
    (sls_of_blk (by simpa using Blk.new w5 36 [.slice A4 N.length c4, .slice A5 M.length c5]) (by
      intro x hx
      simp only [List.mem_cons, List.not_mem_nil, or_false] at hx
      rcases hx with rfl | rfl
      · exact h4.below hb2
      · exact h5.below hb2)) (by simp [joinB]; omega) (by simp)
  have hj : joinB [(A4, c4, N), (A5, c5, M)] = N ++ M := by simp [joinB]
  rw [hj] at q
  refine q.mono ?_
  rintro e w6 ⟨A6, c6, rfl, f1, f2, ho, hb⟩
  exact ⟨A6, c6, rfl, f1, f2, ho.lower hb2.size, hb2.trans (hb.mono hb2.size)⟩
/-- What an aggregator says. -/
def aggrB (wide : Bool) (sa ad : Nat) : List UInt8 := numB wide sa ++ be32 (ad : Int)
theorem aggrB_len (wide : Bool) (sa ad : Nat) : (aggrB wide sa ad).length ≤ 8 := by
  have := numB_len wide sa
  unfold aggrB
  simp [be32]
  omega
set_option maxHeartbeats 6400000 in
set_option maxRecDepth 100000 in
theorem aggregator_any (a : Av) (sa ad : Nat) (wide : Bool) (w : World) (hs : a.aas = (sa : Int)) (hd : a.aad = (ad : Int)) (h1 : sa < 4294967296) (h2 : ad < 4294967296) :
    Calls Tryd.prog 46 #[.agg a.row.toArray, .bool wide] w (RetBytes w (aggrB wide sa ad)) := by
  obtain ⟨org, pa, pc, path, next, med, pref, atomic, has, aas, aad, ca, cc, comms, ra, rc, raws⟩ := a
  dsimp only at hs hd
  subst hs hd
  unfold Av.row
  dsimp only
  have hb1 := (Below.refl w.heap.size w).alloc (Nat.le_refl _) (.cells #[.int .i64 org, .slice pa path.length pc, .int .u32 next, .int .i64 med, .int .i64 pref, .bool atomic, .bool has, .int .u32 (sa : Int), .int .u32 (ad : Int), .slice ca comms.length cc, .slice ra raws.length rc] 27)
  have hk := Blk.new w 27 [.int .i64 org, .slice pa path.length pc, .int .u32 next, .int .i64 med, .int .i64 pref, .bool atomic, .bool has, .int .u32 (sa : Int), .int .u32 (ad : Int), .slice ca comms.length cc, .slice ra raws.length rc]
  have c7 : World.cell? _ ⟨w.heap.size, 7, none⟩ = some (.int .u32 (sa : Int)) := hk.cell 7
  have c8 : World.cell? _ ⟨w.heap.size, 8, none⟩ = some (.int .u32 (ad : Int)) := hk.cell 8
  have HK := Lib.hid hk; have HB1 := Lib.hid hb1
  have QS := fun w => Lib.hid (system_any sa wide w h1)
  have QP := fun w => Lib.hid (Put32_any none 0 0 [] rfl (ad : Int) w (by simp) (Bytes.nil _ _) (by omega) (by omega))
  have HLN := Lib.hid (numB_len wide sa)
  have HLL := Lib.hid (show (numB wide sa).length + (be32 (ad : Int)).length ≤ 1000000 by have := numB_len wide sa; simp [be32]; omega)
  have HAG := Lib.hid (show aggrB wide sa ad = numB wide sa ++ be32 (ad : Int) from rfl)
  obtain ⟨N, hN⟩ : ∃ N, N = numB wide sa := ⟨_, rfl⟩
  rw [← hN] at QS HLN HAG HLL
  clear hk hb1 hN h1 h2
  go_enter Tryd.func46, Tryd.ntmps46
  go_wp2_with fail
  go_region_law ((first
    | (have hq5 := HO5; clear hq5; go_simp; go_at_call 66; refine (cat_two A4 A5 c4 c5 N (be32 (ad : Int)) w5 HO45.out HO5.out HLL.out).mono ?_; rintro e w6 ⟨A6, c6, rfl, f61, f62, ho6, hb6⟩; have HF61 := Lib.hid f61; have HF62 := Lib.hid f62; clear f61 f62; have HO6 := Lib.hid ho6; have HB6 := Lib.hid hb6; clear ho6 hb6)
    | (have hq4 := HO4; clear hq4; go_simp; go_at_call 70; refine (QP _).out.mono ?_; rintro e w5 ⟨A5, c5, rfl, f51, f52, ho5, hb5⟩; have HO5 := Lib.hid ho5.bytes; have HO45 := Lib.hid (HO4.out.below hb5); have HB5 := Lib.hid hb5; clear ho5 hb5 f51 f52)
    | (go_simp; go_at_call 71; refine (QS _).out.mono ?_; rintro e w4 ⟨A4, c4, rfl, hy4, f41, f42, hb4⟩; have hk4 := HK.out.below (below_undrew hb4) HK.out.lt; have c84 : w4.cell? ⟨w.heap.size, 8, none⟩ = some (.int .u32 (ad : Int)) := hk4.cell 8; have HO4 := Lib.hid hy4; have HB4 := Lib.hid hb4; clear hk4 hy4)))
  all_goals
    go_wp2_with fail
    go_ret
    have hb4 := HB1.out.trans ((below_undrew HB4.out).mono HB1.out.size)
    have hb5 := hb4.trans (HB5.out.mono hb4.size)
    exact ret_own (by simp) HF61.out HF62.out (HO6.out.lower hb5.size) (hb5.trans (HB6.out.mono hb5.size)) HAG.out.symm
end Go.Proofs.YtkpbldhkoobnaaaDoor

/-
  Attributes as values that are carried along whole: the walk's laws on loading and boxing them.
-/
namespace Go.Proofs.YtkpbldhkoobnaaaDoor
set_option linter.unusedVariables false
set_option linter.unusedSimpArgs false
open Go.RowKit

def Av.agg (a : Av) : Value := .agg a.row.toArray
/-- Attributes lie here. -/
def AvAt (w : World) (g off : Nat) (c : Av) : Prop := ∀ i u, c.row[i]? = some u → w.cell? ⟨g, off + i, none⟩ = some u
theorem AvAt.below {w w' : World} {B g off : Nat} {c : Av} (h : AvAt w g off c) (hb : Below B w w') (hg : g < B) : AvAt w' g off c := fun i u hu => (hb.cell (p := ⟨g, off + i, none⟩) hg).trans (h i u hu)
theorem AvAt.drewN {w : World} {g off : Nat} {c : Av} (h : AvAt w g off c) (n : Nat) : AvAt (w.drewN n) g off c := h
theorem av_blk {w : World} {g T : Nat} {c : Av} (h : Blk w g T c.row) : AvAt w g 0 c := fun i u hu => by rw [h.cell, Nat.zero_add]; exact hu
theorem isAggA (w : World) : (isAgg 27).run Tryd.prog w = .ok true w := by kernel_rfl
theorem sizeA (w : World) : (sizeOf 27).run Tryd.prog w = .ok 11 w := by kernel_rfl
theorem run_loadA {w : World} {g off : Nat} {c : Av} (h : AvAt w g off c) : (Instr.loadAt 27 (.pointer (some ⟨g, off, none⟩))).run Tryd.prog w = .ok c.agg w := by
  have hr : c.row.length = 11 := rfl
  have hc := run_loadCells (P := Tryd.prog) w ⟨g, off, none⟩ 11 (fun j => c.row.getD j undef) (fun j hj => by
    rw [Addr.add_lit]
    exact h j _ (by rw [List.getElem?_eq_getElem (by omega)]; simp [List.getD, hr, hj]))
  have e : ((List.range 11).map fun j => c.row.getD j undef).toArray = c.row.toArray := rfl
  rw [e] at hc
  simp [Instr.loadAt, Instr.sureAddr, loadVar, Sem.run_bind, isAggA, sizeA, hc, Result.andThen, Av.agg]
theorem run_boxA (w : World) (c : Av) : (Instr.box 27 c.agg).run Tryd.prog w = .ok (.pointer (some ⟨w.heap.size, 0, none⟩)) (w.alloc (.cells c.row.toArray 27)) := by kernel_rfl
section
variable {ops : Array Oper} {rest : List Oper} {o : Oper} {a : Act} {Q : Exit → Act → World → Prop}
theorem wpList_loadA (w : World) (hg : o.guard = none) (p : Operand) (hop : o.op = Op.load 27 p) (g off : Nat) (c : Av) (hp : a.eval p = .pointer (some ⟨g, off, none⟩)) (h : AvAt w g off c)
    (hK : wpList Tryd.prog ops Q rest (a.put o.dst c.agg) w) : wpList Tryd.prog ops Q (o :: rest) a w := by
  refine wpList_plain hg fun K' hK' => ?_
  unfold Oper.wp
  simp [execOp, hop, hp, run_loadA h, Result.andThen]
  exact hK' _ _ hK
theorem wpList_loadG (w : World) (hw : Region.wanted o (yielded ops a.tmps) = true) (p : Operand) (hop : o.op = Op.load 27 p) (g off : Nat) (c : Av) (hp : a.eval p = .pointer (some ⟨g, off, none⟩)) (h : AvAt w g off c)
    (hK : wpList Tryd.prog ops Q rest (a.put o.dst c.agg) w) : wpList Tryd.prog ops Q (o :: rest) a w := by
  refine wpList_step fun K' hK' => ?_
  rw [if_pos hw]
  unfold Oper.wp
  simp [execOp, hop, hp, run_loadA h, Result.andThen]
  exact hK' _ _ hK
theorem wpList_boxA (w : World) (hg : o.guard = none) (x : Operand) (hop : o.op = Op.box 27 x) (c : Av) (hx : a.eval x = c.agg)
    (hK : wpList Tryd.prog ops Q rest (a.put o.dst (.pointer (some ⟨w.heap.size, 0, none⟩))) (w.alloc (.cells c.row.toArray 27))) : wpList Tryd.prog ops Q (o :: rest) a w := by
  refine wpList_plain hg fun K' hK' => ?_
  unfold Oper.wp
  simp [execOp, hop, hx, run_boxA, Result.andThen]
  exact hK' _ _ hK
end
theorem load_execA {w : World} {g off : Nat} {c : Av} {a : Act} {o : Oper} (p : Operand) (hop : o.op = Op.load 27 p) (hp : a.eval p = .pointer (some ⟨g, off, none⟩)) (h : AvAt w g off c) : (execOp a.eval o).run Tryd.prog w = .ok (.value c.agg) w := by
  simp [execOp, hop, hp, run_loadA h, Result.andThen]
end Go.Proofs.YtkpbldhkoobnaaaDoor

/-
  Are attributes small enough: what the statements of this layer ask first.
-/
namespace Go.Proofs.YtkpbldhkoobnaaaDoor
set_option linter.unusedVariables false
set_option linter.unusedSimpArgs false
open Go.RowKit

/-- What a call tells that asks whether attributes are few. -/
def RetFew4 (w : World) (a : Av) (e : Ending) (w' : World) : Prop :=
  ∃ b : Bool, e = .returned (.bool b) ∧ (b = true → fewB a.path = true ∧ a.comms.length ≤ 60 ∧ a.raws.length ≤ 12 ∧ ∀ s ∈ a.raws, s.data.length ≤ 400) ∧ Below w.heap.size w w'
theorem few4_upto {L : List Rw} {j : Nat} {s : Rw} (hs : L[j]? = some s) (h : ∀ t ∈ L.take j, t.data.length ≤ 400) (h1 : s.data.length ≤ 400) : ∀ t ∈ L.take (j + 1), t.data.length ≤ 400 := by
  obtain ⟨q1, q2⟩ := List.getElem?_eq_some_iff.1 hs
  rw [List.take_succ_eq_append_getElem q1, q2]
  intro t ht
  rcases List.mem_append.1 ht with ht | ht
  · exact h t ht
  · rw [List.mem_singleton.1 ht]; exact h1
set_option maxRecDepth 100000 in
set_option maxHeartbeats 6400000 in
theorem Few4_any (a : Av) (w : World) (h : a.In w w.heap.size) :
    Calls Tryd.prog 8 #[.agg a.row.toArray] w (RetFew4 w a) := by
  obtain ⟨org, pa, pc, path, next, med, pref, atomic, has, aas, aad, ca, cc, comms, ra, rc, raws⟩ := a
  obtain ⟨hp, hpc, hcm, hcc, hrw, hrc, hea⟩ := h
  dsimp only at hp hpc hcm hcc hrw hrc hea
  unfold Av.row
  dsimp only
  have hb0 := (Below.refl w.heap.size w).alloc (Nat.le_refl _) (.cells #[.int .i64 org, .slice pa path.length pc, .int .u32 next, .int .i64 med, .int .i64 pref, .bool atomic, .bool has, .int .u32 aas, .int .u32 aad, .slice ca comms.length cc, .slice ra raws.length rc] 27)
  have kO := Blk.new w 27 [.int .i64 org, .slice pa path.length pc, .int .u32 next, .int .i64 med, .int .i64 pref, .bool atomic, .bool has, .int .u32 aas, .int .u32 aad, .slice ca comms.length cc, .slice ra raws.length rc]
  obtain ⟨W0, hW0⟩ : ∃ W0, W0 = w.alloc (.cells #[.int .i64 org, .slice pa path.length pc, .int .u32 next, .int .i64 med, .int .i64 pref, .bool atomic, .bool has, .int .u32 aas, .int .u32 aad, .slice ca comms.length cc, .slice ra raws.length rc] 27) := ⟨_, rfl⟩
  rw [← hW0] at kO
  rw [← hW0] at hb0
  have Q := Lib.hid (Few_any pa pc path W0 ((hp.below hb0 (Nat.le_refl _)).lift hb0.size))
  have HRW := Lib.hid ((hrw.below hb0 (Nat.le_refl _)).lift hb0.size)
  have HB := Lib.hid hb0
  have d9 : World.cell? _ ⟨w.heap.size, 9, none⟩ = some _ := kO.cell 9
  have d10 : World.cell? _ ⟨w.heap.size, 10, none⟩ = some _ := kO.cell 10
  have d1 : World.cell? _ ⟨w.heap.size, 1, none⟩ = some _ := kO.cell 1
  have HW0 := Lib.hid hW0
  have hrm := hrc.2; unfold maxLen at hrm
  have hrl : raws.length ≤ 9223372036854775807 := by omega
  clear hp hpc hcm hcc hrw hrc hea hb0 kO hW0 hrm
  obtain ⟨U, hU⟩ : ∃ U, U = fewB path := ⟨_, rfl⟩
  rw [← hU] at Q
  have HU := Lib.hid hU
  clear hU
  go_enter Tryd.func8, Tryd.ntmps8
  by_cases h60 : comms.length ≤ 60
  · have h60I : ¬ (60 : Int) < (comms.length : Int) := by omega
    by_cases h12 : raws.length ≤ 12
    · have h12I : ¬ (12 : Int) < (raws.length : Int) := by omega
      cases U with
      | false =>
        go_wp2_with (rw [← HW0.out])
        refine Q.out.mono ?_
        rintro e w1 ⟨rfl, rfl⟩
        go_wp2_with fail
        go_ret
        exact ⟨false, rfl, fun q => (by cases q), HB.out⟩
      | true =>
        go_wp2_with (rw [← HW0.out])
        refine Q.out.mono ?_
        rintro e w1 ⟨rfl, rfl⟩
        go_wp2_with fail
        go_loop [3] (fun i => ∃ j : Nat, j ≤ raws.length ∧ i = .int .i64 (j : Int) ∧ Hid (∀ t ∈ raws.take j, t.data.length ≤ 400)) (fun i => raws.length - (intOf i).toNat)
        case atStart => exact ⟨0, Nat.zero_le _, rfl, Lib.hid (fun t ht => by simp at ht)⟩
        case round =>
          obtain ⟨j, hj, rfl, hall⟩ := hrel
          by_cases hlt : j < raws.length
          · obtain ⟨s, hs⟩ : ∃ s, raws[j]? = some s := ⟨_, List.getElem?_eq_getElem hlt⟩
            obtain ⟨b, off, hA, hb, k0, k1, k2, hy⟩ := HRW.out.at hs
            subst hA
            have hjI : (j : Int) < (raws.length : Int) := by omega
            have HN := Lib.hid (fun h => few4_upto hs hall.out h)
            clear hs hall hy
            by_cases h4 : s.data.length ≤ 400
            · have h4I : ¬ (400 : Int) < (s.data.length : Int) := by omega
              have HN2 := Lib.hid (HN.out h4)
              clear HN h4
              go_wp2_with fail
              go_round
              case rel => exact ⟨j + 1, hlt, by go_num, HN2⟩
              case measure => simp [intOf]; omega
            · have h4I : (400 : Int) < (s.data.length : Int) := by omega
              clear HN h4
              go_wp2_with fail
              go_ret
              exact ⟨false, rfl, fun q => (by cases q), HB.out⟩
          · obtain rfl : j = raws.length := by omega
            rw [List.take_length] at hall
            go_wp2_with fail
            go_ret
            exact ⟨true, rfl, fun _ => ⟨HU.out.symm, h60, h12, hall.out⟩, HB.out⟩
    · have h12I : (12 : Int) < (raws.length : Int) := by omega
      cases U with
      | false =>
        go_wp2_with (rw [← HW0.out])
        refine Q.out.mono ?_
        rintro e w1 ⟨rfl, rfl⟩
        go_wp2_with fail
        go_ret
        exact ⟨false, rfl, fun q => (by cases q), HB.out⟩
      | true =>
        go_wp2_with (rw [← HW0.out])
        refine Q.out.mono ?_
        rintro e w1 ⟨rfl, rfl⟩
        go_wp2_with fail
        go_ret
        exact ⟨false, rfl, fun q => (by cases q), HB.out⟩
  · have h60I : (60 : Int) < (comms.length : Int) := by omega
    cases U with
    | false =>
      go_wp2_with (rw [← HW0.out])
      refine Q.out.mono ?_
      rintro e w1 ⟨rfl, rfl⟩
      go_wp2_with fail
      go_ret
      exact ⟨false, rfl, fun q => (by cases q), HB.out⟩
    | true =>
      go_wp2_with (rw [← HW0.out])
      refine Q.out.mono ?_
      rintro e w1 ⟨rfl, rfl⟩
      go_wp2_with fail
      go_ret
      exact ⟨false, rfl, fun q => (by cases q), HB.out⟩
end Go.Proofs.YtkpbldhkoobnaaaDoor

/-
  The table of looks, as the row lists it.
-/
namespace Go.Proofs.YtkpbldhkoobnaaaDoor
open Go.ChangeShapes Go.WideShapes Go.ChangeAt Go.RowKit
set_option linter.unusedVariables false
set_option linter.unusedSimpArgs false

theorem gLooks : Tryd.prog.globalNamed "speculum/attrs.looks" = some 0 := by kernel_rfl
theorem gLooksT : (Tryd.prog.globals[0]?).map (·.type) = some 88 := by kernel_rfl
theorem looks_flat : ∀ (L : List Look) (i : Nat) (x : Look), L[i]? = some x → ∀ r u, x.cells[r]? = some u → (L.flatMap Look.cells)[i * 5 + r]? = some u
  | [], i, x, h, r, u, hu => by simp at h
  | a :: L, 0, x, h, r, u, hu => by
    obtain rfl : a = x := by simpa using h
    have hi := (List.getElem?_eq_some_iff.1 hu).1
    rw [List.flatMap_cons, List.getElem?_append_left (by omega), Nat.zero_mul, Nat.zero_add]
    exact hu
  | a :: L, i + 1, x, h, r, u, hu => by
    have h' : L[i]? = some x := by simpa using h
    have hr : a.cells.length = 5 := rfl
    rw [List.flatMap_cons, List.getElem?_append_right (by omega), hr, show (i + 1) * 5 + r - 5 = i * 5 + r by omega]
    exact looks_flat L i x h' r u hu
theorem looks_data : (Rows.laid_speculum_attrs_looks : DataW Unit) = .agg (looksL.map fun l => .agg ([l.1, l.2.1, l.2.2.1, l.2.2.2.1, l.2.2.2.2].map fun z => .lit (.int .i64 z))) := by kernel_rfl
/-- What a row that lists the table gives. -/
theorem tabk_of_laid {W : World} (h : laidMetH Tryd.prog [("speculum/attrs.looks", Rows.laid_speculum_attrs_looks)] W) : TabK W := by
  have h0 : laidMet Tryd.prog [("speculum/attrs.looks", Rows.laid_speculum_attrs_looks)] W := h
  obtain ⟨g, t, cs, fuel, p, hg, hty, hvar, htr⟩ := Lib.laidMet.reads h0 (.head _)
  obtain rfl := Option.some.inj (gLooks.symm.trans hg)
  obtain rfl := Option.some.inj (gLooksT.symm.trans hty)
  rw [looks_data] at htr
  have hlen : cs.toList.length = 50 := by
    have h2 := htr
    cases fuel with
    | zero => simp [DataW.trod] at h2
    | succ fuel =>
      simp only [DataW.trod, Tryd.underlying88] at h2
      split at h2
      · rename_i hl
        have e50 : Tryd.prog.cellsOf 88 = 50 := by kernel_rfl
        rw [e50] at hl
        exact hl
      · cases h2
  have hcs : cs.toList = looksL.flatMap Look.cells := by
    apply List.ext_getElem?
    intro j
    by_cases hj : j < 50
    · obtain ⟨fuel', d, q, hd, ht⟩ := Lib.array_elem Tryd.underlying88 htr (j / 5) (by omega)
      obtain ⟨l, hl⟩ : ∃ l, looksL[j / 5]? = some l := ⟨_, List.getElem?_eq_getElem (by show j / 5 < 10; omega)⟩
      simp only [List.getElem?_map, hl, Option.map_some, Option.some.injEq] at hd
      subst hd
      have e5 : Tryd.prog.cellsOf 56 = 5 := by kernel_rfl
      have he := Lib.ints_of_struct Tryd.underlying56 (fun i f hf => by
        match i, hf with
        | 0, hf => cases hf; exact ⟨Tryd.underlying3, rfl, by kernel_rfl⟩
        | 1, hf => cases hf; exact ⟨Tryd.underlying3, rfl, by kernel_rfl⟩
        | 2, hf => cases hf; exact ⟨Tryd.underlying3, rfl, by kernel_rfl⟩
        | 3, hf => cases hf; exact ⟨Tryd.underlying3, rfl, by kernel_rfl⟩
        | 4, hf => cases hf; exact ⟨Tryd.underlying3, rfl, by kernel_rfl⟩
        | i + 5, hf => simp at hf) (by kernel_rfl) ht
      rw [e5] at he
      have hc := congrArg (fun (x : List Value) => x[j % 5]?) he
      simp only [List.getElem?_take, List.getElem?_drop] at hc
      rw [if_pos (by omega), show j / 5 * 5 + j % 5 = j by omega] at hc
      rw [hc]
      have hr : j % 5 < l.cells.length := by show j % 5 < 5; omega
      have hf := looks_flat looksL (j / 5) l hl (j % 5) _ (List.getElem?_eq_getElem hr)
      rw [show j / 5 * 5 + j % 5 = j by omega] at hf
      rw [hf]
      exact List.getElem?_eq_getElem hr
    · rw [List.getElem?_eq_none (by omega), List.getElem?_eq_none (by show 50 ≤ j; omega)]
  simp only [World.var?, gLooks, Option.bind_some] at hvar
  split at hvar
  · rename_i cs' t' fr' hh
    have e : cs' = lookCells := by
      have e1 : cs' = cs := by simpa using hvar
      rw [e1]
      unfold lookCells
      rw [← hcs]
    exact ⟨t', fr', by rw [hh, e]⟩
  · cases hvar
end Go.Proofs.YtkpbldhkoobnaaaDoor

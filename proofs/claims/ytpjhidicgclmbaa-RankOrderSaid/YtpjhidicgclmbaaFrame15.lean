/-
  Candidates that come in as a statement's arguments.
-/
import Derived.Test.YtpjhidicgclmbaaCand15
import Derived.Test.YtpjhidicgclmbaaFrameP
import Derived.Deep.Slices
import Derived.Deep.Fields
import GoSem.ClaimJoined
namespace Go.Proofs.Ytpjhidicgclmbaa
open Go.ChangeShapes Go.WideShapes Go.ChangeAt Go.RowKit
set_option linter.unusedVariables false
set_option linter.unusedSimpArgs false

/-- A slice of numbers of four bytes that came in. -/
theorem u32_in {w : World} {x : Addr} {len cap : Nat} {zs : List Int} (hl : len ≤ cap) (hz : zs.length = cap) (hc : ∀ i, i < zs.length → w.cell? (x.add i) = some (.int .u32 (zs.getD i 0))) (hwz : ∀ n ∈ zs, (Lit.int .u32 n).wf = true) :
    ∃ z : List Nat, z.length = len ∧ At32 w w.heap.size (some x) z ∧ ∀ y ∈ z, y < 4294967296 := by
  have hz1 : ((zs.take len).map fun n => n.toNat).length = len := by simp; omega
  refine ⟨(zs.take len).map fun n => n.toNat, hz1, fun hne => ?_, fun y hy => ?_⟩
  · have hpos : 0 < len := by
      rcases Nat.eq_zero_or_pos len with h0 | h0
      · subst h0; simp at hne
      · exact h0
    obtain ⟨b, off, spot⟩ := x
    have h0 := hc 0 (by omega)
    have hspot : spot = none := by simpa [Addr.add] using World.cell?_spot h0
    subst hspot
    refine ⟨b, off, rfl, World.block_lt_of_cell? w _ h0, fun j hj => ?_⟩
    have hj' : j < len := by rw [hz1] at hj; exact hj
    have h1 := hc j (by omega)
    rw [Addr.add_lit] at h1
    rw [h1]
    have hjz : j < zs.length := by omega
    have hm := hwz zs[j] (List.getElem_mem _)
    have hr := bounds_u32 hm
    simp [List.getD, hjz, hj']
    omega
  · obtain ⟨n, hn, rfl⟩ := List.mem_map.1 hy
    have hr := bounds_u32 (hwz n (List.mem_of_mem_take hn))
    omega

theorem two_of {α : Type} {l : List α} (h : l.length = 2) : ∃ a b, l = [a, b] := by
  match l, h with
  | [a, b], _ => exact ⟨a, b, rfl⟩
theorem one_of {α : Type} {a b c : α} {n : Nat} (hn : n = 1) (h : (List.drop 0 [a, b]).take n = [c]) : a = c := by
  subst hn; simpa using h
theorem two_one_of {α : Type} {a b c : α} {n : Nat} (hn : n = 1) (h : (List.drop 1 [a, b]).take n = [c]) : b = c := by
  subst hn; simpa using h
theorem ci : Try.prog.cellsOf 3 = 1 := by kernel_rfl
theorem cs1 : Try.prog.cellsOf 29 = 1 := by kernel_rfl
theorem bu32 : Try.prog.bytesOf 27 = 4 := by kernel_rfl
section
variable {H : Type} {enc : TypeId × Value → H} {w : World}
theorem weightsAll_mem {P : Program} {e : TypeId} {l : List (DataW H)} {d : DataW H} (h : d ∈ l) : ∀ x ∈ d.weights P e, x ∈ DataW.weightsAll P e l := by
  induction l with
  | nil => cases h
  | cons a r ih =>
    intro x hx
    simp only [DataW.weightsAll]
    rw [List.mem_append]
    rcases List.mem_cons.1 h with rfl | h
    · exact .inl hx
    · exact .inr (ih h x hx)
/-- One segment that came in. -/
theorem seg_in_w {n : Nat} {cs : List Value} {y : DataW H × List MemPlace} (h : DataW.trod enc Try.prog w 0 (fun _ => true) true n 45 cs = some y) (hl : cs.length = 2) :
    ∃ s : Sg, cs = [.int .i64 s.kind, .slice s.adr s.nums.length s.cap] ∧ Sg.Ok w w.heap.size s ∧ ∀ N, (∀ u ∈ y.1.weights Try.prog 45, u ≤ N) → s.nums.length * 4 ≤ N := by
  obtain ⟨y0, y1, n', hx, _, h0, h1⟩ := trod_struct2 Try.underlying45 h
  obtain ⟨c0, c1, rfl⟩ := two_of hl
  obtain ⟨k, e0, _, wk⟩ := DataW.trod_int Try.underlying3 h0
  obtain rfl : c0 = .int .i64 k := one_of ci e0
  rcases open_ints Try.underlying29 Try.underlying27 (by kernel_rfl) h1 with ⟨e1, _⟩ | ⟨a, len, cap, zs, e1, _, hl9, hm, hz, hy1, hcell, hwz⟩
  · obtain rfl : c1 = .slice none 0 0 := two_one_of cs1 e1
    exact ⟨⟨k, none, 0, []⟩, rfl, ⟨Nat.le_refl _, Nat.zero_le _, At32.nil _ _ _, by simp, bounds_i64 wk⟩, fun N _ => by simp⟩
  · obtain rfl : c1 = .slice (some a) len cap := two_one_of cs1 e1
    obtain ⟨z, hz1, hz2, hz3⟩ := u32_in hl9 (cap := cap) (by simpa using hz) hcell hwz
    subst hz1
    refine ⟨⟨k, some a, cap, z⟩, rfl, ⟨hl9, hm, hz2, hz3, bounds_i64 wk⟩, fun N hN => ?_⟩
    have hw : zs.length * 4 ∈ y.1.weights Try.prog 45 := by
      rw [hx, hy1]
      simp only [DataW.weights, Try.underlying45, Try.underlying29, DataW.weightsEach, List.map_cons, List.map_nil, lits, List.length_map, List.length_take, List.length_drop, bu32]
      rw [List.mem_append]
      right
      rw [List.mem_append]
      left
      have e9 : min z.length zs.length + (zs.length - z.length) = zs.length := by
        have : zs.length = cap := by simpa using hz
        omega
      rw [e9]
      exact List.mem_cons_self
    have h9 := hN _ hw
    have h8 : zs.length = cap := by simpa using hz
    show z.length * 4 ≤ N
    omega

/-- A path that came in. -/
theorem segs_in_w {a : Option Addr} {len cap : Nat} {d : DataW H} {p : List MemPlace} (h : DataW.Trod enc Try.prog w 0 (fun _ => true) true 28 (.slice a len cap) d p) :
    ∃ L : List Sg, L.length = len ∧ Segs w w.heap.size a L ∧ len ≤ cap ∧ cap ≤ maxLen ∧ ∀ N, (∀ u ∈ d.weights Try.prog 28, u ≤ N) → ∀ s ∈ L, s.nums.length * 4 ≤ N := by
  obtain ⟨fuel, hf⟩ := h
  rcases Go.Deep.open_slice Try.underlying28 hf with ⟨hcs, _⟩ | ⟨x, l, c, m, n, D, Pl, hcs, _, hl, hm, hmm, hx, hi⟩
  · simp [Value.cells] at hcs
    obtain ⟨rfl, rfl, rfl⟩ := hcs
    exact ⟨[], rfl, Segs.nil _ _ _, Nat.le_refl _, Nat.zero_le _, fun N _ s hs => by cases hs⟩
  · simp [Value.cells] at hcs
    obtain ⟨rfl, rfl, rfl⟩ := hcs
    have hmc : m = cap := by simpa using hmm
    have hC : Try.prog.cellsOf 45 = 2 := by kernel_rfl
    have one : ∀ i, i < len → ∃ s : Sg, w.cell? (x.add (i * 2)) = some (.int .i64 s.kind) ∧ w.cell? (x.add (i * 2 + 1)) = some (.slice s.adr s.nums.length s.cap) ∧ Sg.Ok w w.heap.size s ∧ ∀ N, (∀ u ∈ (D i).weights Try.prog 45, u ≤ N) → s.nums.length * 4 ≤ N := by
      intro i hi2
      obtain ⟨cs', hc, ht'⟩ := hi i (by omega)
      rw [hC] at hc
      obtain ⟨_, hcl, hat⟩ := World.cells?_some hc
      obtain ⟨s, rfl, hok, hwt⟩ := seg_in_w ht' hcl
      have h0 := hat 0 (by omega)
      have h1 := hat 1 (by omega)
      rw [Go.Deep.add_add] at h0 h1
      exact ⟨s, by simpa using h0, by simpa using h1, hok, hwt⟩
    have all : ∀ k, k ≤ len → ∃ L : List Sg, L.length = k ∧ ∀ (j : Nat) (s : Sg), L[j]? = some s → w.cell? (x.add (j * 2)) = some (.int .i64 s.kind) ∧ w.cell? (x.add (j * 2 + 1)) = some (.slice s.adr s.nums.length s.cap) ∧ Sg.Ok w w.heap.size s ∧ ∀ N, (∀ u ∈ (D j).weights Try.prog 45, u ≤ N) → s.nums.length * 4 ≤ N := by
      intro k
      induction k with
      | zero => exact fun _ => ⟨[], rfl, fun j s h => by simp at h⟩
      | succ k ih =>
        intro hk
        obtain ⟨L, hL, hall⟩ := ih (by omega)
        obtain ⟨s, hs⟩ := one k (by omega)
        refine ⟨L ++ [s], by simp [hL], fun j t hj => ?_⟩
        by_cases hjk : j < L.length
        · rw [List.getElem?_append_left hjk] at hj
          exact hall j t hj
        · rw [List.getElem?_append_right (by omega)] at hj
          by_cases h0 : j - L.length = 0
          · rw [h0] at hj
            obtain rfl : s = t := by simpa using hj
            obtain rfl : j = k := by omega
            exact hs
          · obtain ⟨q, hq⟩ := Nat.exists_eq_succ_of_ne_zero h0
            rw [hq] at hj
            simp at hj
    obtain ⟨L, hL, hall⟩ := all len (Nat.le_refl _)
    refine ⟨L, hL, fun hne => ?_, hl, hm, fun N hN s hs => ?_⟩
    rotate_left
    · obtain ⟨j, hj, hj2⟩ := List.mem_iff_getElem.1 hs
      refine (hall j s (by rw [List.getElem?_eq_getElem hj, hj2])).2.2.2 N (fun u hu => hN u ?_)
      have hd : d = .slice ((List.range len).map D) ((List.range (m - len)).map fun j => D (len + j)) := by
        have := congrArg Prod.fst hx
        simpa using this
      rw [hd]
      simp only [DataW.weights, Try.underlying28]
      refine List.mem_cons_of_mem _ (List.mem_append_left _ (weightsAll_mem (d := D j) ?_ u hu))
      exact List.mem_map.2 ⟨j, List.mem_range.2 (by omega), rfl⟩
    obtain ⟨s0, hs0⟩ : ∃ s, L[0]? = some s := by
      cases L with
      | nil => exact absurd rfl hne
      | cons s L => exact ⟨s, rfl⟩
    obtain ⟨b, off, spot⟩ := x
    have h0 := (hall 0 s0 hs0).1
    have hspot : spot = none := by simpa [Addr.add] using World.cell?_spot h0
    subst hspot
    refine ⟨b, off, rfl, World.block_lt_of_cell? w _ h0, fun j s hj => ?_⟩
    obtain ⟨h1, h2, h3, _⟩ := hall j s hj
    rw [Addr.add_lit] at h1 h2
    exact ⟨h1, h2, h3⟩
end
/-- A path that is short enough holds no more numbers than its longest segment could. -/
theorem few_tot : ∀ (L : List Sg), fewN L ≤ 300 → totN L = fewN L ∨ (fewN L = 300 ∧ ∃ s ∈ L, totN L = s.nums.length) := by
  intro L
  induction L with
  | nil => intro _; exact .inl rfl
  | cons s r ih =>
    intro h
    have e1 : fewN (s :: r) = min s.nums.length 300 + fewN r := by simp [fewN]
    have e2 : totN (s :: r) = s.nums.length + totN r := by simp [totN]
    rw [e1] at h
    rcases ih (by omega) with h1 | ⟨h1, t, ht, h2⟩
    · by_cases hs : s.nums.length ≤ 300
      · left; omega
      · right
        exact ⟨by omega, s, by simp, by omega⟩
    · right
      exact ⟨by omega, t, by simp [ht], by omega⟩
theorem few_tot_le {L : List Sg} (hf : fewB L = true) (h : ∀ s ∈ L, s.nums.length * 4 ≤ 140737488351232) : totN L ≤ 35184372088832 := by
  have h1 : L.length ≤ 12 ∧ fewN L ≤ 300 := of_decide_eq_true hf
  rcases few_tot L h1.2 with h2 | ⟨_, s, hs, h2⟩
  · omega
  · have := h s hs
    omega

theorem cu15 : Try.prog.cellsOf 27 = 1 := by kernel_rfl
theorem cb15 : Try.prog.cellsOf 4 = 1 := by kernel_rfl
theorem cp15 : Try.prog.cellsOf 28 = 1 := by kernel_rfl
theorem cr15 : Try.prog.cellsOf 30 = 1 := by kernel_rfl
theorem ca15 : Try.prog.cellsOf 32 = 11 := by kernel_rfl
theorem cc15 : Try.prog.cellsOf 34 = 16 := by kernel_rfl
theorem six_list {α : Type} {l : List α} (h : l.length = 6) : ∃ a b c d e f, l = [a, b, c, d, e, f] := by
  match l, h with
  | [a, b, c, d, e, f], _ => exact ⟨a, b, c, d, e, f, rfl⟩
theorem eleven_list {α : Type} {l : List α} (h : l.length = 11) : ∃ a b c d e f g i j k m, l = [a, b, c, d, e, f, g, i, j, k, m] := by
  match l, h with
  | [a, b, c, d, e, f, g, i, j, k, m], _ => exact ⟨a, b, c, d, e, f, g, i, j, k, m, rfl⟩
theorem sixteen_list {α : Type} {l : List α} (h : l.length = 16) : ∃ a b c d e f g i j k m n p q r s, l = [a, b, c, d, e, f, g, i, j, k, m, n, p, q, r, s] := by
  match l, h with
  | [a, b, c, d, e, f, g, i, j, k, m, n, p, q, r, s], _ => exact ⟨a, b, c, d, e, f, g, i, j, k, m, n, p, q, r, s, rfl⟩
section
variable {H : Type} {enc : TypeId × Value → H} {w : World}
/-- Any slice: its header. -/
theorem hdr_in {t e : TypeId} {n : Nat} {c : Value} {y : DataW H × List MemPlace} (ht : Try.prog.underlying t = some (.slice e)) (h : DataW.trod enc Try.prog w 0 (fun _ => true) true n t [c] = some y) : ∃ A l k, c = .slice A l k := by
  rcases Go.Deep.open_slice ht h with ⟨hcs, _⟩ | ⟨x, l, k, m, n, D, Pl, hcs, _⟩
  · exact ⟨none, 0, 0, by simpa using hcs⟩
  · exact ⟨some x, l, k, by simpa using hcs⟩
/-- How much one candidate's path may hold. -/
def Wt (N : Nat) (L : List Sg) : Prop := ∀ s ∈ L, s.nums.length * 4 ≤ N
/-- Attributes that came in, as a candidate's. -/
theorem attrs_in {n : Nat} {cs : List Value} {y : DataW H × List MemPlace} (h : DataW.trod enc Try.prog w 0 (fun _ => true) true n 32 cs = some y) (hl : cs.length = 11) :
    ∃ (org : Int) (pa : Option Addr) (pc : Nat) (L : List Sg) (next med pref : Int) (atomic has : Bool) (aas aad : Int) (ca : Option Addr) (cn cc : Nat) (ra : Option Addr) (rn rc : Nat),
      cs = [.int .i64 org, .slice pa L.length pc, .int .u32 next, .int .i64 med, .int .i64 pref, .bool atomic, .bool has, .int .u32 aas, .int .u32 aad, .slice ca cn cc, .slice ra rn rc] ∧ Segs w w.heap.size pa L ∧ (L.length ≤ pc ∧ pc ≤ maxLen) ∧
      (-9223372036854775808 ≤ org ∧ org ≤ 9223372036854775807) ∧ (-9223372036854775808 ≤ med ∧ med ≤ 9223372036854775807) ∧ (-9223372036854775808 ≤ pref ∧ pref ≤ 9223372036854775807) ∧
      ∀ N, (∀ u ∈ y.1.weights Try.prog 32, u ≤ N) → Wt N L := by
  obtain ⟨xs, m, _, hx, _, hlen, hg⟩ := DataW.trod_struct Try.underlying32 h
  obtain ⟨y0, y1, y2, y3, y4, y5, y6, y7, y8, y9, y10, rfl⟩ := eleven_list hlen
  obtain ⟨c0, c1, c2, c3, c4, c5, c6, c7, c8, c9, c10, rfl⟩ := eleven_list hl
  have g0 := hg 0 _ rfl
  have g1 := hg 1 _ rfl
  have g2 := hg 2 _ rfl
  have g3 := hg 3 _ rfl
  have g4 := hg 4 _ rfl
  have g5 := hg 5 _ rfl
  have g6 := hg 6 _ rfl
  have g7 := hg 7 _ rfl
  have g8 := hg 8 _ rfl
  have g9 := hg 9 _ rfl
  have g10 := hg 10 _ rfl
  have q1 : DataW.trod enc Try.prog w 0 (fun _ => true) true m 28 ((List.drop 1 [c0, c1, c2, c3, c4, c5, c6, c7, c8, c9, c10]).take (Try.prog.cellsOf 28)) = some y1 := g1
  rw [cp15] at q1
  have f1 : DataW.trod enc Try.prog w 0 (fun _ => true) true m 28 [c1] = some y1 := q1
  have q9 : DataW.trod enc Try.prog w 0 (fun _ => true) true m 29 ((List.drop 9 [c0, c1, c2, c3, c4, c5, c6, c7, c8, c9, c10]).take (Try.prog.cellsOf 29)) = some y9 := g9
  rw [cs1] at q9
  have f9 : DataW.trod enc Try.prog w 0 (fun _ => true) true m 29 [c9] = some y9 := q9
  have q10 : DataW.trod enc Try.prog w 0 (fun _ => true) true m 30 ((List.drop 10 [c0, c1, c2, c3, c4, c5, c6, c7, c8, c9, c10]).take (Try.prog.cellsOf 30)) = some y10 := g10
  rw [cr15] at q10
  have f10 : DataW.trod enc Try.prog w 0 (fun _ => true) true m 30 [c10] = some y10 := q10
  obtain ⟨k0, e0, _, w0⟩ := DataW.trod_int Try.underlying3 g0
  obtain rfl : c0 = .int .i64 k0 := by simpa [ci] using e0
  obtain ⟨k2, e2, _, w2⟩ := DataW.trod_int Try.underlying27 g2
  obtain rfl : c2 = .int .u32 k2 := by simpa [cu15] using e2
  obtain ⟨k3, e3, _, w3⟩ := DataW.trod_int Try.underlying3 g3
  obtain rfl : c3 = .int .i64 k3 := by simpa [ci] using e3
  obtain ⟨k4, e4, _, w4⟩ := DataW.trod_int Try.underlying3 g4
  obtain rfl : c4 = .int .i64 k4 := by simpa [ci] using e4
  obtain ⟨k5, e5, _⟩ := DataW.trod_bool Try.underlying4 g5
  obtain rfl : c5 = .bool k5 := by simpa [cb15] using e5
  obtain ⟨k6, e6, _⟩ := DataW.trod_bool Try.underlying4 g6
  obtain rfl : c6 = .bool k6 := by simpa [cb15] using e6
  obtain ⟨k7, e7, _, w7⟩ := DataW.trod_int Try.underlying27 g7
  obtain rfl : c7 = .int .u32 k7 := by simpa [cu15] using e7
  obtain ⟨k8, e8, _, w8⟩ := DataW.trod_int Try.underlying27 g8
  obtain rfl : c8 = .int .u32 k8 := by simpa [cu15] using e8
  obtain ⟨A9, l9, n9, rfl⟩ := hdr_in Try.underlying29 f9
  obtain ⟨A10, l10, n10, rfl⟩ := hdr_in Try.underlying30 f10
  obtain ⟨A1, l1, n1, rfl⟩ := hdr_in Try.underlying28 f1
  obtain ⟨L, hL, hs, h1, h2, hw⟩ := segs_in_w (p := y1.2) (d := y1.1) ⟨m, f1⟩
  subst hL
  refine ⟨k0, A1, n1, L, k2, k3, k4, k5, k6, k7, k8, A9, l9, n9, A10, l10, n10, rfl, hs, ⟨h1, h2⟩, bounds_i64 w0, bounds_i64 w3, bounds_i64 w4, fun N hN => hw N fun u hu => hN u ?_⟩
  rw [hx]
  simp only [DataW.weights, Try.underlying32, DataW.weightsEach, List.map_cons, List.map_nil, List.mem_append]
  exact .inr (.inl hu)
/-- A candidate that came in. -/
theorem cand_in {n : Nat} {cs : List Value} {y : DataW H × List MemPlace} (h : DataW.trod enc Try.prog w 0 (fun _ => true) true n 34 cs = some y) (hl : cs.length = 16) :
    ∃ s : Cv, cs = s.row ∧ s.In w w.heap.size ∧ ∀ N, (∀ u ∈ y.1.weights Try.prog 34, u ≤ N) → Wt N s.path := by
  obtain ⟨xs, m, _, hx, _, hlen, hg⟩ := DataW.trod_struct Try.underlying34 h
  obtain ⟨y0, y1, y2, y3, y4, y5, rfl⟩ := six_list hlen
  obtain ⟨c0, c1, c2, c3, c4, d0, d1, d2, d3, d4, d5, d6, d7, d8, d9, d10, rfl⟩ := sixteen_list hl
  have g0 := hg 0 _ rfl
  have g1 := hg 1 _ rfl
  have g2 := hg 2 _ rfl
  have g3 := hg 3 _ rfl
  have g4 := hg 4 _ rfl
  have g5 := hg 5 _ rfl
  have q5 : DataW.trod enc Try.prog w 0 (fun _ => true) true m 32 ((List.drop 5 [c0, c1, c2, c3, c4, d0, d1, d2, d3, d4, d5, d6, d7, d8, d9, d10]).take (Try.prog.cellsOf 32)) = some y5 := g5
  rw [ca15] at q5
  have f5 : DataW.trod enc Try.prog w 0 (fun _ => true) true m 32 [d0, d1, d2, d3, d4, d5, d6, d7, d8, d9, d10] = some y5 := q5
  obtain ⟨k0, e0, _, w0⟩ := DataW.trod_int Try.underlying3 g0
  obtain rfl : c0 = .int .i64 k0 := by simpa [ci] using e0
  obtain ⟨k1, e1, _⟩ := DataW.trod_bool Try.underlying4 g1
  obtain rfl : c1 = .bool k1 := by simpa [cb15] using e1
  obtain ⟨k2, e2, _, w2⟩ := DataW.trod_int Try.underlying27 g2
  obtain rfl : c2 = .int .u32 k2 := by simpa [cu15] using e2
  obtain ⟨k3, e3, _, w3⟩ := DataW.trod_int Try.underlying27 g3
  obtain rfl : c3 = .int .u32 k3 := by simpa [cu15] using e3
  obtain ⟨k4, e4, _, w4⟩ := DataW.trod_int Try.underlying27 g4
  obtain rfl : c4 = .int .u32 k4 := by simpa [cu15] using e4
  obtain ⟨org, pa, pc, L, next, med, pref, atomic, has, aas, aad, ca, cn, cc, ra, rn, rc, hcs, hs, hpc, b1, b2, b3, hw⟩ := attrs_in (show DataW.trod enc Try.prog w 0 (fun _ => true) true m 32 [d0, d1, d2, d3, d4, d5, d6, d7, d8, d9, d10] = some y5 from f5) rfl
  refine ⟨⟨k0, k1, k2, k3, k4, org, pa, pc, L, next, med, pref, atomic, has, aas, aad, ca, cn, cc, ra, rn, rc⟩, ?_, ⟨hs, hpc, bounds_u32 w2, bounds_u32 w3, bounds_u32 w4, bounds_i64 w0, b1, b2, b3⟩, fun N hN => hw N fun u hu => hN u ?_⟩
  · simp only [List.cons.injEq, and_true] at hcs
    obtain ⟨rfl, rfl, rfl, rfl, rfl, rfl, rfl, rfl, rfl, rfl, rfl⟩ := hcs
    rfl
  · rw [hx]
    simp only [DataW.weights, Try.underlying34, DataW.weightsEach, List.map_cons, List.map_nil, List.mem_append]
    exact .inr (.inr (.inr (.inr (.inr (.inl hu)))))
/-- A row of candidates that came in. -/
theorem cands_in {a : Option Addr} {len cap : Nat} {d : DataW H} {p : List MemPlace} (h : DataW.Trod enc Try.prog w 0 (fun _ => true) true 22 (.slice a len cap) d p) :
    ∃ L : List Cv, L.length = len ∧ CandsIn w w.heap.size a L ∧ len ≤ cap ∧ cap ≤ maxLen ∧ ∀ N, (∀ u ∈ d.weights Try.prog 22, u ≤ N) → ∀ s ∈ L, Wt N s.path := by
  obtain ⟨fuel, hf⟩ := h
  rcases Go.Deep.open_slice Try.underlying22 hf with ⟨hcs, _⟩ | ⟨x, l, c, m, n, D, Pl, hcs, _, hl, hm, hmm, hx, hi⟩
  · simp [Value.cells] at hcs
    obtain ⟨rfl, rfl, rfl⟩ := hcs
    exact ⟨[], rfl, CandsIn.nil _ _ _, Nat.le_refl _, Nat.zero_le _, fun N _ s hs => by cases hs⟩
  · simp [Value.cells] at hcs
    obtain ⟨rfl, rfl, rfl⟩ := hcs
    have hmc : m = cap := by simpa using hmm
    have one : ∀ i, i < len → ∃ s : Cv, (∀ q u, s.row[q]? = some u → w.cell? (x.add (i * 16 + q)) = some u) ∧ s.In w w.heap.size ∧ ∀ N, (∀ u ∈ (D i).weights Try.prog 34, u ≤ N) → Wt N s.path := by
      intro i hi2
      obtain ⟨cs', hc, ht'⟩ := hi i (by omega)
      rw [cc15] at hc
      obtain ⟨_, hcl, hat⟩ := World.cells?_some hc
      obtain ⟨s, rfl, hok, hwt⟩ := cand_in ht' hcl
      refine ⟨s, fun q u hu => ?_, hok, hwt⟩
      have hq : q < 16 := by have := (List.getElem?_eq_some_iff.1 hu).1; rw [hcl] at this; exact this
      have h0 := hat q hq
      rw [Go.Deep.add_add, hu] at h0
      exact h0
    have all : ∀ k, k ≤ len → ∃ L : List Cv, L.length = k ∧ ∀ (j : Nat) (s : Cv), L[j]? = some s → (∀ q u, s.row[q]? = some u → w.cell? (x.add (j * 16 + q)) = some u) ∧ s.In w w.heap.size ∧ ∀ N, (∀ u ∈ (D j).weights Try.prog 34, u ≤ N) → Wt N s.path := by
      intro k
      induction k with
      | zero => exact fun _ => ⟨[], rfl, fun j s h => by simp at h⟩
      | succ k ih =>
        intro hk
        obtain ⟨L, hL, hall⟩ := ih (by omega)
        obtain ⟨s, hs⟩ := one k (by omega)
        refine ⟨L ++ [s], by simp [hL], fun j t hj => ?_⟩
        by_cases hjk : j < L.length
        · rw [List.getElem?_append_left hjk] at hj
          exact hall j t hj
        · rw [List.getElem?_append_right (by omega)] at hj
          by_cases h0 : j - L.length = 0
          · rw [h0] at hj
            obtain rfl : s = t := by simpa using hj
            obtain rfl : j = k := by omega
            exact hs
          · obtain ⟨q, hq⟩ := Nat.exists_eq_succ_of_ne_zero h0
            rw [hq] at hj
            simp at hj
    obtain ⟨L, hL, hall⟩ := all len (Nat.le_refl _)
    refine ⟨L, hL, fun hne => ?_, hl, hm, fun N hN s hs => ?_⟩
    rotate_left
    · obtain ⟨j, hj, hj2⟩ := List.mem_iff_getElem.1 hs
      refine (hall j s (by rw [List.getElem?_eq_getElem hj, hj2])).2.2 N (fun u hu => hN u ?_)
      have hd : d = .slice ((List.range len).map D) ((List.range (m - len)).map fun j => D (len + j)) := by
        have := congrArg Prod.fst hx
        simpa using this
      rw [hd]
      simp only [DataW.weights, Try.underlying22]
      refine List.mem_cons_of_mem _ (List.mem_append_left _ (weightsAll_mem (d := D j) ?_ u hu))
      exact List.mem_map.2 ⟨j, List.mem_range.2 (by omega), rfl⟩
    obtain ⟨s0, hs0⟩ : ∃ s, L[0]? = some s := by
      cases L with
      | nil => exact absurd rfl hne
      | cons s L => exact ⟨s, rfl⟩
    obtain ⟨b, off, spot⟩ := x
    have h0 := (hall 0 s0 hs0).1 0 _ rfl
    have hspot : spot = none := by simpa [Addr.add] using World.cell?_spot h0
    subst hspot
    refine ⟨b, off, rfl, World.block_lt_of_cell? w _ h0, fun j s hj => ?_⟩
    obtain ⟨h1, h2, _⟩ := hall j s hj
    refine ⟨fun i u hu => ?_, h2⟩
    have h3 := h1 i u hu
    rw [Addr.add_lit] at h3
    rw [Nat.add_assoc]
    exact h3
/-- A candidate that came in as it is. -/
theorem cand_arg {b0 : Nat} {v : Value} {d : DataW H} {p : List MemPlace} (hv : Value.okWide Try.prog w .any b0 34 v) (h : DataW.Trod enc Try.prog w 0 (fun _ => true) true 34 v d p) :
    ∃ s : Cv, v = s.agg ∧ s.In w w.heap.size ∧ ∀ N, (∀ u ∈ d.weights Try.prog 34, u ≤ N) → Wt N s.path := by
  obtain ⟨cs, rfl, hsz⟩ := okWide_struct Try.underlying34 hv
  obtain ⟨fuel, hf⟩ := h
  obtain ⟨s, hs, h1, h2⟩ := cand_in (y := (d, p)) hf (by show cs.toList.length = 16; rw [Array.length_toList, hsz, cc15])
  refine ⟨s, ?_, h1, h2⟩
  unfold Cv.agg
  rw [← hs]
  simp [Value.cells]
end
theorem cnt_ok {c : Cv} (hf : fewB c.path = true) (h : Wt reachBytes c.path) : CntOk c := by
  have h1 := few_tot_le hf (fun s hs => Nat.le_trans (h s hs) (by unfold reachBytes; decide))
  have h2 : c.path.length ≤ 12 ∧ fewN c.path ≤ 300 := of_decide_eq_true hf
  unfold CntOk
  omega
end Go.Proofs.Ytpjhidicgclmbaa

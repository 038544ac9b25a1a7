/-
  Deeds on a table of cursors that come in as a statement's argument.
-/
import Derived.Test.YtgaoonnokhlgjaaFrameP
import Derived.Test.YtgaoonnokhlgjaaAwake26
import Derived.Test.YtgaoonnokhlgjaaSame26
import Derived.Deep.Slices
import Derived.Deep.Fields
namespace Go.Proofs.Ytgaoonnokhlgjaa
open Go.ChangeShapes Go.WideShapes Go.ChangeAt Go.RowKit
set_option linter.unusedVariables false
set_option linter.unusedSimpArgs false

/-- A deed: its kind, its cursor, its owner and number, the prefix. -/
structure A26 where
  kind : Nat
  c : Cu
  owner : Int
  id : Int
  aa : Int
  al : Int
def A26.row (s : A26) : List Value := [.int .u8 (s.kind : Int), .int .i64 s.c.id, .int .i64 s.c.owner, .int .i64 s.c.ver, .int .i64 s.c.kind, .int .i64 s.c.mode, .int .u32 s.c.qa, .int .i64 s.c.ql, .int .i64 s.c.table, .int .i64 s.c.peer, .string s.c.regex, .slice s.c.commsA s.c.comms.length s.c.commsC, .int .i64 s.c.cur, .bool s.c.out, .int .u32 s.c.aa, .int .i64 s.c.al, .int .i64 s.c.age, .int .i64 s.owner, .int .i64 s.id, .int .u32 s.aa, .int .i64 s.al]
def A26.ok (w : World) (s : A26) : Prop := s.kind < 256 ∧ At32 w w.heap.size s.c.commsA s.c.comms ∧ (-9223372036854775808 ≤ s.c.owner ∧ s.c.owner ≤ 9223372036854775807)
def ActsIn26 (w : World) (A : Option Addr) (L : List A26) : Prop :=
  L ≠ [] → ∃ b off, A = some ⟨b, off, none⟩ ∧ b < w.heap.size ∧ ∀ (j : Nat) s, L[j]? = some s → RowAt w b (off + j * 21) s.row
theorem ActsIn26.nil (w : World) (A : Option Addr) : ActsIn26 w A [] := fun h => absurd rfl h
theorem ActsIn26.at {w w' : World} {A : Option Addr} {L : List A26} (h : ActsIn26 w A L) (hb : Below w.heap.size w w') {k : Nat} {x : A26} (hk : L[k]? = some x) : ∃ b off, A = some ⟨b, off, none⟩ ∧ b < w.heap.size ∧ RowAt w' b (off + k * 21) x.row := by
  obtain ⟨b, off, hA, hlt, hc⟩ := h (by intro e; subst e; simp at hk)
  exact ⟨b, off, hA, hlt, (hc k x hk).below hb hlt⟩
theorem A26.one (s : A26) : ∀ v ∈ s.row, v.oneCell' = true := by
  intro v hv
  simp only [A26.row, List.mem_cons, List.not_mem_nil, or_false] at hv
  rcases hv with rfl | rfl | rfl | rfl | rfl | rfl | rfl | rfl | rfl | rfl | rfl | rfl | rfl | rfl | rfl | rfl | rfl | rfl | rfl | rfl | rfl <;> rfl
theorem isA26 (s : A26) : IsS Try.prog 38 s.row.length := ⟨fun w => by kernel_rfl, fun w => by kernel_rfl⟩
theorem isQ26 (c : Cu) : IsS Try.prog 34 c.qrow.length := ⟨fun w => by kernel_rfl, fun w => by kernel_rfl⟩
/-- The deed's cursor, within its row. -/
theorem A26.sub {w : World} {b off : Nat} {s : A26} (h : RowAt w b off s.row) : RowAt w b (off + 1) s.c.row := fun i u hu => by
  have e : s.row[1 + i]? = some u := by
    have hi : i < 16 := (List.getElem?_eq_some_iff.1 hu).1
    have : s.row = [.int .u8 (s.kind : Int)] ++ (s.c.row ++ [.int .i64 s.owner, .int .i64 s.id, .int .u32 s.aa, .int .i64 s.al]) := rfl
    rw [this, List.getElem?_append_right (by simp), List.getElem?_append_left (by show 1 + i - 1 < 16; omega)]
    simpa using hu
  have := h (1 + i) u e
  rwa [show off + 1 + i = off + (1 + i) by omega]
theorem A26.query {w : World} {b off : Nat} {s : A26} (h : RowAt w b off s.row) : RowAt w b (off + 4) s.c.qrow := fun i u hu => by
  have e : s.row[4 + i]? = some u := by
    have hi : i < 10 := (List.getElem?_eq_some_iff.1 hu).1
    have : s.row = [.int .u8 (s.kind : Int), .int .i64 s.c.id, .int .i64 s.c.owner, .int .i64 s.c.ver] ++ (s.c.qrow ++ [.int .u32 s.c.aa, .int .i64 s.c.al, .int .i64 s.c.age, .int .i64 s.owner, .int .i64 s.id, .int .u32 s.aa, .int .i64 s.al]) := rfl
    rw [this, List.getElem?_append_right (by simp), List.getElem?_append_left (by show 4 + i - 4 < 10; omega)]
    simpa using hu
  have := h (4 + i) u e
  rwa [show off + 4 + i = off + (4 + i) by omega]

theorem nums_of26 {w : World} {x : Addr} {len cap : Nat} {zs : List Int} (hl : len ≤ cap) (hz : zs.length = cap) (hc : ∀ i, i < zs.length → w.cell? (x.add i) = some (.int .u32 (zs.getD i 0))) (hwz : ∀ n ∈ zs, (Lit.int .u32 n).wf = true) :
    ∃ l : List Nat, l.length = len ∧ At32 w w.heap.size (some x) l := by
  refine ⟨(zs.take len).map Int.toNat, by simp; omega, fun hne => ?_⟩
  have hpos : 0 < len := by
    rcases Nat.eq_zero_or_pos len with h0 | h0
    · subst h0; simp at hne
    · exact h0
  obtain ⟨b, off, spot⟩ := x
  have h0 := hc 0 (by omega)
  have hspot : spot = none := by simpa [Addr.add] using World.cell?_spot h0
  subst hspot
  refine ⟨b, off, rfl, World.block_lt_of_cell? w _ h0, fun j hj => ?_⟩
  have hj' : j < len := by simpa [hz, Nat.min_eq_left hl] using hj
  have h1 := hc j (by omega)
  rw [Addr.add_lit] at h1
  rw [h1]
  have hjz : j < zs.length := by omega
  have hm := hwz zs[j] (List.getElem_mem _)
  have hr := bounds_u32 hm
  simp [List.getD, hjz, hj']
  omega
theorem cz1 : Try.prog.cellsOf 3 = 1 ∧ Try.prog.cellsOf 5 = 1 ∧ Try.prog.cellsOf 29 = 1 ∧ Try.prog.cellsOf 9 = 1 ∧ Try.prog.cellsOf 4 = 1 ∧ Try.prog.cellsOf 32 = 1 ∧ Try.prog.cellsOf 31 = 2 ∧ Try.prog.cellsOf 34 = 10 ∧ Try.prog.cellsOf 36 = 16 ∧ Try.prog.cellsOf 38 = 21 := ⟨by kernel_rfl, by kernel_rfl, by kernel_rfl, by kernel_rfl, by kernel_rfl, by kernel_rfl, by kernel_rfl, by kernel_rfl, by kernel_rfl, by kernel_rfl⟩
theorem list2 {α : Type} {l : List α} (h : l.length = 2) : ∃ a b, l = [a, b] := by
  match l, h with
  | [a, b], _ => exact ⟨a, b, rfl⟩
theorem list10 {α : Type} {l : List α} (h : l.length = 10) : ∃ a0 a1 a2 a3 a4 a5 a6 a7 a8 a9, l = [a0, a1, a2, a3, a4, a5, a6, a7, a8, a9] := by
  match l, h with
  | [a0, a1, a2, a3, a4, a5, a6, a7, a8, a9], _ => exact ⟨a0, a1, a2, a3, a4, a5, a6, a7, a8, a9, rfl⟩
theorem list16 {α : Type} {l : List α} (h : l.length = 16) : ∃ a0 a1 a2 a3 a4 a5 a6 a7 a8 a9 a10 a11 a12 a13 a14 a15, l = [a0, a1, a2, a3, a4, a5, a6, a7, a8, a9, a10, a11, a12, a13, a14, a15] := by
  match l, h with
  | [a0, a1, a2, a3, a4, a5, a6, a7, a8, a9, a10, a11, a12, a13, a14, a15], _ => exact ⟨a0, a1, a2, a3, a4, a5, a6, a7, a8, a9, a10, a11, a12, a13, a14, a15, rfl⟩
theorem list21 {α : Type} {l : List α} (h : l.length = 21) : ∃ a0 a1 a2 a3 a4 a5 a6 a7 a8 a9 a10 a11 a12 a13 a14 a15 a16 a17 a18 a19 a20, l = [a0, a1, a2, a3, a4, a5, a6, a7, a8, a9, a10, a11, a12, a13, a14, a15, a16, a17, a18, a19, a20] := by
  match l, h with
  | [a0, a1, a2, a3, a4, a5, a6, a7, a8, a9, a10, a11, a12, a13, a14, a15, a16, a17, a18, a19, a20], _ => exact ⟨a0, a1, a2, a3, a4, a5, a6, a7, a8, a9, a10, a11, a12, a13, a14, a15, a16, a17, a18, a19, a20, rfl⟩
section
variable {H : Type} {enc : TypeId × Value → H} {w : World}
theorem some_of {α : Type} {n i : Nat} {l : List α} {x : Option α} (hl : l.length = n) (hi : i < n) (h : x = l[i]?) : ∃ y, x = some y := ⟨l[i], by rw [h, List.getElem?_eq_getElem (by omega)]⟩
theorem pfx26 {n : Nat} {cs : List Value} {y : DataW H × List MemPlace} (h : DataW.trod enc Try.prog w 0 (fun _ => true) true n 31 cs = some y) (hl : cs.length = 2) : ∃ a l : Int, cs = [.int .u32 a, .int .i64 l] := by
  obtain ⟨y0, y1, n', hx, _, h0, h1⟩ := trod_struct2 Try.underlying31 h
  obtain ⟨c0, c1, rfl⟩ := list2 hl
  obtain ⟨k, e0, _⟩ := DataW.trod_int Try.underlying29 h0
  obtain ⟨m, e1, _⟩ := DataW.trod_int Try.underlying3 h1
  obtain ⟨z1, z2, z3, _⟩ := cz1
  refine ⟨k, m, ?_⟩
  have a0 : c0 = .int .u32 k := by simpa [z1, z3] using e0
  have a1 : c1 = .int .i64 m := by simpa [z1, z3] using e1
  rw [a0, a1]
theorem query26 {n : Nat} {cs : List Value} {y : DataW H × List MemPlace} (h : DataW.trod enc Try.prog w 0 (fun _ => true) true n 34 cs = some y) (hl : cs.length = 10) :
    ∃ c : Cu, cs = c.qrow ∧ At32 w w.heap.size c.commsA c.comms := by
  obtain ⟨z1, z2, z3, z4, z5, z6, z7, z8, z9, z10⟩ := cz1
  obtain ⟨c0, c1, c2, c3, c4, c5, c6, c7, c8, c9, rfl⟩ := list10 hl
  obtain ⟨xs, m, _, hx, _, hlen, hg⟩ := DataW.trod_struct Try.underlying34 h
  have hlen9 : xs.length = 9 := hlen
  have g0 := hg 0 _ rfl
  obtain ⟨y0, hy0⟩ := some_of hlen9 (i := 0) (by decide) g0
  obtain ⟨k0, e0, _⟩ := DataW.trod_int Try.underlying3 hy0
  have a0 : c0 = .int .i64 k0 := by simpa [z1, z7] using e0
  have g1 := hg 1 _ rfl
  obtain ⟨y1, hy1⟩ := some_of hlen9 (i := 1) (by decide) g1
  obtain ⟨k1, e1, _⟩ := DataW.trod_int Try.underlying3 hy1
  have a1 : c1 = .int .i64 k1 := by simpa [z1, z7] using e1
  have g2 := hg 2 _ rfl
  obtain ⟨y2, hy2⟩ := some_of hlen9 (i := 2) (by decide) g2
  obtain ⟨k2, l2, e2⟩ := pfx26 hy2 (by simp [z7])
  have a2 : c2 = .int .u32 k2 ∧ c3 = .int .i64 l2 := by simpa [z7] using e2
  have g3 := hg 3 _ rfl
  obtain ⟨y3, hy3⟩ := some_of hlen9 (i := 3) (by decide) g3
  obtain ⟨k3, e3, _⟩ := DataW.trod_int Try.underlying3 hy3
  have a3 : c4 = .int .i64 k3 := by simpa [z1, z7] using e3
  have g4 := hg 4 _ rfl
  obtain ⟨y4, hy4⟩ := some_of hlen9 (i := 4) (by decide) g4
  obtain ⟨k4, e4, _⟩ := DataW.trod_int Try.underlying3 hy4
  have a4 : c5 = .int .i64 k4 := by simpa [z1, z7] using e4
  have g5 := hg 5 _ rfl
  obtain ⟨y5, hy5⟩ := some_of hlen9 (i := 5) (by decide) g5
  obtain ⟨k5, e5, _⟩ := DataW.trod_string Try.underlying9 hy5
  have a5 : c6 = .string k5 := by simpa [z1, z4, z7] using e5
  have g6 := hg 6 _ rfl
  obtain ⟨y6, hy6⟩ := some_of hlen9 (i := 6) (by decide) g6
  have g7 := hg 7 _ rfl
  obtain ⟨y7, hy7⟩ := some_of hlen9 (i := 7) (by decide) g7
  obtain ⟨k7, e7, _⟩ := DataW.trod_int Try.underlying3 hy7
  have a7 : c8 = .int .i64 k7 := by simpa [z1, z7] using e7
  have g8 := hg 8 _ rfl
  obtain ⟨y8, hy8⟩ := some_of hlen9 (i := 8) (by decide) g8
  obtain ⟨k8, e8, _⟩ := DataW.trod_bool Try.underlying4 hy8
  have a8 : c9 = .bool k8 := by simpa [z1, z5, z7] using e8
  subst a0 a1 a3 a4 a5 a7 a8
  obtain ⟨rfl, rfl⟩ := a2
  rcases open_ints Try.underlying32 Try.underlying29 (by kernel_rfl) hy6 with ⟨e6, _⟩ | ⟨a, len, cap, zs, e6, _, hl9, hm9, hz, _, hcell, hwz⟩
  · have a6 : c7 = .slice none 0 0 := by simpa [z6, z7] using e6
    subst a6
    exact ⟨⟨0, 0, 0, k0, k1, k2, l2, k3, k4, k5, none, [], 0, k7, k8, 0, 0, 0⟩, rfl, At32.nil _ _ _⟩
  · have a6 : c7 = .slice (some a) len cap := by simpa [z6, z7] using e6
    subst a6
    obtain ⟨z, hz1, hz2⟩ := nums_of26 hl9 (cap := cap) (by simpa using hz) hcell hwz
    subst hz1
    exact ⟨⟨0, 0, 0, k0, k1, k2, l2, k3, k4, k5, some a, z, cap, k7, k8, 0, 0, 0⟩, rfl, hz2⟩
theorem cursor26 {n : Nat} {cs : List Value} {y : DataW H × List MemPlace} (h : DataW.trod enc Try.prog w 0 (fun _ => true) true n 36 cs = some y) (hl : cs.length = 16) :
    ∃ c : Cu, cs = c.row ∧ At32 w w.heap.size c.commsA c.comms ∧ (-9223372036854775808 ≤ c.owner ∧ c.owner ≤ 9223372036854775807) := by
  obtain ⟨z1, z2, z3, z4, z5, z6, z7, z8, z9, z10⟩ := cz1
  obtain ⟨c0, c1, c2, c3, c4, c5, c6, c7, c8, c9, c10, c11, c12, c13, c14, c15, rfl⟩ := list16 hl
  obtain ⟨xs, m, _, hx, _, hlen, hg⟩ := DataW.trod_struct Try.underlying36 h
  have hlen9 : xs.length = 6 := hlen
  have g0 := hg 0 _ rfl
  obtain ⟨y0, hy0⟩ := some_of hlen9 (i := 0) (by decide) g0
  have g1 := hg 1 _ rfl
  obtain ⟨y1, hy1⟩ := some_of hlen9 (i := 1) (by decide) g1
  have g2 := hg 2 _ rfl
  obtain ⟨y2, hy2⟩ := some_of hlen9 (i := 2) (by decide) g2
  have g3 := hg 3 _ rfl
  obtain ⟨y3, hy3⟩ := some_of hlen9 (i := 3) (by decide) g3
  have g4 := hg 4 _ rfl
  obtain ⟨y4, hy4⟩ := some_of hlen9 (i := 4) (by decide) g4
  have g5 := hg 5 _ rfl
  obtain ⟨y5, hy5⟩ := some_of hlen9 (i := 5) (by decide) g5
  obtain ⟨k0, e0, _⟩ := DataW.trod_int Try.underlying3 hy0
  obtain ⟨k1, e1, _, w1⟩ := DataW.trod_int Try.underlying3 hy1
  obtain ⟨k2, e2, _⟩ := DataW.trod_int Try.underlying3 hy2
  obtain ⟨q, e3, hq⟩ := query26 hy3 (by simp [z8])
  obtain ⟨k4, l4, e4⟩ := pfx26 hy4 (by simp [z7])
  obtain ⟨k5, e5, _⟩ := DataW.trod_int Try.underlying3 hy5
  have a0 : c0 = .int .i64 k0 := by simpa [z1] using e0
  have a1 : c1 = .int .i64 k1 := by simpa [z1] using e1
  have a2 : c2 = .int .i64 k2 := by simpa [z1] using e2
  have a3 : [c3, c4, c5, c6, c7, c8, c9, c10, c11, c12] = q.qrow := by simpa [z8] using e3
  have a4 : c13 = .int .u32 k4 ∧ c14 = .int .i64 l4 := by simpa [z7] using e4
  have a5 : c15 = .int .i64 k5 := by simpa [z1] using e5
  refine ⟨{ q with id := k0, owner := k1, ver := k2, aa := k4, al := l4, age := k5 }, ?_, hq, bounds_i64 w1⟩
  rw [a0, a1, a2, a4.1, a4.2, a5]
  have : [c3, c4, c5, c6, c7, c8, c9, c10, c11, c12] ++ [.int .u32 k4, .int .i64 l4, .int .i64 k5] = q.qrow ++ [.int .u32 k4, .int .i64 l4, .int .i64 k5] := by rw [a3]
  exact congrArg (fun t => Value.int .i64 k0 :: Value.int .i64 k1 :: Value.int .i64 k2 :: t) this
theorem act26_in {n : Nat} {cs : List Value} {y : DataW H × List MemPlace} (h : DataW.trod enc Try.prog w 0 (fun _ => true) true n 38 cs = some y) (hl : cs.length = 21) :
    ∃ s : A26, cs = s.row ∧ s.ok w := by
  obtain ⟨z1, z2, z3, z4, z5, z6, z7, z8, z9, z10⟩ := cz1
  obtain ⟨c0, c1, c2, c3, c4, c5, c6, c7, c8, c9, c10, c11, c12, c13, c14, c15, c16, c17, c18, c19, c20, rfl⟩ := list21 hl
  obtain ⟨xs, m, _, hx, _, hlen, hg⟩ := DataW.trod_struct Try.underlying38 h
  have hlen9 : xs.length = 5 := hlen
  have g0 := hg 0 _ rfl
  obtain ⟨y0, hy0⟩ := some_of hlen9 (i := 0) (by decide) g0
  have g1 := hg 1 _ rfl
  obtain ⟨y1, hy1⟩ := some_of hlen9 (i := 1) (by decide) g1
  have g2 := hg 2 _ rfl
  obtain ⟨y2, hy2⟩ := some_of hlen9 (i := 2) (by decide) g2
  have g3 := hg 3 _ rfl
  obtain ⟨y3, hy3⟩ := some_of hlen9 (i := 3) (by decide) g3
  have g4 := hg 4 _ rfl
  obtain ⟨y4, hy4⟩ := some_of hlen9 (i := 4) (by decide) g4
  obtain ⟨k0, e0, _, w0⟩ := DataW.trod_int Try.underlying5 hy0
  obtain ⟨c, e1, hq, hb⟩ := cursor26 hy1 (by simp [z9])
  obtain ⟨k2, e2, _⟩ := DataW.trod_int Try.underlying3 hy2
  obtain ⟨k3, e3, _⟩ := DataW.trod_int Try.underlying3 hy3
  obtain ⟨k4, l4, e4⟩ := pfx26 hy4 (by simp [z7])
  have hk := bounds_u8 w0
  obtain ⟨q, rfl⟩ := Int.eq_ofNat_of_zero_le hk.1
  have a0 : c0 = .int .u8 (q : Int) := by simpa [z2] using e0
  have a1 : [c1, c2, c3, c4, c5, c6, c7, c8, c9, c10, c11, c12, c13, c14, c15, c16] = c.row := by simpa [z9] using e1
  have a2 : c17 = .int .i64 k2 := by simpa [z1] using e2
  have a3 : c18 = .int .i64 k3 := by simpa [z1] using e3
  have a4 : c19 = .int .u32 k4 ∧ c20 = .int .i64 l4 := by simpa [z7] using e4
  refine ⟨⟨q, c, k2, k3, k4, l4⟩, ?_, by show q < 256; omega, hq, hb⟩
  rw [a0, a2, a3, a4.1, a4.2]
  have : [c1, c2, c3, c4, c5, c6, c7, c8, c9, c10, c11, c12, c13, c14, c15, c16] ++ [.int .i64 k2, .int .i64 k3, .int .u32 k4, .int .i64 l4] = c.row ++ [.int .i64 k2, .int .i64 k3, .int .u32 k4, .int .i64 l4] := by rw [a1]
  exact congrArg (fun t => Value.int .u8 (q : Int) :: t) this
/-- A row of deeds that came in. -/
theorem acts26_in {a : Option Addr} {len cap : Nat} {d : DataW H} {p : List MemPlace} (h : DataW.Trod enc Try.prog w 0 (fun _ => true) true 22 (.slice a len cap) d p) :
    ∃ L : List A26, L.length = len ∧ ActsIn26 w a L ∧ len ≤ cap ∧ cap ≤ maxLen ∧ ∀ s ∈ L, s.ok w := by
  obtain ⟨fuel, hf⟩ := h
  rcases Go.Deep.open_slice Try.underlying22 hf with ⟨hcs, _⟩ | ⟨x, l, c, m, n, D, Pl, hcs, _, hl, hm, hmm, hx, hi⟩
  · simp [Value.cells] at hcs
    obtain ⟨rfl, rfl, rfl⟩ := hcs
    exact ⟨[], rfl, ActsIn26.nil _ _, Nat.le_refl _, Nat.zero_le _, fun s hs => by cases hs⟩
  · simp [Value.cells] at hcs
    obtain ⟨rfl, rfl, rfl⟩ := hcs
    have hmc : m = cap := by simpa using hmm
    have hC : Try.prog.cellsOf 38 = 21 := by kernel_rfl
    have one : ∀ i, i < len → ∃ s : A26, (∀ k u, s.row[k]? = some u → w.cell? (x.add (i * 21 + k)) = some u) ∧ s.ok w := by
      intro i hi2
      obtain ⟨cs', hc, ht'⟩ := hi i (by omega)
      rw [hC] at hc
      obtain ⟨_, hcl, hat⟩ := World.cells?_some hc
      obtain ⟨s, rfl, hok⟩ := act26_in ht' hcl
      refine ⟨s, fun k u hu => ?_, hok⟩
      have hk := (List.getElem?_eq_some_iff.1 hu).1
      have h0 := hat k (by rw [← hcl]; exact hk)
      rw [Go.Deep.add_add] at h0
      rw [h0]
      exact hu
    have all : ∀ k, k ≤ len → ∃ L : List A26, L.length = k ∧ ∀ (j : Nat) (s : A26), L[j]? = some s → (∀ k u, s.row[k]? = some u → w.cell? (x.add (j * 21 + k)) = some u) ∧ s.ok w := by
      intro k
      induction k with
      | zero => exact fun _ => ⟨[], rfl, fun j s h => by simp at h⟩
      | succ k ih =>
        intro hk
        obtain ⟨L, hL, hall⟩ := ih (by omega)
        obtain ⟨s, hs⟩ := one k (by omega)
        refine ⟨L ++ [s], by simp [hL], fun j t hj => ?_⟩
        by_cases hjk : j < L.length
        · rw [List.getElem?_append_left hjk] at hj
          exact hall j t hj
        · rw [List.getElem?_append_right (by omega)] at hj
          by_cases h0 : j - L.length = 0
          · rw [h0] at hj
            obtain rfl : s = t := by simpa using hj
            obtain rfl : j = k := by omega
            exact hs
          · obtain ⟨q, hq⟩ := Nat.exists_eq_succ_of_ne_zero h0
            rw [hq] at hj
            simp at hj
    obtain ⟨L, hL, hall⟩ := all len (Nat.le_refl _)
    refine ⟨L, hL, fun hne => ?_, hl, hm, fun s hs => ?_⟩
    · obtain ⟨s0, hs0⟩ : ∃ s, L[0]? = some s := by
        cases L with
        | nil => exact absurd rfl hne
        | cons s L => exact ⟨s, rfl⟩
      obtain ⟨b, off, spot⟩ := x
      have h0 := (hall 0 s0 hs0).1 0 _ rfl
      have hspot : spot = none := by simpa [Addr.add] using World.cell?_spot h0
      subst hspot
      refine ⟨b, off, rfl, World.block_lt_of_cell? w _ h0, fun j s hj i u hu => ?_⟩
      have := (hall j s hj).1 i u hu
      rw [Addr.add_lit, ← Nat.add_assoc] at this
      exact this
    · obtain ⟨j, hj⟩ := List.getElem?_of_mem hs
      exact (hall j s hj).2
end
end Go.Proofs.Ytgaoonnokhlgjaa

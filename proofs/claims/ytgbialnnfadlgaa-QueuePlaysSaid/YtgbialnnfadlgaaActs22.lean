/-
  Deeds on a queue that come in as a statement's argument; whether they are few.
-/
import Derived.Test.YtgbialnnfadlgaaArgs22
import Derived.Test.YtgbialnnfadlgaaBytesP
namespace Go.Proofs.Ytgbialnnfadlgaa
open Go.ChangeShapes Go.WideShapes Go.ChangeAt Go.RowKit
set_option linter.unusedVariables false
set_option linter.unusedSimpArgs false

/-- A deed: its kind, its bytes, its number. -/
structure A22 where
  kind : Nat
  adr : Option Addr
  cap : Nat
  b : List UInt8
  n : Int
def A22.ok (w : World) (s : A22) : Prop := s.kind < 256 ∧ Bytes w s.adr s.b ∧ s.b.length ≤ s.cap ∧ s.cap ≤ maxLen ∧ -9223372036854775808 ≤ s.n ∧ s.n ≤ 9223372036854775807
def A22.at (w : World) (b off : Nat) (s : A22) : Prop := w.cell? ⟨b, off, none⟩ = some (.int .u8 (s.kind : Int)) ∧ w.cell? ⟨b, off + 1, none⟩ = some (.slice s.adr s.b.length s.cap) ∧ w.cell? ⟨b, off + 2, none⟩ = some (.int .i64 s.n)
def ActsIn22 (w : World) (A : Option Addr) (L : List A22) : Prop :=
  L ≠ [] → ∃ b off, A = some ⟨b, off, none⟩ ∧ b < w.heap.size ∧ ∀ (j : Nat) s, L[j]? = some s → s.at w b (off + j * 3)
theorem ActsIn22.nil (w : World) (A : Option Addr) : ActsIn22 w A [] := fun h => absurd rfl h
theorem ActsIn22.cell {w : World} {A : Option Addr} {L : List A22} (h : ActsIn22 w A L) {k : Nat} {x : A22} (hk : L[k]? = some x) : ∃ b off, A = some ⟨b, off, none⟩ ∧ b < w.heap.size ∧ x.at w b (off + k * 3) := by
  obtain ⟨b, off, hA, hlt, hc⟩ := h (by intro e; subst e; simp at hk)
  exact ⟨b, off, hA, hlt, hc k x hk⟩
theorem A22.at.below {w w' : World} {b off : Nat} {s : A22} (h : s.at w b off) (hl : b < w.heap.size) (hb : Below w.heap.size w w') : s.at w' b off :=
  ⟨(hb.cell (p := ⟨b, off, none⟩) hl).trans h.1, (hb.cell (p := ⟨b, off + 1, none⟩) hl).trans h.2.1, (hb.cell (p := ⟨b, off + 2, none⟩) hl).trans h.2.2⟩
theorem three_of {α : Type} {l : List α} (h : l.length = 3) : ∃ a b c, l = [a, b, c] := by
  match l, h with
  | [a, b, c], _ => exact ⟨a, b, c, rfl⟩
theorem pick0 {α : Type} {a b c d : α} {n : Nat} (hn : n = 1) (h : (List.drop 0 [a, b, c]).take n = [d]) : a = d := by subst hn; simpa using h
theorem pick1 {α : Type} {a b c d : α} {n : Nat} (hn : n = 1) (h : (List.drop 1 [a, b, c]).take n = [d]) : b = d := by subst hn; simpa using h
theorem pick2 {α : Type} {a b c d : α} {n : Nat} (hn : n = 1) (h : (List.drop 2 [a, b, c]).take n = [d]) : c = d := by subst hn; simpa using h
theorem ci22 : Try.prog.cellsOf 3 = 1 := by kernel_rfl
theorem cb22 : Try.prog.cellsOf 5 = 1 := by kernel_rfl
theorem cy22 : Try.prog.cellsOf 29 = 1 := by kernel_rfl
section
variable {H : Type} {enc : TypeId × Value → H} {w : World}
theorem act22_in {n : Nat} {cs : List Value} {y : DataW H × List MemPlace} (h : DataW.trod enc Try.prog w 0 (fun _ => true) true n 31 cs = some y) (hl : cs.length = 3) :
    ∃ s : A22, cs = [.int .u8 (s.kind : Int), .slice s.adr s.b.length s.cap, .int .i64 s.n] ∧ s.ok w := by
  obtain ⟨y0, y1, y2, n', hx, _, h0, h1, h2⟩ := Go.Deep.trod_struct3 Try.underlying31 h
  obtain ⟨c0, c1, c2, rfl⟩ := three_of hl
  obtain ⟨k, e0, _, wk⟩ := DataW.trod_int Try.underlying5 h0
  obtain ⟨m, e2, _, wm⟩ := DataW.trod_int Try.underlying3 h2
  obtain rfl : c0 = .int .u8 k := pick0 cb22 e0
  obtain rfl : c2 = .int .i64 m := pick2 ci22 e2
  have hk := bounds_u8 wk
  have hm := bounds_i64 wm
  obtain ⟨q, rfl⟩ := Int.eq_ofNat_of_zero_le hk.1
  rcases open_ints Try.underlying29 Try.underlying5 (by kernel_rfl) h1 with ⟨e1, _⟩ | ⟨a, len, cap, zs, e1, _, hl9, hm9, hz, _, hcell, hwz⟩
  · obtain rfl : c1 = .slice none 0 0 := pick1 cy22 e1
    exact ⟨⟨q, none, 0, [], m⟩, rfl, by show q < 256; omega, Bytes.nil _ _, Nat.le_refl _, Nat.zero_le _, hm⟩
  · obtain rfl : c1 = .slice (some a) len cap := pick1 cy22 e1
    obtain ⟨z, hz1, hz2⟩ := bytes_in hl9 (cap := cap) (by simpa using hz) hcell hwz
    subst hz1
    exact ⟨⟨q, some a, cap, z, m⟩, rfl, by show q < 256; omega, hz2, hl9, hm9, hm⟩

/-- A row of deeds that came in. -/
theorem acts22_in {a : Option Addr} {len cap : Nat} {d : DataW H} {p : List MemPlace} (h : DataW.Trod enc Try.prog w 0 (fun _ => true) true 22 (.slice a len cap) d p) :
    ∃ L : List A22, L.length = len ∧ ActsIn22 w a L ∧ len ≤ cap ∧ cap ≤ maxLen ∧ ∀ s ∈ L, s.ok w := by
  obtain ⟨fuel, hf⟩ := h
  rcases Go.Deep.open_slice Try.underlying22 hf with ⟨hcs, _⟩ | ⟨x, l, c, m, n, D, Pl, hcs, _, hl, hm, hmm, hx, hi⟩
  · simp [Value.cells] at hcs
    obtain ⟨rfl, rfl, rfl⟩ := hcs
    exact ⟨[], rfl, ActsIn22.nil _ _, Nat.le_refl _, Nat.zero_le _, fun s hs => by cases hs⟩
  · simp [Value.cells] at hcs
    obtain ⟨rfl, rfl, rfl⟩ := hcs
    have hmc : m = cap := by simpa using hmm
    have hC : Try.prog.cellsOf 31 = 3 := by kernel_rfl
    have one : ∀ i, i < len → ∃ s : A22, w.cell? (x.add (i * 3)) = some (.int .u8 (s.kind : Int)) ∧ w.cell? (x.add (i * 3 + 1)) = some (.slice s.adr s.b.length s.cap) ∧ w.cell? (x.add (i * 3 + 2)) = some (.int .i64 s.n) ∧ s.ok w := by
      intro i hi2
      obtain ⟨cs', hc, ht'⟩ := hi i (by omega)
      rw [hC] at hc
      obtain ⟨_, hcl, hat⟩ := World.cells?_some hc
      obtain ⟨s, rfl, hok⟩ := act22_in ht' hcl
      have h0 := hat 0 (by omega)
      have h1 := hat 1 (by omega)
      have h2 := hat 2 (by omega)
      rw [Go.Deep.add_add] at h0 h1 h2
      exact ⟨s, by simpa using h0, by simpa using h1, by simpa using h2, hok⟩
    have all : ∀ k, k ≤ len → ∃ L : List A22, L.length = k ∧ ∀ (j : Nat) (s : A22), L[j]? = some s → w.cell? (x.add (j * 3)) = some (.int .u8 (s.kind : Int)) ∧ w.cell? (x.add (j * 3 + 1)) = some (.slice s.adr s.b.length s.cap) ∧ w.cell? (x.add (j * 3 + 2)) = some (.int .i64 s.n) ∧ s.ok w := by
      intro k
      induction k with
      | zero => exact fun _ => ⟨[], rfl, fun j s h => by simp at h⟩
      | succ k ih =>
        intro hk
        obtain ⟨L, hL, hall⟩ := ih (by omega)
        obtain ⟨s, hs⟩ := one k (by omega)
        refine ⟨L ++ [s], by simp [hL], fun j t hj => ?_⟩
        by_cases hjk : j < L.length
        · rw [List.getElem?_append_left hjk] at hj
          exact hall j t hj
        · rw [List.getElem?_append_right (by omega)] at hj
          by_cases h0 : j - L.length = 0
          · rw [h0] at hj
            obtain rfl : s = t := by simpa using hj
            obtain rfl : j = k := by omega
            exact hs
          · obtain ⟨q, hq⟩ := Nat.exists_eq_succ_of_ne_zero h0
            rw [hq] at hj
            simp at hj
    obtain ⟨L, hL, hall⟩ := all len (Nat.le_refl _)
    refine ⟨L, hL, fun hne => ?_, hl, hm, fun s hs => ?_⟩
    · obtain ⟨s0, hs0⟩ : ∃ s, L[0]? = some s := by
        cases L with
        | nil => exact absurd rfl hne
        | cons s L => exact ⟨s, rfl⟩
      obtain ⟨b, off, spot⟩ := x
      have h0 := (hall 0 s0 hs0).1
      have hspot : spot = none := by simpa [Addr.add] using World.cell?_spot h0
      subst hspot
      refine ⟨b, off, rfl, World.block_lt_of_cell? w _ h0, fun j s hj => ?_⟩
      obtain ⟨h1, h2, h3, h4⟩ := hall j s hj
      rw [Addr.add_lit] at h1 h2 h3
      exact ⟨h1, by rw [Nat.add_assoc]; exact h2, by rw [Nat.add_assoc]; exact h3⟩
    · obtain ⟨j, hj⟩ := List.getElem?_of_mem hs
      exact (hall j s hj).2.2.2
end
end Go.Proofs.Ytgbialnnfadlgaa

/-
  Parts of a path in memory: lists of numbers of four bytes, lists of segments.
-/
import Derived.Test.YtgaoonnokhlgjaaSeat
namespace Go.Proofs.Ytgaoonnokhlgjaa
set_option linter.unusedVariables false
open Go.RowKit

/-- The slice's address A leads to the numbers z (of four bytes each), in a block below B. -/
def At32 (w : World) (B : Nat) (A : Option Addr) (z : List Nat) : Prop :=
  z ≠ [] → ∃ b off, A = some ⟨b, off, none⟩ ∧ b < B ∧ ∀ j, j < z.length → w.cell? ⟨b, off + j, none⟩ = some (.int .u32 ((z.getD j 0 : Nat) : Int))
section
variable {w w' : World} {A : Option Addr} {z : List Nat} {B : Nat}
theorem At32.nil (w : World) (B : Nat) (A : Option Addr) : At32 w B A [] := fun h => absurd rfl h
theorem At32.lift {B' : Nat} (h : At32 w B A z) (hB : B ≤ B') : At32 w B' A z := fun hl => by
  obtain ⟨b, off, rfl, hlt, hc⟩ := h hl
  exact ⟨b, off, rfl, Nat.lt_of_lt_of_le hlt hB, hc⟩
theorem At32.below {B' : Nat} (h : At32 w B A z) (hb : Below B' w w') (hB : B ≤ B') : At32 w' B A z := by
  intro hl
  obtain ⟨b, off, rfl, hlt, hc⟩ := h hl
  exact ⟨b, off, rfl, hlt, fun j hj => (hb.cell (p := ⟨b, off + j, none⟩) (Nat.lt_of_lt_of_le hlt hB)).trans (hc j hj)⟩
theorem At32.cell (h : At32 w B A z) {k : Nat} (hk : k < z.length) : ∃ b off, A = some ⟨b, off, none⟩ ∧ b < B ∧ w.cell? ⟨b, off + k, none⟩ = some (.int .u32 ((z.getD k 0 : Nat) : Int)) := by
  obtain ⟨b, off, hA, hlt, hc⟩ := h (by intro e; subst e; simp at hk)
  exact ⟨b, off, hA, hlt, hc k hk⟩
theorem At32.take (h : At32 w B A z) (k : Nat) : At32 w B A (z.take k) := by
  intro hl
  obtain ⟨b, off, rfl, hlt, hcell⟩ := h (by intro e; subst e; simp at hl)
  refine ⟨b, off, rfl, hlt, fun j hj => ?_⟩
  have hj' : j < k ∧ j < z.length := by simpa [List.length_take, Nat.lt_min] using hj
  rw [hcell j hj'.2]
  simp [List.getD, hj'.1]

/-- A segment as it lies in memory: its kind, and the slice of its numbers. -/
structure Sg where
  kind : Int
  adr : Option Addr
  cap : Nat
  nums : List Nat
def Sg.agg (s : Sg) : Value := .agg #[.int .i64 s.kind, .slice s.adr s.nums.length s.cap]
/-- What may be said of a segment whose numbers lie below B. -/
def Sg.Ok (w : World) (B : Nat) (s : Sg) : Prop := s.nums.length ≤ s.cap ∧ s.cap ≤ maxLen ∧ At32 w B s.adr s.nums ∧ (∀ x ∈ s.nums, x < 4294967296) ∧ (-9223372036854775808 ≤ s.kind ∧ s.kind ≤ 9223372036854775807)
theorem Sg.Ok.below {B' : Nat} {s : Sg} (h : Sg.Ok w B s) (hb : Below B' w w') (hB : B ≤ B') : Sg.Ok w' B s := ⟨h.1, h.2.1, h.2.2.1.below hb hB, h.2.2.2⟩
theorem Sg.Ok.lift {B' : Nat} {s : Sg} (h : Sg.Ok w B s) (hB : B ≤ B') : Sg.Ok w B' s := ⟨h.1, h.2.1, h.2.2.1.lift hB, h.2.2.2⟩
/-- The slice's address A leads to the segments L, in a block below B, and so do their own slices. -/
def Segs (w : World) (B : Nat) (A : Option Addr) (L : List Sg) : Prop :=
  L ≠ [] → ∃ b off, A = some ⟨b, off, none⟩ ∧ b < B ∧ ∀ (j : Nat) (s : Sg), L[j]? = some s →
    w.cell? ⟨b, off + j * 2, none⟩ = some (.int .i64 s.kind) ∧ w.cell? ⟨b, off + j * 2 + 1, none⟩ = some (.slice s.adr s.nums.length s.cap) ∧ Sg.Ok w B s
theorem Segs.nil (w : World) (B : Nat) (A : Option Addr) : Segs w B A [] := fun h => absurd rfl h
theorem Segs.below {L : List Sg} {B' : Nat} (h : Segs w B A L) (hb : Below B' w w') (hB : B ≤ B') : Segs w' B A L := by
  intro hl
  obtain ⟨b, off, rfl, hlt, hc⟩ := h hl
  refine ⟨b, off, rfl, hlt, fun j s hj => ?_⟩
  obtain ⟨h1, h2, h3⟩ := hc j s hj
  exact ⟨(hb.cell (p := ⟨b, off + j * 2, none⟩) (Nat.lt_of_lt_of_le hlt hB)).trans h1, (hb.cell (p := ⟨b, off + j * 2 + 1, none⟩) (Nat.lt_of_lt_of_le hlt hB)).trans h2, h3.below hb hB⟩
theorem Segs.lift {L : List Sg} {B' : Nat} (h : Segs w B A L) (hB : B ≤ B') : Segs w B' A L := fun hl => by
  obtain ⟨b, off, rfl, hlt, hc⟩ := h hl
  exact ⟨b, off, rfl, Nat.lt_of_lt_of_le hlt hB, fun j s hj => ⟨(hc j s hj).1, (hc j s hj).2.1, (hc j s hj).2.2.lift hB⟩⟩
theorem Segs.at {L : List Sg} (h : Segs w B A L) {j : Nat} {s : Sg} (hj : L[j]? = some s) : ∃ b off, A = some ⟨b, off, none⟩ ∧ b < B ∧
    w.cell? ⟨b, off + j * 2, none⟩ = some (.int .i64 s.kind) ∧ w.cell? ⟨b, off + j * 2 + 1, none⟩ = some (.slice s.adr s.nums.length s.cap) ∧ Sg.Ok w B s := by
  obtain ⟨b, off, hA, hlt, hc⟩ := h (by intro e; subst e; simp at hj)
  exact ⟨b, off, hA, hlt, hc j s hj⟩
end

/-- How many numbers a path has, none of its parts counted for more than 300. -/
def fewN (L : List Sg) : Nat := (L.map fun s => min s.nums.length 300).sum
theorem fewN_take {L : List Sg} {j : Nat} {s : Sg} (h : L[j]? = some s) : fewN (L.take (j + 1)) = fewN (L.take j) + min s.nums.length 300 := by
  have hj := (List.getElem?_eq_some_iff.1 h).1
  rw [List.take_succ_eq_append_getElem hj]
  have e : L[j] = s := (List.getElem?_eq_some_iff.1 h).2
  simp [fewN, e]
theorem fewN_le (L : List Sg) (j : Nat) : fewN (L.take j) ≤ fewN L := by
  have e : fewN L = fewN (L.take j) + fewN (L.drop j) := by
    unfold fewN
    rw [← List.sum_append, ← List.map_append, List.take_append_drop]
  omega
/-- Is a path short enough? -/
def fewB (L : List Sg) : Bool := decide (L.length ≤ 12 ∧ fewN L ≤ 300)

end Go.Proofs.Ytgaoonnokhlgjaa

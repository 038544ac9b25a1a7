/-
  An OPEN's capabilities in memory.
-/
import Derived.Test.YtpdnpphkkobhgaaRead
namespace Go.Proofs.Ytpdnpphkkobhgaa
set_option linter.unusedVariables false
open Go.RowKit

/-- A capability: its code, where its bytes lie, the bytes. -/
structure Cp where
  code : Int
  adr : Option Addr
  cap : Nat
  data : List UInt8
def Cp.sl (s : Cp) : Value := .slice s.adr s.data.length s.cap
def Cp.two (s : Cp) : List Value := [.int .i64 s.code, s.sl]
def Cp.abs (s : Cp) : Int × List UInt8 := (s.code, s.data)
/-- The slice's address A leads to the capabilities L, in a block below B, and so do their bytes. -/
def CpIn (w : World) (B : Nat) (A : Option Addr) (L : List Cp) : Prop :=
  L ≠ [] → ∃ b off, A = some ⟨b, off, none⟩ ∧ b < B ∧ ∀ (j : Nat) (s : Cp), L[j]? = some s →
    w.cell? ⟨b, off + j * 2, none⟩ = some (.int .i64 s.code) ∧ w.cell? ⟨b, off + j * 2 + 1, none⟩ = some (.slice s.adr s.data.length s.cap) ∧ At w B s.adr s.data
theorem CpIn.nil (w : World) (B : Nat) (A : Option Addr) : CpIn w B A [] := fun h => absurd rfl h
section
variable {w w' : World} {B : Nat} {A : Option Addr} {L : List Cp}
theorem CpIn.below {B' : Nat} (h : CpIn w B A L) (hb : Below B' w w') (hB : B ≤ B') : CpIn w' B A L := by
  intro hl
  obtain ⟨b, off, rfl, hlt, hc⟩ := h hl
  refine ⟨b, off, rfl, hlt, fun j s hj => ?_⟩
  obtain ⟨h1, h2, h3⟩ := hc j s hj
  exact ⟨(hb.cell (p := ⟨b, off + j * 2, none⟩) (Nat.lt_of_lt_of_le hlt hB)).trans h1, (hb.cell (p := ⟨b, off + j * 2 + 1, none⟩) (Nat.lt_of_lt_of_le hlt hB)).trans h2, h3.below hb hB⟩
theorem CpIn.lift {B' : Nat} (h : CpIn w B A L) (hB : B ≤ B') : CpIn w B' A L := by
  intro hl
  obtain ⟨b, off, rfl, hlt, hc⟩ := h hl
  refine ⟨b, off, rfl, Nat.lt_of_lt_of_le hlt hB, fun j s hj => ?_⟩
  obtain ⟨h1, h2, h3⟩ := hc j s hj
  exact ⟨h1, h2, h3.lift hB⟩
theorem CpIn.at (h : CpIn w B A L) {j : Nat} {s : Cp} (hj : L[j]? = some s) : ∃ b off, A = some ⟨b, off, none⟩ ∧ b < B ∧
    w.cell? ⟨b, off + j * 2, none⟩ = some (.int .i64 s.code) ∧ w.cell? ⟨b, off + j * 2 + 1, none⟩ = some (.slice s.adr s.data.length s.cap) ∧ At w B s.adr s.data := by
  obtain ⟨b, off, hA, hlt, hc⟩ := h (by intro e; subst e; simp at hj)
  exact ⟨b, off, hA, hlt, hc j s hj⟩
end
/-- The wide number that capabilities say. -/
def wideL : List (Int × List UInt8) → Option Nat
  | [] => none
  | s :: L => if s.1 = 65 ∧ s.2.length = 4 then some (num s.2) else wideL L
theorem wideL_no : ∀ (L : List (Int × List UInt8)), (∀ s ∈ L, ¬ (s.1 = 65 ∧ s.2.length = 4)) → wideL L = none
  | [], _ => rfl
  | s :: L, h => by
    unfold wideL
    rw [if_neg (h s (by simp))]
    exact wideL_no L fun x hx => h x (by simp [hx])
theorem wideL_at : ∀ (L : List (Int × List UInt8)) (j : Nat) (s : Int × List UInt8), L[j]? = some s → (∀ x ∈ L.take j, ¬ (x.1 = 65 ∧ x.2.length = 4)) → (s.1 = 65 ∧ s.2.length = 4) → wideL L = some (num s.2)
  | [], j, s, h, _, _ => by simp at h
  | x :: L, 0, s, h, _, hs => by
    simp at h; subst h
    unfold wideL; rw [if_pos hs]
  | x :: L, j + 1, s, h, hn, hs => by
    unfold wideL
    rw [if_neg (hn x (by simp))]
    exact wideL_at L j s (by simpa using h) (fun y hy => hn y (by simp [hy])) hs
end Go.Proofs.Ytpdnpphkkobhgaa

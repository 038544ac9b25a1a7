/-
  Raw attributes in memory, and whether they may be; numbers of four bytes, or none.
-/
import Derived.Test.YthjnbjhdepfclaaDoorLook4
namespace Go.Proofs.YthjnbjhdepfclaaDoor
set_option linter.unusedVariables false
set_option linter.unusedSimpArgs false
open Go.RowKit

/-- A raw attribute: its flags, its kind, where its bytes lie, the bytes. -/
structure Rw where
  flags : Int
  ty : Int
  adr : Option Addr
  cap : Nat
  data : List UInt8
def Rw.abs (s : Rw) : Int × Int × List UInt8 := (s.flags, s.ty, s.data)
/-- The slice's address A leads to the raw attributes L, in a block below B, and so do their bytes. -/
def RwIn (w : World) (B : Nat) (A : Option Addr) (L : List Rw) : Prop :=
  L ≠ [] → ∃ b off, A = some ⟨b, off, none⟩ ∧ b < B ∧ ∀ (j : Nat) (s : Rw), L[j]? = some s →
    w.cell? ⟨b, off + j * 3, none⟩ = some (.int .i64 s.flags) ∧ w.cell? ⟨b, off + j * 3 + 1, none⟩ = some (.int .i64 s.ty) ∧ w.cell? ⟨b, off + j * 3 + 2, none⟩ = some (.slice s.adr s.data.length s.cap) ∧ At w B s.adr s.data
theorem RwIn.nil (w : World) (B : Nat) (A : Option Addr) : RwIn w B A [] := fun h => absurd rfl h
section
variable {w w' : World} {B : Nat} {A : Option Addr} {L : List Rw}
theorem RwIn.below {B' : Nat} (h : RwIn w B A L) (hb : Below B' w w') (hB : B ≤ B') : RwIn w' B A L := by
  intro hl
  obtain ⟨b, off, rfl, hlt, hc⟩ := h hl
  refine ⟨b, off, rfl, hlt, fun j s hj => ?_⟩
  obtain ⟨h1, h2, h3, h4⟩ := hc j s hj
  exact ⟨(hb.cell (p := ⟨b, off + j * 3, none⟩) (Nat.lt_of_lt_of_le hlt hB)).trans h1, (hb.cell (p := ⟨b, off + j * 3 + 1, none⟩) (Nat.lt_of_lt_of_le hlt hB)).trans h2, (hb.cell (p := ⟨b, off + j * 3 + 2, none⟩) (Nat.lt_of_lt_of_le hlt hB)).trans h3, h4.below hb hB⟩
theorem RwIn.lift {B' : Nat} (h : RwIn w B A L) (hB : B ≤ B') : RwIn w B' A L := by
  intro hl
  obtain ⟨b, off, rfl, hlt, hc⟩ := h hl
  refine ⟨b, off, rfl, Nat.lt_of_lt_of_le hlt hB, fun j s hj => ?_⟩
  obtain ⟨h1, h2, h3, h4⟩ := hc j s hj
  exact ⟨h1, h2, h3, h4.lift hB⟩
theorem RwIn.at (h : RwIn w B A L) {j : Nat} {s : Rw} (hj : L[j]? = some s) : ∃ b off, A = some ⟨b, off, none⟩ ∧ b < B ∧
    w.cell? ⟨b, off + j * 3, none⟩ = some (.int .i64 s.flags) ∧ w.cell? ⟨b, off + j * 3 + 1, none⟩ = some (.int .i64 s.ty) ∧ w.cell? ⟨b, off + j * 3 + 2, none⟩ = some (.slice s.adr s.data.length s.cap) ∧ At w B s.adr s.data := by
  obtain ⟨b, off, hA, hlt, hc⟩ := h (by intro e; subst e; simp at hj)
  exact ⟨b, off, hA, hlt, hc j s hj⟩
end

/-- May a raw attribute be, behind one of kind a? -/
def rawOk (a : Int) (s : Int × Int × List UInt8) : Bool := decide (a < s.2.1) && decide (s.2.1 ≤ 255) && !knownB s.2.1 && decide (s.1 = 224) && decide (s.2.2.length ≤ 64)
/-- May raw attributes be, behind one of kind a? -/
def rawsF : Int → List (Int × Int × List UInt8) → Bool
  | _, [] => true
  | a, s :: L => rawOk a s && rawsF s.2.1 L
/-- The kind that lies ahead of the j'th. -/
def aheadN (L : List Rw) (j : Nat) : Int := match j with
  | 0 => -1
  | j + 1 => match L[j]? with
    | some s => s.ty
    | none => 0
theorem raws_drop {L : List Rw} {j : Nat} {s : Rw} (hs : L[j]? = some s) (a : Int) : rawsF a ((L.drop j).map Rw.abs) = (rawOk a s.abs && rawsF s.ty ((L.drop (j + 1)).map Rw.abs)) := by
  have h1 := (List.getElem?_eq_some_iff.1 hs).1
  have h2 := (List.getElem?_eq_some_iff.1 hs).2
  rw [List.drop_eq_getElem_cons h1, h2]
  rfl
theorem rawOk_no1 {a : Int} {s : Rw} (h : s.ty ≤ a) : rawOk a s.abs = false := by
  unfold rawOk Rw.abs
  have : ¬ a < s.ty := by omega
  simp [this]
theorem rawOk_no2 {a : Int} {s : Rw} (h : 255 < s.ty) : rawOk a s.abs = false := by
  unfold rawOk Rw.abs
  have : ¬ s.ty ≤ 255 := by omega
  simp [this]
theorem rawOk_no3 {a : Int} {s : Rw} (h : knownB s.ty = true) : rawOk a s.abs = false := by
  unfold rawOk Rw.abs
  simp [h]
theorem rawOk_no4 {a : Int} {s : Rw} (h : ¬ s.flags = 224) : rawOk a s.abs = false := by
  unfold rawOk Rw.abs
  simp [h]
theorem rawOk_no5 {a : Int} {s : Rw} (h : ¬ s.data.length ≤ 64) : rawOk a s.abs = false := by
  unfold rawOk Rw.abs
  simp [h]
theorem rawOk_yes {a : Int} {s : Rw} (h1 : a < s.ty) (h2 : s.ty ≤ 255) (h3 : knownB s.ty = false) (h4 : s.flags = 224) (h5 : s.data.length ≤ 64) : rawOk a s.abs = true := by
  unfold rawOk Rw.abs
  simp [h1, h2, h3, h4, h5]

end Go.Proofs.YthjnbjhdepfclaaDoor

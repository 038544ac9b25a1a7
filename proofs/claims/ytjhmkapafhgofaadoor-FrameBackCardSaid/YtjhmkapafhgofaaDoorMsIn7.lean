/-
  Messages that came in; what a call of Put leaves of what was collected.
-/
import Derived.Test.YtjhmkapafhgofaaDoorStr7W
import Derived.Test.YtjhmkapafhgofaaDoorBackF7
import Derived.Test.YtjhmkapafhgofaaDoorPuts7W
import Derived.Test.YtjhmkapafhgofaaDoorAll7
namespace Go.Proofs.YtjhmkapafhgofaaDoor
set_option linter.unusedVariables false
open Go.RowKit

/-- The slice's address A leads to the messages L, in a block below B, and so do their bodies. -/
def MsIn (w : World) (B : Nat) (A : Option Addr) (L : List Ms) : Prop :=
  L ≠ [] → ∃ b off, A = some ⟨b, off, none⟩ ∧ b < B ∧ ∀ (j : Nat) (s : Ms), L[j]? = some s →
    w.cell? ⟨b, off + j * 2, none⟩ = some (.int .i64 s.kind) ∧ w.cell? ⟨b, off + j * 2 + 1, none⟩ = some (.slice s.adr s.body.length s.cap) ∧ At w B s.adr s.body
theorem MsIn.nil (w : World) (B : Nat) (A : Option Addr) : MsIn w B A [] := fun h => absurd rfl h
section
variable {w w' : World} {B : Nat} {A : Option Addr} {L : List Ms}
theorem MsIn.below {B' : Nat} (h : MsIn w B A L) (hb : Below B' w w') (hB : B ≤ B') : MsIn w' B A L := by
  intro hl
  obtain ⟨b, off, rfl, hlt, hc⟩ := h hl
  refine ⟨b, off, rfl, hlt, fun j s hj => ?_⟩
  obtain ⟨h1, h2, h3⟩ := hc j s hj
  exact ⟨(hb.cell (p := ⟨b, off + j * 2, none⟩) (Nat.lt_of_lt_of_le hlt hB)).trans h1, (hb.cell (p := ⟨b, off + j * 2 + 1, none⟩) (Nat.lt_of_lt_of_le hlt hB)).trans h2, h3.below hb hB⟩
theorem MsIn.at (h : MsIn w B A L) {j : Nat} {s : Ms} (hj : L[j]? = some s) : ∃ b off, A = some ⟨b, off, none⟩ ∧ b < B ∧
    w.cell? ⟨b, off + j * 2, none⟩ = some (.int .i64 s.kind) ∧ w.cell? ⟨b, off + j * 2 + 1, none⟩ = some (.slice s.adr s.body.length s.cap) ∧ At w B s.adr s.body := by
  obtain ⟨b, off, hA, hlt, hc⟩ := h (by intro e; subst e; simp at hj)
  exact ⟨b, off, hA, hlt, hc j s hj⟩
theorem OwnM.besideOwn {B' : Nat} {vg v : Value} {M : List Ms} {l : List UInt8} (h : OwnM w B vg M) (ho : Own w B' 5 v l) (k : w.grownBy w' v.ownBlock) : OwnM w' B vg M :=
  World.ownsRow.kept h k (by
    cases hv : vg.ownBlock with
    | none => exact .inl rfl
    | some i =>
      right
      intro e
      rcases own_type_ne ho h with h1 | h1
      · rw [h1] at e; cases e
      · exact h1 (by rw [← e, hv]))
theorem Own.besideM {B' : Nat} {vg v : Value} {M : List Ms} {l : List UInt8} (ho : Own w B' 5 v l) (h : OwnM w B vg M) (k : w.grownBy w' vg.ownBlock) : Own w' B' 5 v l :=
  World.ownsRow.kept ho k (own_type_ne ho h)
end
end Go.Proofs.YtjhmkapafhgofaaDoor

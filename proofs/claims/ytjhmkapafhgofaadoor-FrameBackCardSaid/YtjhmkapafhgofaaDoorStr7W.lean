/-
  What holds while a stream is fed and looked at.
-/
import Derived.Test.YtjhmkapafhgofaaDoorStream7
import Derived.Test.YtjhmkapafhgofaaDoorStrF7
import Derived.Test.YtjhmkapafhgofaaDoorMsg7
namespace Go.Proofs.YtjhmkapafhgofaaDoor
set_option linter.unusedVariables false
open Go.RowKit

/-- A message's body lies in a block of bytes, behind the stream's, and not in the one that the stream reads. -/
def BX (w : World) (g : Nat) (vs : Value) (s : Ms) : Prop :=
  s.body ≠ [] → ∃ b off, s.adr = some ⟨b, off, none⟩ ∧ g < b ∧ b < w.heap.size ∧ vs.ownBlock ≠ some b ∧ (∃ cur fr, w.heap[b]? = some (.cells cur 5 fr)) ∧ ∀ j, j < s.body.length → w.cell? ⟨b, off + j, none⟩ = some (.int .u8 ((s.body.getD j 0).toNat : Int))
section
variable {w w' : World} {g : Nat} {vs vs' vg : Value} {s : Ms} {M : List Ms} {R : List UInt8}
theorem BX.bytes (h : BX w g vs s) : Bytes w s.adr s.body := fun hd => by
  obtain ⟨b, off, h1, _, h2, _, _, h3⟩ := h hd
  exact ⟨b, off, h1, h2, h3⟩
theorem BX.keep (h : BX w g vs s) (k : Keep w w' g vs vs') : BX w' g vs' s := fun hd => by
  obtain ⟨b, off, h1, hg, hb, hv, ht, hc⟩ := h hd
  have e := k.block b hb (by omega) hv
  refine ⟨b, off, h1, hg, Nat.lt_of_lt_of_le hb k.size, ?_, by rw [e]; exact ht, fun j hj => ?_⟩
  · rcases k.own with ho | ho
    · rw [ho]; exact hv
    · intro e2; have := ho b e2; omega
  · rw [World.cell?_of_block (a := ⟨b, off + j, none⟩) e]; exact hc j hj
theorem rowNe : (5 : TypeId) ≠ 47 := by decide
/-- A block of bytes is no row of messages. -/
theorem OwnM.notBytes {B b : Nat} (h : OwnM w B vg M) (ht : ∃ cur fr, w.heap[b]? = some (.cells cur 5 fr)) : vg.ownBlock ≠ some b := by
  rcases h.2 with ⟨rfl, _⟩ | ⟨g', cap, cur', rfl, _, hg, _⟩
  · intro e; cases e
  · intro e
    have e2 : g' = b := by simpa [Value.ownBlock] using e
    subst e2
    obtain ⟨cur, fr, h2⟩ := ht
    rw [hg] at h2
    injection h2 with h3
    injection h3 with _ h4 _
    exact rowNe h4.symm
theorem BX.grow {B : Nat} (h : BX w g vs s) (ho : OwnM w B vg M) (k : w.grownBy w' vg.ownBlock) : BX w' g vs s := fun hd => by
  obtain ⟨b, off, h1, hg, hb, hv, ht, hc⟩ := h hd
  have e := k.block b hb (fun e => ho.notBytes ht e.symm)
  exact ⟨b, off, h1, hg, Nat.lt_of_lt_of_le hb k.size, hv, by rw [e]; exact ht, fun j hj => by rw [World.cell?_of_block (a := ⟨b, off + j, none⟩) e]; exact hc j hj⟩
theorem Tl.type {B k : Nat} (h : Tl w B vs R) (hk : vs.ownBlock = some k) : ∃ cur fr, w.heap[k]? = some (.cells cur 5 fr) := by
  rcases h with ⟨rfl, rfl⟩ | ⟨g', off, c, rfl, hB, hg, h1, h2, hty, hs, hc⟩
  · cases hk
  · cases hk; exact hty
theorem OwnM.keep (h : OwnM w (g + 1) vg M) (hv : ∀ k, vs.ownBlock = some k → ∃ cur fr, w.heap[k]? = some (.cells cur 5 fr)) (k : Keep w w' g vs vs') : OwnM w' (g + 1) vg M := by
  refine ⟨h.1, ?_⟩
  have hlt := fun i hi => OwnM.lt h (k := i) hi
  have hnb := fun i hi => OwnM.notBytes h (b := i) (hv i hi)
  rcases h.2 with hn | ⟨g', cap, cur, rfl, hb, hgg, rest⟩
  · exact .inl hn
  · refine .inr ⟨g', cap, cur, rfl, hb, ?_, rest⟩
    have h1 := hlt g' rfl
    rw [k.block g' h1.2 (by omega) (fun e => hnb g' e rfl)]
    exact hgg
theorem own_type_ne {B : Nat} {v : Value} {D : List UInt8} {B' : Nat} (h : Own w B 5 v D) (ho : OwnM w B' vg M) : v.ownBlock = none ∨ v.ownBlock ≠ vg.ownBlock := by
  cases hv : v.ownBlock with
  | none => exact .inl rfl
  | some k =>
    right
    intro e
    rcases h.2 with ⟨rfl, _⟩ | ⟨g', cap, cur, rfl, _, hg, _⟩
    · cases hv
    · have e2 : g' = k := by simpa [Value.ownBlock] using hv
      subst e2
      exact ho.notBytes ⟨cur, (0, 0), hg⟩ e.symm
theorem StOk.grow (h : StOk w g vs R) (ho : OwnM w (g + 1) vg M) (k : w.grownBy w' vg.ownBlock) : StOk w' g vs R := by
  refine ⟨(k.block g h.1.lt (fun e => by have := (ho.lt e.symm).1; omega)).trans h.1, h.2.same k.size fun i hi => k.block i (h.2.lt hi).2 (fun e => ho.notBytes (h.2.type hi) e.symm)⟩
theorem StBad.grow {U : Nat} {D : List UInt8} (h : StBad w g U D) (ho : OwnM w (g + 1) vg M) (k : w.grownBy w' vg.ownBlock) : StBad w' g U D := by
  obtain ⟨A, dc, hk, f, q, hd⟩ := h
  refine ⟨A, dc, (k.block g hk.lt (fun e => by have := (ho.lt e.symm).1; omega)).trans hk, f, q, World.ownsRow.kept hd k ?_⟩
  exact own_type_ne hd ho
end
end Go.Proofs.YtjhmkapafhgofaaDoor

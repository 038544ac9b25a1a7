/-
  A path's first segment with other numbers; a segment ahead of a path.
-/
import Derived.Test.YtlgfollajodpaaaDoorCopied4
import Derived.Test.YtlgfollajodpaaaDoorRefPrep3
namespace Go.Proofs.YtlgfollajodpaaaDoor
set_option linter.unusedVariables false
set_option linter.unusedSimpArgs false
open Go.RowKit

theorem segs_of_parts {w : World} {B n c : Nat} {A : Option Addr} {M : List Sg} (row : w.ownsRow B 39 2 (.slice A n c) M.length (flatS M)) (own' : ∀ s ∈ M, Own32 w B s.sl s.nums) (fit : ∀ s ∈ M, s.Fit) : Segs w w.heap.size A M := by
  intro hl
  rcases row.2 with ⟨hv, hn⟩ | ⟨g, cap, cur, hv, hbg, hg, hnc, hcm, hcs, htake⟩
  · exact absurd (List.eq_nil_of_length_eq_zero hn) hl
  · have hA : A = some ⟨g, 0, none⟩ := by injection hv
    refine ⟨g, 0, hA, (Array.getElem?_eq_some_iff.1 hg).1, fun j s hj => ?_⟩
    have hc := World.ownsRow.cells row (g := g) (by subst hA; rfl)
    have f := flat_at M j s hj
    have c1 := hc (j * 2) _ f.1
    have c2 := hc (j * 2 + 1) _ f.2
    rw [Addr.add_lit] at c1 c2
    have ho := own' s (List.mem_of_getElem? hj)
    obtain ⟨A', c', hsl, g1, g2⟩ := ho.form
    simp only [Sg.sl, Value.slice.injEq] at hsl
    obtain ⟨h1, h2, h3⟩ := hsl
    subst h1 h3
    exact ⟨c1, c2, g1, g2, Own32.at ho, (fit s (List.mem_of_getElem? hj)).1, (fit s (List.mem_of_getElem? hj)).2⟩
theorem flat_cons (M : List Sg) (s : Sg) : flatS (s :: M) = s.two ++ flatS M := by simp [flatS]
/-- The first segment with other numbers. -/
theorem OwnSegs.head {w w1 : World} {B H g n c : Nat} {M : List Sg} {s : Sg} {A1 : Option Addr} {c1 : Nat} {z : List Nat} (h : OwnSegs w B H (.slice (some ⟨g, 0, none⟩) n c) (s :: M)) (ha : Apart (s :: M))
    (ho : Own32 w1 B (.slice A1 z.length c1) z) (hz : ∀ x ∈ z, x < 4294967296) (hg : w.grownBy w1 s.sl.ownBlock) :
    Segs (w1.setCell ⟨g, 1, none⟩ (.slice A1 z.length c1)) (w1.setCell ⟨g, 1, none⟩ (.slice A1 z.length c1)).heap.size (some ⟨g, 0, none⟩) (⟨s.kind, A1, c1, z⟩ :: M) := by
  have hrow1 : w1.ownsRow B 39 2 (.slice (some ⟨g, 0, none⟩) n c) (s :: M).length (flatS (s :: M)) :=
    World.ownsRow.kept h.row hg (own_types h.row (h.own s (by simp)) (Ne.symm segNe))
  have hn : n = (s :: M).length := by
    rcases h.row.2 with ⟨hv, _⟩ | ⟨_, _, _, hv, _⟩
    · cases hv
    · injection hv
  subst hn
  have hst := (World.ownsRow.stored hrow1 1 (.slice A1 z.length c1)).1
  have hgw : w1.grownBy (w1.setCell ⟨g, 1, none⟩ (.slice A1 z.length c1)) (some g) := grown_setCell (grown_refl _ _) _ _
  have hflat : (flatS (s :: M)).set 1 (.slice A1 z.length c1) = flatS (⟨s.kind, A1, c1, z⟩ :: M) := by
    rw [flat_cons, flat_cons]
    rfl
  have hnb : ∀ (x : Sg), Own32 w1 B x.sl x.nums → x.sl.ownBlock = none ∨ x.sl.ownBlock ≠ some g := fun x hx => own_types hx hrow1 segNe
  have hkeep : ∀ x ∈ M, Own32 w1 B x.sl x.nums := by
    intro x hx
    refine World.ownsRow.kept (h.own x (by simp [hx])) hg ?_
    cases hk : x.sl.ownBlock with
    | none => exact .inl rfl
    | some k =>
      right
      intro e
      exact (List.pairwise_cons.1 ha).1 x hx k e.symm hk
  refine segs_of_parts (B := B) (n := (s :: M).length) (c := c) ?_ ?_ ?_
  · rw [hflat] at hst
    exact hst
  · intro x hx
    rcases List.mem_cons.1 hx with rfl | h1
    · exact World.ownsRow.kept ho hgw (hnb ⟨s.kind, A1, c1, z⟩ ho)
    · exact World.ownsRow.kept (hkeep x h1) hgw (hnb x (hkeep x h1))
  · intro x hx
    rcases List.mem_cons.1 hx with rfl | h1
    · exact ⟨hz, (h.fit s (by simp)).2⟩
    · exact h.fit x (by simp [h1])
/-- A segment ahead. -/
theorem OwnSegs.ahead {w w1 : World} {B H : Nat} {M : List Sg} {s : Sg} {v : Value} {A1 : Option Addr} {c1 : Nat} (h : OwnSegs w B H v M) (hs : Own32 w B s.sl s.nums) (hf : s.Fit)
    (hrow : w1.ownsRow B 39 2 (.slice A1 (M.length + 1) c1) (M.length + 1) (s.two ++ flatS M)) (hg : w.grownBy w1 v.ownBlock) : Segs w1 w1.heap.size A1 (s :: M) := by
  refine segs_of_parts (B := B) (n := M.length + 1) (c := c1) ?_ ?_ ?_
  · rw [flat_cons]
    exact hrow
  · intro x hx
    rcases List.mem_cons.1 hx with rfl | h1
    · exact World.ownsRow.kept hs hg (own_types hs h.row segNe)
    · exact World.ownsRow.kept (h.own x h1) hg (own_types (h.own x h1) h.row segNe)
  · intro x hx
    rcases List.mem_cons.1 hx with rfl | h1
    · exact hf
    · exact h.fit x h1
end Go.Proofs.YtlgfollajodpaaaDoor

/-
  Lists of segments of a call's own, each with numbers of its own.
-/
import Derived.Test.YtlgfollajodpaaaDoorSegment
import Derived.Test.YtlgfollajodpaaaDoorCnt
namespace Go.Proofs.YtlgfollajodpaaaDoor
set_option linter.unusedVariables false
open Go.RowKit

def Sg.sl (s : Sg) : Value := .slice s.adr s.nums.length s.cap
def Sg.two (s : Sg) : List Value := [.int .i64 s.kind, s.sl]
def flatS (M : List Sg) : List Value := M.flatMap Sg.two
def Sg.abs (s : Sg) : Int × List Nat := (s.kind, s.nums)
def Sg.Fit (s : Sg) : Prop := (∀ x ∈ s.nums, x < 4294967296) ∧ (-9223372036854775808 ≤ s.kind ∧ s.kind ≤ 9223372036854775807)
theorem flat_len (M : List Sg) : (flatS M).length = M.length * 2 := by
  induction M with
  | nil => rfl
  | cons s M ih => simp only [flatS, List.flatMap_cons, List.length_append, List.length_cons] at ih ⊢; rw [ih]; simp [Sg.two]; omega
theorem flat_snoc (M : List Sg) (s : Sg) : flatS (M ++ [s]) = flatS M ++ s.two := by simp [flatS]
theorem flat_at : ∀ (M : List Sg) (j : Nat) (s : Sg), M[j]? = some s → (flatS M)[j * 2]? = some (.int .i64 s.kind) ∧ (flatS M)[j * 2 + 1]? = some s.sl := by
  intro M
  induction M with
  | nil => intro j s h; simp at h
  | cons x M ih =>
    intro j s h
    have e : flatS (x :: M) = .int .i64 x.kind :: x.sl :: flatS M := by simp [flatS, Sg.two]
    rw [e]
    rcases j with _ | j
    · simp at h
      subst h
      exact ⟨rfl, rfl⟩
    · have h2 := ih j s (by simpa using h)
      have e1 : (j + 1) * 2 = j * 2 + 1 + 1 := by omega
      rw [e1]
      exact ⟨by simpa using h2.1, by simpa using h2.2⟩
theorem two_one (s : Sg) : ∀ u ∈ s.two, u.oneCell' = true := by
  intro u hu
  simp only [Sg.two, List.mem_cons, List.not_mem_nil, or_false] at hu
  rcases hu with rfl | rfl <;> rfl

theorem own_types {w : World} {B B' n n' size size' : Nat} {e e' : TypeId} {v v' : Value} {xs xs' : List Value} (h : w.ownsRow B e size v n xs) (h' : w.ownsRow B' e' size' v' n' xs') (he : e ≠ e') : v.ownBlock = none ∨ v.ownBlock ≠ v'.ownBlock := by
  rcases h.2 with ⟨rfl, _⟩ | ⟨g, cap, cur, rfl, _, hg, _⟩
  · exact .inl rfl
  · right
    rcases h'.2 with ⟨rfl, _⟩ | ⟨g', cap', cur', rfl, _, hg', _⟩
    · simp [Value.ownBlock]
    · intro e1
      have e2 : g = g' := by simpa [Value.ownBlock] using e1
      subst e2
      rw [hg] at hg'
      injection hg' with h1
      injection h1 with h2 h3
      exact he h3

/-- The value v is a slice of the call's own (blocks at B or later) that holds the segments M, each with numbers of its own; those of the last one lie at H or later, those ahead of it below H. -/
structure OwnSegs (w : World) (B H : Nat) (v : Value) (M : List Sg) : Prop where
  row : w.ownsRow B 39 2 v M.length (flatS M)
  own : ∀ s ∈ M, Own32 w B s.sl s.nums
  low : ∀ s ∈ M.dropLast, ∀ k, s.sl.ownBlock = some k → k < H
  last : ∀ s, M.getLast? = some s → ∀ k, s.sl.ownBlock = some k → H ≤ k
  fit : ∀ s ∈ M, s.Fit
theorem OwnSegs.nil (w : World) (B H : Nat) : OwnSegs w B H (.slice none 0 0) [] :=
  ⟨World.ownsRow_nil w B _ 2, fun s h => by simp at h, fun s h => by simp at h, fun s h => by simp at h, fun s h => by simp at h⟩
theorem segNe : (23 : TypeId) ≠ 39 := by decide
theorem OwnSegs.below {w w' : World} {B H : Nat} {v : Value} {M : List Sg} (h : OwnSegs w B H v M) (hb : Below w.heap.size w w') : OwnSegs w' B H v M :=
  ⟨World.ownsRow.kept h.row (row := none) ⟨hb.os, hb.tape, hb.output, hb.size, fun k hk _ => hb.block k hk⟩ (by cases v.ownBlock <;> simp), fun s hs => (h.own s hs).below hb, h.low, h.last, h.fit⟩
/-- A segment more, with numbers that lie at H' or later, behind all that was there. -/
theorem OwnSegs.push {w w' : World} {B H H' : Nat} {v v' : Value} {M : List Sg} {s : Sg} (h : OwnSegs w B H v M) (hs : Own32 w H' s.sl s.nums) (hB : B ≤ H') (hH : ∀ s ∈ M, ∀ k, s.sl.ownBlock = some k → k < H') (hf : s.Fit)
    (hrow : w'.ownsRow B 39 2 v' (M.length + 1) (flatS M ++ s.two)) (hg : w.grownBy w' v.ownBlock) : OwnSegs w' B H' v' (M ++ [s]) := by
  refine ⟨?_, ?_, ?_, ?_, ?_⟩
  · rw [List.length_append, flat_snoc]
    exact hrow
  · intro x hx
    rcases List.mem_append.1 hx with h1 | h1
    · exact World.ownsRow.kept (h.own x h1) hg (own_types (h.own x h1) h.row segNe)
    · obtain rfl : x = s := by simpa using h1
      exact World.ownsRow.kept (hs.lower hB) hg (own_types hs h.row segNe)
  · intro x hx k hk
    rw [List.dropLast_concat] at hx
    exact hH x hx k hk
  · intro x hx k hk
    rw [List.getLast?_concat] at hx
    cases hx
    exact (World.ownsRow.lt hs k hk).1
  · intro x hx
    rcases List.mem_append.1 hx with h1 | h1
    · exact h.fit x h1
    · obtain rfl : x = s := by simpa using h1
      exact hf
theorem OwnSegs.blocks {w : World} {B H : Nat} {v : Value} {M : List Sg} (h : OwnSegs w B H v M) : ∀ s ∈ M, ∀ k, s.sl.ownBlock = some k → k < w.heap.size := fun s hs k hk => (World.ownsRow.lt (h.own s hs) k hk).2
theorem OwnSegs.form {w : World} {B H : Nat} {v : Value} {M : List Sg} (h : OwnSegs w B H v M) : ∃ A c, v = .slice A M.length c ∧ M.length ≤ c ∧ c ≤ maxLen := by
  rcases h.row.2 with ⟨rfl, hn⟩ | ⟨g, cap, cur, rfl, hbg, hg, hnc, hcm, hcs, htake⟩
  · exact ⟨none, 0, by rw [hn], by omega, Nat.zero_le _⟩
  · exact ⟨_, cap, rfl, hnc, hcm⟩
/-- Such a list can be read. -/
theorem OwnSegs.segs {w : World} {B H n c : Nat} {A : Option Addr} {M : List Sg} (h : OwnSegs w B H (.slice A n c) M) : Segs w w.heap.size A M := by
  intro hl
  rcases h.row.2 with ⟨hv, hn⟩ | ⟨g, cap, cur, hv, hbg, hg, hnc, hcm, hcs, htake⟩
  · exact absurd (List.eq_nil_of_length_eq_zero hn) hl
  · have hA : A = some ⟨g, 0, none⟩ := by injection hv
    refine ⟨g, 0, hA, (Array.getElem?_eq_some_iff.1 hg).1, fun j s hj => ?_⟩
    have hc := World.ownsRow.cells h.row (g := g) (by subst hA; rfl)
    have f := flat_at M j s hj
    have c1 := hc (j * 2) _ f.1
    have c2 := hc (j * 2 + 1) _ f.2
    rw [Addr.add_lit] at c1 c2
    have ho := h.own s (List.mem_of_getElem? hj)
    obtain ⟨A', c', hsl, g1, g2⟩ := ho.form
    simp only [Sg.sl, Value.slice.injEq] at hsl
    obtain ⟨h1, h2, h3⟩ := hsl
    subst h1 h3
    exact ⟨c1, c2, g1, g2, Own32.at ho, (h.fit s (List.mem_of_getElem? hj)).1, (h.fit s (List.mem_of_getElem? hj)).2⟩
/-- The last segment with more numbers: they are the call's own as before, and the segment's cell tells where they lie. -/
theorem OwnSegs.more {w w1 : World} {B H g n c : Nat} {M : List Sg} {s : Sg} {A1 : Option Addr} {c1 : Nat} {z : List Nat} (h : OwnSegs w B H (.slice (some ⟨g, 0, none⟩) n c) (M ++ [s])) (hB : B ≤ H)
    (ho : Own32 w1 H (.slice A1 z.length c1) z) (hz : ∀ x ∈ z, x < 4294967296) (hg : w.grownBy w1 s.sl.ownBlock) :
    OwnSegs (w1.setCell ⟨g, M.length * 2 + 1, none⟩ (.slice A1 z.length c1)) B H (.slice (some ⟨g, 0, none⟩) n c) (M ++ [⟨s.kind, A1, c1, z⟩]) := by
  have hmem : s ∈ M ++ [s] := by simp
  have hrow1 : w1.ownsRow B 39 2 (.slice (some ⟨g, 0, none⟩) n c) (M ++ [s]).length (flatS (M ++ [s])) :=
    World.ownsRow.kept h.row hg (own_types h.row (h.own s hmem) (Ne.symm segNe))
  have hn : n = (M ++ [s]).length := by
    rcases h.row.2 with ⟨hv, _⟩ | ⟨_, _, _, hv, _⟩
    · cases hv
    · injection hv
  subst hn
  have hst := (World.ownsRow.stored hrow1 (M.length * 2 + 1) (.slice A1 z.length c1)).1
  have hgw : w1.grownBy (w1.setCell ⟨g, M.length * 2 + 1, none⟩ (.slice A1 z.length c1)) (some g) := grown_setCell (grown_refl _ _) _ _
  have hflat : (flatS (M ++ [s])).set (M.length * 2 + 1) (.slice A1 z.length c1) = flatS (M ++ [⟨s.kind, A1, c1, z⟩]) := by
    rw [flat_snoc, flat_snoc, List.set_append_right _ _ (by rw [flat_len]; omega), flat_len]
    have e : M.length * 2 + 1 - M.length * 2 = 1 := by omega
    rw [e]
    rfl
  have hnb : ∀ (x : Sg), Own32 w1 B x.sl x.nums → x.sl.ownBlock = none ∨ x.sl.ownBlock ≠ some g := fun x hx => own_types hx hrow1 segNe
  have hkeep : ∀ x ∈ M, Own32 w1 B x.sl x.nums := by
    intro x hx
    refine World.ownsRow.kept (h.own x (by simp [hx])) hg ?_
    cases hk : x.sl.ownBlock with
    | none => exact .inl rfl
    | some k =>
      right
      intro e
      have h1 := h.low x (by rw [List.dropLast_concat]; exact hx) k hk
      have h2 := h.last s (by rw [List.getLast?_concat]) k e.symm
      omega
  refine ⟨?_, ?_, ?_, ?_, ?_⟩
  · have e2 : (M ++ [(⟨s.kind, A1, c1, z⟩ : Sg)]).length = (M ++ [s]).length := by simp
    rw [e2, ← hflat]
    exact hst
  · intro x hx
    rcases List.mem_append.1 hx with h1 | h1
    · exact World.ownsRow.kept (hkeep x h1) hgw (hnb x (hkeep x h1))
    · obtain rfl : x = ⟨s.kind, A1, c1, z⟩ := by simpa using h1
      exact World.ownsRow.kept (ho.lower hB) hgw (hnb ⟨s.kind, A1, c1, z⟩ (ho.lower hB))
  · intro x hx k hk
    rw [List.dropLast_concat] at hx
    exact h.low x (by rw [List.dropLast_concat]; exact hx) k hk
  · intro x hx k hk
    rw [List.getLast?_concat] at hx
    cases hx
    exact (World.ownsRow.lt ho k hk).1
  · intro x hx
    rcases List.mem_append.1 hx with h1 | h1
    · exact h.fit x (by simp [h1])
    · obtain rfl : x = ⟨s.kind, A1, c1, z⟩ := by simpa using h1
      exact ⟨hz, (h.fit s hmem).2⟩
end Go.Proofs.YtlgfollajodpaaaDoor

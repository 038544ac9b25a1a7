/-
  Rows of words as they are told, of a call's own.
-/
import Derived.Test.YtpimnbalffaliaaDoorMsg7
import Derived.Test.YtpimnbalffaliaaDoorVal13
namespace Go.Proofs.YtpimnbalffaliaaDoor
set_option linter.unusedVariables false
set_option linter.unusedSimpArgs false
open Go.RowKit

theorem isTok : IsRow Tryd.prog 27 44 (.agg #[.int .i64 0, .string ⟨#[]⟩, .int .i64 0]) 3 32 := ⟨Tryd.underlying27, by kernel_rfl, rfl, by decide, by decide⟩
def flatT (L : List Tok) : List Value := L.flatMap Tok.three
theorem flatT_snoc (L : List Tok) (t : Tok) : flatT (L ++ [t]) = flatT L ++ t.three := by simp [flatT]
theorem threeT_one (t : Tok) : ∀ u ∈ t.three, u.oneCell' = true := by
  intro u hu
  simp only [Tok.three, List.mem_cons, List.not_mem_nil, or_false] at hu
  rcases hu with rfl | rfl | rfl <;> rfl
theorem flatT_at : ∀ (L : List Tok) (j : Nat) (t : Tok), L[j]? = some t → (flatT L)[j * 3]? = some (.int .i64 (t.kind : Int)) ∧ (flatT L)[j * 3 + 1]? = some (.string ⟨t.text.toArray⟩) ∧ (flatT L)[j * 3 + 2]? = some (.int .i64 t.num)
  | [], j, t, h => by simp at h
  | x :: L, 0, t, h => by
    simp at h; subst h
    exact ⟨rfl, rfl, rfl⟩
  | x :: L, j + 1, t, h => by
    have ih := flatT_at L j t (by simpa using h)
    have e1 : (j + 1) * 3 = j * 3 + 1 + 1 + 1 := by omega
    have e2 : (j + 1) * 3 + 1 = j * 3 + 1 + 1 + 1 + 1 := by omega
    have e3 : (j + 1) * 3 + 2 = j * 3 + 2 + 1 + 1 + 1 := by omega
    rw [e3, e2, e1]
    exact ih
/-- The value v is a row of words of the call's own. -/
def OwnT (w : World) (B : Nat) (v : Value) (L : List Tok) : Prop := w.ownsRow B 44 3 v L.length (flatT L)
theorem OwnT.nil (w : World) (B : Nat) : OwnT w B (.slice none 0 0) [] := World.ownsRow_nil w B _ 3
section
variable {w w' : World} {B : Nat} {v : Value} {L : List Tok}
theorem OwnT.form (h : OwnT w B v L) : ∃ A c, v = .slice A L.length c ∧ L.length ≤ c ∧ c ≤ maxLen := by
  rcases h.2 with ⟨rfl, hn⟩ | ⟨g, cap, cur, rfl, hbg, hg, hnc, hcm, hcs, htake⟩
  · exact ⟨none, 0, by rw [hn], by omega, Nat.zero_le _⟩
  · exact ⟨_, cap, rfl, hnc, hcm⟩
theorem OwnT.below (h : OwnT w B v L) (hb : Below w.heap.size w w') : OwnT w' B v L :=
  World.ownsRow.kept h (row := none) ⟨hb.os, hb.tape, hb.output, hb.size, fun k hk _ => hb.block k hk⟩ (by cases v.ownBlock <;> simp)
theorem OwnT.lower {B' : Nat} (h : OwnT w B v L) (hB : B' ≤ B) : OwnT w B' v L :=
  ⟨h.1, h.2.imp id fun ⟨g, cap, cur, h1, h2, h3⟩ => ⟨g, cap, cur, h1, Nat.le_trans hB h2, h3⟩⟩
theorem OwnT.push {t : Tok} (h : w'.ownsRow B 44 3 v (L.length + 1) (flatT L ++ t.three)) : OwnT w' B v (L ++ [t]) := by
  unfold OwnT
  rw [flatT_snoc, List.length_append]
  exact h
/-- Where word j lies. -/
theorem OwnT.at {n c : Nat} {A : Option Addr} (h : OwnT w B (.slice A n c) L) {j : Nat} {t : Tok} (hs : L[j]? = some t) :
    ∃ g, A = some ⟨g, 0, none⟩ ∧ g < w.heap.size ∧ w.cell? ⟨g, j * 3, none⟩ = some (.int .i64 (t.kind : Int)) ∧ w.cell? ⟨g, j * 3 + 1, none⟩ = some (.string ⟨t.text.toArray⟩) ∧ w.cell? ⟨g, j * 3 + 2, none⟩ = some (.int .i64 t.num) := by
  have hj := (List.getElem?_eq_some_iff.1 hs).1
  rcases h.2 with ⟨hv, hn⟩ | ⟨g, cap, cur, hv, hbg, hg, hnc, hcm, hcs, htake⟩
  · omega
  · have hA : A = some ⟨g, 0, none⟩ := by injection hv
    subst hA
    have hc := World.ownsRow.cells h (g := g) rfl
    obtain ⟨a1, a2, a3⟩ := flatT_at L j t hs
    have h1 := hc (j * 3) _ a1
    have h2 := hc (j * 3 + 1) _ a2
    have h3 := hc (j * 3 + 2) _ a3
    rw [Addr.add_lit, Nat.zero_add] at h1 h2 h3
    exact ⟨g, rfl, (Array.getElem?_eq_some_iff.1 hg).1, h1, h2, h3⟩
end
end Go.Proofs.YtpimnbalffaliaaDoor

/-
  Some go: what the loop of letGo holds, and what the call leaves.
-/
import Derived.Test.YtgaoonnokhlgjaaTab26
namespace Go.Proofs.Ytgaoonnokhlgjaa
set_option linter.unusedVariables false
set_option linter.unusedSimpArgs false
open Go.RowKit

def GoRel (w : World) (p : Cu → Bool) (L : List Cu) (s t i : Value) (wr : World) : Prop :=
  Below w.heap.size w wr ∧ ∃ j : Nat, j ≤ L.length ∧ i = .int .i64 (j : Int) ∧ TwoU wr 36 w.heap.size t s ((L.take j).filter p) ((L.take j).filter fun c => !p c)
theorem GoRel.init (w : World) (p : Cu → Bool) (L : List Cu) : GoRel w p L (.slice none 0 0) (.slice none 0 0) (.int .i64 0) w :=
  ⟨Below.refl _ _, 0, Nat.zero_le _, rfl, OwnU.nil _ _ _, OwnU.nil _ _ _, .inl rfl⟩
theorem filter_yes {p : Cu → Bool} {L : List Cu} {j : Nat} {c : Cu} (hc : L[j]? = some c) (hp : p c = true) : (L.take (j + 1)).filter p = (L.take j).filter p ++ [c] ∧ ((L.take (j + 1)).filter fun c => !p c) = (L.take j).filter fun c => !p c := by
  obtain ⟨hj, rfl⟩ := List.getElem?_eq_some_iff.1 hc
  rw [List.take_succ_eq_append_getElem hj, List.filter_append, List.filter_append]
  simp [hp]
theorem filter_no {p : Cu → Bool} {L : List Cu} {j : Nat} {c : Cu} (hc : L[j]? = some c) (hp : p c = false) : (L.take (j + 1)).filter p = (L.take j).filter p ∧ ((L.take (j + 1)).filter fun c => !p c) = ((L.take j).filter fun c => !p c) ++ [c] := by
  obtain ⟨hj, rfl⟩ := List.getElem?_eq_some_iff.1 hc
  rw [List.take_succ_eq_append_getElem hj, List.filter_append, List.filter_append]
  simp [hp]
theorem filter_short (p : Cu → Bool) (L : List Cu) (j : Nat) : ((L.take j).filter p).length ≤ L.length :=
  Nat.le_trans (List.length_filter_le _ _) (by rw [List.length_take]; omega)
def RetGo (w : World) (g : Nat) (mo li la : Int) (p : Cu → Bool) (L : List Cu) (e : Ending) (w' : World) : Prop :=
  ∃ u v', e = .returned u ∧ Tab w' g mo li la v' (L.filter fun c => !p c) ∧ SlU w' 36 w.heap.size u (L.filter p) ∧ w.grownBy w' (some g) ∧ ∀ k, v'.ownBlock = some k → w.heap.size ≤ k
theorem zerosP : zeroCu.cells.toList.length = 16 := by rfl
theorem ne_blk26 {v : Value} {B g : Nat} (h : ∀ k, v.ownBlock = some k → B ≤ k) (hg : g < B) : v.ownBlock = none ∨ v.ownBlock ≠ some g := .inr fun e => by have := h g e; omega
def zerosU : List Value := [.int .i64 0, .int .i64 0, .int .i64 0, .int .i64 0, .int .i64 0, .int .u32 0, .int .i64 0, .int .i64 0, .int .i64 0, .string ⟨#[]⟩, .slice none 0 0, .int .i64 0, .bool false, .int .u32 0, .int .i64 0, .int .i64 0]
theorem undP : Try.prog.underlying 39 = some (.slice 36) := Try.underlying39
end Go.Proofs.Ytgaoonnokhlgjaa

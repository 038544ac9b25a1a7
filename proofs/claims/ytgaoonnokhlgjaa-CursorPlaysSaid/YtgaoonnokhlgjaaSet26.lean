/-
  A cell of a row of cursors is written.
-/
import Derived.Test.YtgaoonnokhlgjaaLeave26
namespace Go.Proofs.Ytgaoonnokhlgjaa
set_option linter.unusedVariables false
set_option linter.unusedSimpArgs false
open Go.RowKit

theorem flatU_set : ∀ (M : List Cu) (k : Nat) (c c' : Cu) (i : Nat) (u : Value), M[k]? = some c → c'.row = c.row.set i u → i < 16 → flatU (M.set k c') = (flatU M).set (k * 16 + i) u
  | [], k, c, c', i, u, h, _, _ => by simp at h
  | a :: M, 0, c, c', i, u, h, hr, hi => by
    obtain rfl : a = c := by simpa using h
    have hl : a.row.length = 16 := rfl
    rw [List.set_cons_zero, flatU_cons, flatU_cons, hr, List.set_append_left _ _ (by omega), Nat.zero_mul, Nat.zero_add]
  | a :: M, k + 1, c, c', i, u, h, hr, hi => by
    have hl : a.row.length = 16 := rfl
    have ih := flatU_set M k c c' i u (by simpa using h) hr hi
    rw [List.set_cons_succ, flatU_cons, flatU_cons, ih, List.set_append_right _ _ (by omega), hl, show (k + 1) * 16 + i - 16 = k * 16 + i by omega]
section
variable {w w' : World} {T B : Nat} {v : Value} {M : List Cu}
theorem OwnU.at (h : OwnU w T B v M) {k : Nat} {c : Cu} (hc : M[k]? = some c) : ∃ b d, v = .slice (some ⟨b, 0, none⟩) M.length d ∧ M.length ≤ d ∧ B ≤ b ∧ b < w.heap.size ∧ (∃ cur, w.heap[b]? = some (.cells cur T (0, 0))) ∧ RowAt w b (k * 16) c.row ∧ ∀ q, w.frozen? ⟨b, q, none⟩ = false := by
  obtain ⟨A, d, rfl, h1, h2⟩ := h.form
  rcases h.2 with ⟨hv, hn⟩ | ⟨g, cap, cur, hv, hbg, hg, hnc, hcm, hcs, htake⟩
  · have := (List.getElem?_eq_some_iff.1 hc).1; omega
  · injection hv with hA hn hd
    subst hA
    subst hd
    refine ⟨g, d, rfl, hnc, hbg, (Array.getElem?_eq_some_iff.1 hg).1, ⟨cur, hg⟩, fun i u hu => ?_, fun q => frozen_of_row w g q cur T hg⟩
    have hj2 := World.ownsRow.cells h (g := g) rfl (k * 16 + i) u (flatU_at M k c hc i u hu)
    rw [Addr.add_lit, Nat.zero_add] at hj2
    exact hj2
theorem OwnU.put {b n d k i : Nat} {c c' : Cu} {u : Value} (h : OwnU w T B (.slice (some ⟨b, 0, none⟩) n d) M) (hc : M[k]? = some c) (hr : c'.row = c.row.set i u) (hi : i < 16) : OwnU (w.setCell ⟨b, k * 16 + i, none⟩ u) T B (.slice (some ⟨b, 0, none⟩) n d) (M.set k c') := by
  have hk := (List.getElem?_eq_some_iff.1 hc).1
  rcases h.2 with ⟨hv, hn⟩ | ⟨g, cap, cur, hv, hbg, hg, hnc, hcm, hcs, htake⟩
  · omega
  · injection hv with hA hn hd
    injection hA with hA
    injection hA with hb
    subst hb; subst hn; subst hd
    refine ⟨by rw [flatU_len, List.length_set], .inr ⟨b, d, cur.setIfInBounds (k * 16 + i) u, by rw [List.length_set], hbg, ?_, by rw [List.length_set]; exact hnc, hcm, by simpa using hcs, ?_⟩⟩
    · simp only [World.setCell, Array.getElem?_modify, if_pos, hg, Option.map_some]
      simp
    · rw [flatU_set M k c c' i u hc hr hi, ← htake, List.length_set]
      simp [List.take_set]
theorem RowAt.of_own {b n d k : Nat} {c : Cu} (h : OwnU w T B (.slice (some ⟨b, 0, none⟩) n d) M) (hc : M[k]? = some c) : RowAt w b (k * 16) c.row := by
  obtain ⟨b', d', hv, _, _, _, _, hr, _⟩ := h.at hc
  injection hv with hA
  injection hA with hA
  injection hA with hb
  subst hb
  exact hr
end
theorem KeepA.setOwn {w w' : World} {g b : Nat} {v v' : Value} (h : KeepA w w' g v v') (hb : v'.ownBlock = some b) (o : Nat) (u : Value) : KeepA w (w'.setCell ⟨b, o, none⟩ u) g v v' := by
  refine ⟨h.os, h.tape, h.output, by simpa [World.setCell] using h.size, fun k hk hg hk' => (Below.heap_setCell w' ⟨b, o, none⟩ u k (fun e => ?_)).trans (h.block k hk hg hk'), h.own⟩
  have e2 : b = k := by simpa using e.symm
  subst e2
  rcases h.own with ho | ho
  · exact hk' (ho ▸ hb)
  · have := ho b hb; omega

/-! ### A tick -/

def older (c : Cu) : Cu := { c with age := c.age + 1 }
def ageU (L : List Cu) (j : Nat) : List Cu := (L.take j).map older ++ L.drop j
theorem ageU_zero (L : List Cu) : ageU L 0 = L := by simp [ageU]
theorem ageU_all (L : List Cu) : ageU L L.length = L.map older := by simp [ageU]
theorem ageU_len (L : List Cu) (j : Nat) : (ageU L j).length = L.length := by simp [ageU]; omega
theorem ageU_at {L : List Cu} {j : Nat} {c : Cu} (hc : L[j]? = some c) : (ageU L j)[j]? = some c := by
  have hj := (List.getElem?_eq_some_iff.1 hc).1
  unfold ageU
  rw [List.getElem?_append_right (by simp; omega)]
  simp [Nat.min_eq_left (Nat.le_of_lt hj), hc]
theorem ageU_step {L : List Cu} {j : Nat} {c : Cu} (hc : L[j]? = some c) : (ageU L j).set j (older c) = ageU L (j + 1) := by
  obtain ⟨hj, rfl⟩ := List.getElem?_eq_some_iff.1 hc
  have hl : ((L.take j).map older).length = j := by simp; omega
  unfold ageU
  rw [List.set_append_right _ _ (by omega), hl, Nat.sub_self, List.drop_eq_getElem_cons hj, List.set_cons_zero, List.take_succ_eq_append_getElem hj, List.map_append, List.append_assoc]
  rfl
end Go.Proofs.Ytgaoonnokhlgjaa

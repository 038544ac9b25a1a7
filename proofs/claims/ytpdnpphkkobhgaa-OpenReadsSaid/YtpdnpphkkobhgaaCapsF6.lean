/-
  Capabilities that bytes say: lists alone; and a capability's bytes in a block of bytes of the call's own.
-/
import Derived.Test.YtpdnpphkkobhgaaNext6
import Derived.Test.YtpdnpphkkobhgaaCapOwn6
namespace Go.Proofs.Ytpdnpphkkobhgaa
set_option linter.unusedVariables false
open Go.RowKit

def capsP : Nat → List UInt8 → Option (List (Int × List UInt8))
  | 0, _ => none
  | n + 1, l => if l = [] then some [] else if (nextP l false).bad then none else (capsP n (nextP l false).rest).map ((((nextP l false).kind : Int), (nextP l false).val) :: ·)
theorem next_less {l : List UInt8} (h : (nextP l false).bad = false) : (nextP l false).rest.length + 2 ≤ l.length := by
  unfold nextP rdTake at h ⊢
  by_cases h1 : (0 : Int) ≤ 1 ∧ (1 : Int) ≤ (l.length : Int)
  · simp only [if_pos h1] at h ⊢
    by_cases h2 : (0 : Int) ≤ 1 ∧ (1 : Int) ≤ ((l.drop (1 : Int).toNat).length : Int)
    · simp only [if_pos h2] at h ⊢
      have h3 : ((l.drop (1 : Int).toNat).length : Int) = (l.length : Int) - 1 := by simp; omega
      split at h
      · rename_i hx
        rw [if_pos hx]
        simp
        omega
      · cases h
    · simp only [if_neg h2] at h ⊢
      split at h
      · cases h
      · cases h
  · simp only [if_neg h1] at h ⊢
    exfalso
    revert h
    split <;> (intro h; split at h <;> cases h)
/-- What was read, and what is left, are all. -/
def CapInv (l : List UInt8) (M : List (Int × List UInt8)) (R : List UInt8) : Prop :=
  M.length * 2 + R.length ≤ l.length ∧ capsP (l.length + 1) l = (capsP (l.length + 1 - M.length) R).map (M ++ ·)
theorem CapInv.start (l : List UInt8) : CapInv l [] l := ⟨by simp, by cases h : capsP (l.length + 1) l <;> simp⟩
theorem CapInv.more {l R : List UInt8} {M : List (Int × List UInt8)} (h : CapInv l M R) (hr : R ≠ []) (hb : (nextP R false).bad = false) : CapInv l (M ++ [(((nextP R false).kind : Int), (nextP R false).val)]) (nextP R false).rest := by
  obtain ⟨h1, h2⟩ := h
  have h3 := next_less hb
  have hp := List.length_pos_iff.2 hr
  refine ⟨by rw [List.length_append, List.length_singleton]; omega, ?_⟩
  obtain ⟨k, hk⟩ : ∃ k, l.length + 1 - M.length = k + 1 := ⟨l.length - M.length, by omega⟩
  rw [hk] at h2
  rw [List.length_append, List.length_singleton, show l.length + 1 - (M.length + 1) = k by omega, h2]
  show Option.map _ (if _ then _ else _) = _
  rw [if_neg hr, hb]
  cases capsP k (nextP R false).rest <;> simp
theorem CapInv.bad {l R : List UInt8} {M : List (Int × List UInt8)} (h : CapInv l M R) (hr : R ≠ []) (hb : (nextP R false).bad = true) : capsP (l.length + 1) l = none := by
  obtain ⟨h1, h2⟩ := h
  have hp := List.length_pos_iff.2 hr
  obtain ⟨k, hk⟩ : ∃ k, l.length + 1 - M.length = k + 1 := ⟨l.length - M.length, by omega⟩
  rw [h2, hk]
  show Option.map _ (if _ then _ else _) = _
  rw [if_neg hr, hb]
  rfl
theorem CapInv.fin {l : List UInt8} {M : List (Int × List UInt8)} (h : CapInv l M []) : capsP (l.length + 1) l = some M := by
  obtain ⟨h1, h2⟩ := h
  simp at h1
  obtain ⟨k, hk⟩ : ∃ k, l.length + 1 - M.length = k + 1 := ⟨l.length - M.length, by omega⟩
  rw [h2, hk]
  simp [capsP]
/-- A capability's bytes lie in a block of bytes behind B. -/
def DX (w : World) (B : Nat) (s : Cp) : Prop :=
  s.data ≠ [] → ∃ b off, s.adr = some ⟨b, off, none⟩ ∧ B ≤ b ∧ b < w.heap.size ∧ (∃ cur fr, w.heap[b]? = some (.cells cur 5 fr)) ∧ ∀ j, j < s.data.length → w.cell? ⟨b, off + j, none⟩ = some (.int .u8 ((s.data.getD j 0).toNat : Int))
section
variable {w w' : World} {B g : Nat} {s : Cp} {vg : Value} {M : List Cp}
theorem DX.bytes (h : DX w B s) : Bytes w s.adr s.data := fun hd => by
  obtain ⟨b, off, h1, _, h2, _, h3⟩ := h hd
  exact ⟨b, off, h1, h2, h3⟩
theorem DX.grown (h : DX w B s) (k : w.grownBy w' (some g)) (hg : g < B) : DX w' B s := fun hd => by
  obtain ⟨b, off, h1, hB, hb, ht, hc⟩ := h hd
  have e := k.block b hb (by simp; omega)
  exact ⟨b, off, h1, hB, Nat.lt_of_lt_of_le hb k.size, by rw [e]; exact ht, fun j hj => by rw [World.cell?_of_block (a := ⟨b, off + j, none⟩) e]; exact hc j hj⟩
theorem rowNe6 : (5 : TypeId) ≠ 54 := by decide
theorem OwnC.notBytes {b : Nat} (h : OwnC w B vg M) (ht : ∃ cur fr, w.heap[b]? = some (.cells cur 5 fr)) : vg.ownBlock ≠ some b := by
  rcases h.2 with ⟨rfl, _⟩ | ⟨g', cap, cur', rfl, _, hg, _⟩
  · intro e; cases e
  · intro e
    have e2 : g' = b := by simpa [Value.ownBlock] using e
    subst e2
    obtain ⟨cur, fr, h2⟩ := ht
    rw [hg] at h2
    injection h2 with h3
    injection h3 with _ h4 _
    exact rowNe6 h4.symm
theorem DX.row {B' : Nat} (h : DX w B s) (ho : OwnC w B' vg M) (k : w.grownBy w' vg.ownBlock) : DX w' B s := fun hd => by
  obtain ⟨b, off, h1, hB, hb, ht, hc⟩ := h hd
  have e := k.block b hb (fun e => ho.notBytes ht e.symm)
  exact ⟨b, off, h1, hB, Nat.lt_of_lt_of_le hb k.size, by rw [e]; exact ht, fun j hj => by rw [World.cell?_of_block (a := ⟨b, off + j, none⟩) e]; exact hc j hj⟩
theorem DX.own {A : Option Addr} {c : Nat} {l : List UInt8} {k : Int} (h : Own w B 5 (.slice A l.length c) l) : DX w B ⟨k, A, c, l⟩ := fun hd => by
  rcases h.2 with ⟨h2, h3⟩ | ⟨g', cap, cur, h2, hbg, hg, hnc, hcm, hcs, htake⟩
  · exact absurd (List.eq_nil_of_length_eq_zero h3) hd
  · obtain ⟨b, off, hA, hlt, hc⟩ := h.bytes hd
    have hA2 : A = some ⟨g', 0, none⟩ := by injection h2
    have hgb : g' = b := by rw [hA2] at hA; injection hA with h5; injection h5
    subst hgb
    exact ⟨g', off, hA, hbg, hlt, ⟨cur, (0, 0), hg⟩, hc⟩
theorem DX.lower {B' : Nat} (h : DX w B s) (hB : B' ≤ B) : DX w B' s := fun hd => by
  obtain ⟨b, off, h1, h2, h3⟩ := h hd
  exact ⟨b, off, h1, Nat.le_trans hB h2, h3⟩
end
end Go.Proofs.Ytpdnpphkkobhgaa

/-
  All messages of bytes: lists alone.
-/
import Derived.Test.YtjhmkapafhgofaaDoorFr7
namespace Go.Proofs.YtjhmkapafhgofaaDoor
open Go.RowKit

/-- All messages of bytes, the fault behind them, what is left; so many looks at most. -/
def allF : Nat → List UInt8 → List (Int × List UInt8) × (Nat × Nat × List UInt8) × Nat
  | 0, l => ([], (0, 0, []), l.length)
  | n + 1, l => if (nextF l).code ≠ 0 then ([], ((nextF l).code, (nextF l).sub, (nextF l).data), 0) else if (nextF l).size = 0 then ([], (0, 0, []), l.length)
    else ((((nextF l).kind : Int), (nextF l).body) :: (allF n (l.drop (nextF l).size)).1, (allF n (l.drop (nextF l).size)).2)
theorem nextF_size (l : List UInt8) : (nextF l).size ≤ l.length ∧ ((nextF l).size ≠ 0 → (nextF l).code = 0 ∧ 19 ≤ (nextF l).size ∧ (nextF l).body.length ≤ 4077) := by
  by_cases h : l.length < 19
  · unfold nextF; rw [if_pos h]; simp
  · cases hf : faultF l with
    | some p => unfold nextF; rw [if_neg h, hf]; simp
    | none =>
      have hN := faultF_none hf
      by_cases hs : l.length < sizeF l
      · have e : nextF l = ⟨0, [], 0, 0, 0, []⟩ := by unfold nextF; rw [if_neg h, hf]; show (if _ then _ else _) = _; rw [if_pos hs]
        rw [e]; simp
      · have e : nextF l = ⟨kindF l, (l.take (sizeF l)).drop 19, sizeF l, 0, 0, []⟩ := by unfold nextF; rw [if_neg h, hf]; show (if _ then _ else _) = _; rw [if_neg hs]
        rw [e]
        refine ⟨by show sizeF l ≤ _; omega, fun _ => ⟨rfl, hN.2.1, ?_⟩⟩
        show ((l.take (sizeF l)).drop 19).length ≤ 4077
        simp; omega
theorem nextF_code (l : List UInt8) : (nextF l).code = 0 ∨ (nextF l).code = 1 := by
  unfold nextF
  split
  · exact .inl rfl
  · split
    · exact .inr rfl
    · split <;> exact .inl rfl
theorem nextF_rest {l : List UInt8} (h : (nextF l).code = 0) : (nextF l).sub = 0 ∧ (nextF l).data = [] := by
  unfold nextF at h ⊢
  split
  · exact ⟨rfl, rfl⟩
  · rename_i h1
    rw [if_neg h1] at h
    split
    · rename_i s d hf
      rw [hf] at h
      exact absurd h (by simp)
    · split <;> exact ⟨rfl, rfl⟩
theorem nextF_data (l : List UInt8) : (nextF l).data.length ≤ 2 := by
  unfold nextF
  split
  · simp
  · split
    · rename_i s d hf
      unfold faultF headAns at hf
      split at hf
      · cases hf; simp
      · split at hf
        · cases hf; simp
        · split at hf
          · cases hf; simp
          · split at hf
            · cases hf; simp
            · cases hf
    · split <;> simp
theorem allF_fault {n : Nat} {l : List UInt8} (h : (nextF l).code ≠ 0) : allF (n + 1) l = ([], ((nextF l).code, (nextF l).sub, (nextF l).data), 0) := by rw [allF, if_pos h]
theorem allF_stop {n : Nat} {l : List UInt8} (h : (nextF l).code = 0) (hs : (nextF l).size = 0) : allF (n + 1) l = ([], (0, 0, []), l.length) := by rw [allF, if_neg (by simpa using h), if_pos hs]
theorem allF_more {n : Nat} {l : List UInt8} (hs : (nextF l).size ≠ 0) : allF (n + 1) l = ((((nextF l).kind : Int), (nextF l).body) :: (allF n (l.drop (nextF l).size)).1, (allF n (l.drop (nextF l).size)).2) := by
  rw [allF, if_neg (by simpa using ((nextF_size l).2 hs).1), if_neg hs]
end Go.Proofs.YtjhmkapafhgofaaDoor

/-
  Norm does not change how long a path counts.
-/
import Derived.Test.YtlgfollajodpaaaDoorNorm
import Derived.Test.YtlgfollajodpaaaDoorCnt
namespace Go.Proofs.YtlgfollajodpaaaDoor
set_option linter.unusedVariables false

def cntA (r : List (Int × List Nat)) : Nat := (r.map fun s => if s.1 = 1 then 1 else s.2.length).sum
theorem cnt_abs (M : List Sg) : cntN M = cntA (M.map Sg.abs) := by
  unfold cntN cntA
  rw [List.map_map]
  rfl
theorem norm_cnt (r : List (Int × List Nat)) : cntA (normL r) = cntA r := by
  have step : ∀ (acc : List (Int × List Nat)) (s : Int × List Nat), cntA (normStep acc s) = cntA acc + (if s.1 = 1 then 1 else s.2.length) := by
    intro acc s
    rcases List.eq_nil_or_concat acc with rfl | ⟨a0, t, rfl⟩
    · rw [step_nil]
      simp [cntA]
    · rw [List.concat_eq_append]
      by_cases h : t.1 = 2 ∧ s.1 = 2
      · rw [step_more _ _ _ h.1 h.2]
        simp [cntA, h.1, h.2]
        omega
      · rw [step_push _ _ _ h]
        simp [cntA]
        omega
  have fold : ∀ (r acc : List (Int × List Nat)), cntA (r.foldl normStep acc) = cntA acc + cntA r := by
    intro r
    induction r with
    | nil => intro acc; simp [cntA]
    | cons s r ih =>
      intro acc
      rw [List.foldl_cons, ih, step]
      simp [cntA]
      omega
  have h := fold r []
  have e : cntA [] = 0 := rfl
  rw [e, Nat.zero_add] at h
  exact h
end Go.Proofs.YtlgfollajodpaaaDoor

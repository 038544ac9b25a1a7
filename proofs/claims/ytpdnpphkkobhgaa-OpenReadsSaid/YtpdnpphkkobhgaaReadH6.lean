/-
  An OPEN's first ten bytes, as a reader takes them; no program stands here.
-/
import Derived.Test.YtpdnpphkkobhgaaReadF6
namespace Go.Proofs.Ytpdnpphkkobhgaa
set_option linter.unusedVariables false

/-- What is taken: bytes, what is left, whether bytes lacked. -/
abbrev Tk := List UInt8 × List UInt8 × Bool
def t1 (l : List UInt8) : Tk := rdTake l false 1
def t2 (l : List UInt8) : Tk := rdTake (t1 l).2.1 (t1 l).2.2 2
def t3 (l : List UInt8) : Tk := rdTake (t2 l).2.1 (t2 l).2.2 2
def t4 (l : List UInt8) : Tk := rdTake (t3 l).2.1 (t3 l).2.2 4
def t5 (l : List UInt8) : Tk := rdTake (t4 l).2.1 (t4 l).2.2 1
theorem rd_fit {l : List UInt8} {s : Bool} {n : Nat} (h : n ≤ l.length) : rdTake l s (n : Int) = (l.take n, l.drop n, s) := by
  unfold rdTake
  rw [if_pos ⟨by omega, by omega⟩]
  simp
theorem rd_bad {l : List UInt8} {s : Bool} {n : Nat} (h : ¬ n ≤ l.length) : rdTake l s (n : Int) = ([], [], true) := by
  unfold rdTake
  rw [if_neg (by omega)]
theorem rd_stays (l : List UInt8) (n : Int) : (rdTake l true n).2.2 = true := by
  unfold rdTake
  split <;> rfl
theorem head_ok {l : List UInt8} (h : 10 ≤ l.length) : t1 l = (l.take 1, l.drop 1, false) ∧ t2 l = ((l.drop 1).take 2, l.drop 3, false) ∧ t3 l = ((l.drop 3).take 2, l.drop 5, false) ∧ t4 l = ((l.drop 5).take 4, l.drop 9, false) ∧ t5 l = ((l.drop 9).take 1, l.drop 10, false) := by
  have e1 : t1 l = (l.take 1, l.drop 1, false) := rd_fit (n := 1) (by omega)
  have e2 : t2 l = ((l.drop 1).take 2, l.drop 3, false) := by
    unfold t2; rw [e1]
    have := rd_fit (l := l.drop 1) (s := false) (n := 2) (by simp; omega)
    simpa [List.drop_drop] using this
  have e3 : t3 l = ((l.drop 3).take 2, l.drop 5, false) := by
    unfold t3; rw [e2]
    have := rd_fit (l := l.drop 3) (s := false) (n := 2) (by simp; omega)
    simpa [List.drop_drop] using this
  have e4 : t4 l = ((l.drop 5).take 4, l.drop 9, false) := by
    unfold t4; rw [e3]
    have := rd_fit (l := l.drop 5) (s := false) (n := 4) (by simp; omega)
    simpa [List.drop_drop] using this
  refine ⟨e1, e2, e3, e4, ?_⟩
  unfold t5; rw [e4]
  have := rd_fit (l := l.drop 9) (s := false) (n := 1) (by simp; omega)
  simpa [List.drop_drop] using this
theorem rd_next {l : List UInt8} {s : Bool} {n : Nat} (h : s = true ∨ l.length < n) : (rdTake l s (n : Int)).2.2 = true := by
  rcases h with rfl | h
  · exact rd_stays _ _
  · rw [rd_bad (by omega)]
theorem rd_left {l : List UInt8} {s : Bool} {n m : Nat} (h : s = true ∨ l.length < n + m) : (rdTake l s (n : Int)).2.2 = true ∨ (rdTake l s (n : Int)).2.1.length < m := by
  rcases h with rfl | h
  · exact .inl (rd_stays _ _)
  · by_cases hn : n ≤ l.length
    · rw [rd_fit hn]; right; simp; omega
    · rw [rd_bad hn]; exact .inl rfl
theorem head_bad {l : List UInt8} (h : l.length < 10) : (t5 l).2.2 = true := by
  have a1 : (t1 l).2.2 = true ∨ (t1 l).2.1.length < 9 := rd_left (n := 1) (m := 9) (.inr h)
  have a2 : (t2 l).2.2 = true ∨ (t2 l).2.1.length < 7 := rd_left (n := 2) (m := 7) a1
  have a3 : (t3 l).2.2 = true ∨ (t3 l).2.1.length < 5 := rd_left (n := 2) (m := 5) a2
  have a4 : (t4 l).2.2 = true ∨ (t4 l).2.1.length < 1 := rd_left (n := 4) (m := 1) a3
  exact rd_next (n := 1) a4
theorem num_one (l : List UInt8) (h : 10 ≤ l.length) : num ((l.drop 9).take 1) = (l.getD 9 0).toNat := by
  have e : (l.drop 9).take 1 = [l.getD 9 0] := by
    have h9 : 9 < l.length := by omega
    rw [List.drop_eq_getElem_cons h9, List.take_succ_cons, List.take_zero]
    simp [List.getD, h9]
  rw [e]
  simp [num]
end Go.Proofs.Ytpdnpphkkobhgaa

/-
  Which prefix comes first is one order; covering goes on: on numbers, no program stands here.
-/
import Derived.Test.YtcjeifpdikojlaaDoorCmp
namespace Go.Proofs.YtcjeifpdikojlaaDoor

theorem cmpI_range (x y : Int) : -1 ≤ cmpI x y ∧ cmpI x y ≤ 1 := by unfold cmpI; split <;> (try split) <;> omega
theorem cmpI_zero {x y : Int} : cmpI x y = 0 ↔ x = y := by unfold cmpI; split <;> (try split) <;> omega
theorem cmpI_neg (x y : Int) : cmpI x y = -cmpI y x := by unfold cmpI; split <;> (try split) <;> (try split) <;> omega
theorem cmpI_le {x y : Int} : cmpI x y ≤ 0 ↔ x ≤ y := by unfold cmpI; split <;> (try split) <;> omega
theorem cmpP_range (a n b m : Int) : -1 ≤ cmpP a n b m ∧ cmpP a n b m ≤ 1 := by
  unfold cmpP
  have h1 := cmpI_range a b
  have h2 := cmpI_range n m
  split <;> omega
theorem cmpP_zero {a n b m : Int} : cmpP a n b m = 0 ↔ a = b ∧ n = m := by
  unfold cmpP
  have h1 := cmpI_zero (x := a) (y := b)
  have h2 := cmpI_zero (x := n) (y := m)
  split <;> omega
theorem cmpP_neg (a n b m : Int) : cmpP a n b m = -cmpP b m a n := by
  unfold cmpP
  have h1 := cmpI_neg a b
  have h2 := cmpI_neg n m
  split <;> split <;> omega
theorem cmpP_le {a n b m : Int} : cmpP a n b m ≤ 0 ↔ a < b ∨ (a = b ∧ n ≤ m) := by
  unfold cmpP
  have h1 := cmpI_le (x := a) (y := b)
  have h2 := cmpI_le (x := n) (y := m)
  have h3 := cmpI_zero (x := a) (y := b)
  split <;> omega
theorem cmpP_trans {a n b m c k : Int} (h1 : cmpP a n b m ≤ 0) (h2 : cmpP b m c k ≤ 0) : cmpP a n c k ≤ 0 := by
  rw [cmpP_le] at h1 h2 ⊢
  omega

theorem hi_of_hi (c : Nat) {n m : Nat} (h : n ≤ m) (hm : m ≤ 32) : hi (hi c m) n = hi c n := by
  unfold hi
  have e : 2 ^ (32 - n) = 2 ^ (32 - m) * 2 ^ (m - n) := by rw [← Nat.pow_add]; congr 1; omega
  have hp : 0 < 2 ^ (32 - m) := Nat.pow_pos (by decide)
  rw [e, Nat.mul_comm (c / 2 ^ (32 - m)), Nat.mul_div_mul_left _ _ hp, Nat.div_div_eq_div_mul]

/-- What covers says, in numbers. -/
theorem covers_says {a n m : Int} {b : Nat} (h : coversB a n b m = true) : okP (b : Int) m = true ∧ okP a n = true ∧ 0 ≤ n ∧ n ≤ m ∧ m ≤ 32 ∧ ((hi b n.toNat : Nat) : Int) = a := by
  unfold coversB holdsB at h
  simp only [Bool.and_eq_true, decide_eq_true_eq, beq_iff_eq] at h
  obtain ⟨h1, h2, h3, h4⟩ := h
  have r1 := okP_range h1
  have r2 := okP_range h3
  exact ⟨h1, h3, r2.1, h2, r1.2, h4⟩
theorem covers_of {a n m : Int} {b : Nat} (h1 : okP (b : Int) m = true) (h2 : okP a n = true) (h3 : n ≤ m) (h4 : ((hi b n.toNat : Nat) : Int) = a) : coversB a n b m = true := by
  unfold coversB holdsB
  simp [h1, h2, h3, h4]
theorem covers_self (a : Nat) (n : Int) : coversB (a : Int) n a n = okP (a : Int) n := by
  cases h : okP (a : Int) n with
  | true =>
    refine covers_of h h (Int.le_refl _) ?_
    unfold okP at h
    simp only [decide_eq_true_eq, Int.toNat_natCast] at h
    omega
  | false => unfold coversB; rw [h]; rfl
theorem covers_trans {a b c : Nat} {n m k : Int} (h1 : coversB (a : Int) n b m = true) (h2 : coversB (b : Int) m c k = true) : coversB (a : Int) n c k = true := by
  obtain ⟨p1, p2, p3, p4, p5, p6⟩ := covers_says h1
  obtain ⟨q1, q2, q3, q4, q5, q6⟩ := covers_says h2
  refine covers_of q1 p2 (by omega) ?_
  have e := hi_of_hi c (n := n.toNat) (m := m.toNat) (by omega) (by omega)
  have e2 : hi c m.toNat = b := by omega
  rw [e2] at e
  rw [← e]
  exact p6
theorem covers_le {a b : Nat} {n m : Int} (h : coversB (a : Int) n b m = true) : cmpP (a : Int) n (b : Int) m ≤ 0 := by
  obtain ⟨p1, p2, p3, p4, p5, p6⟩ := covers_says h
  have := hi_le b n.toNat
  rw [cmpP_le]
  omega
theorem covers_both {a b : Nat} {n m : Int} (h1 : coversB (a : Int) n b m = true) (h2 : coversB (b : Int) m a n = true) : a = b ∧ n = m := by
  have q1 := covers_le h1
  have q2 := covers_le h2
  rw [cmpP_le] at q1 q2
  omega
end Go.Proofs.YtcjeifpdikojlaaDoor

/-
  Which versions are live, by what is held of them: numbers and lists; no program stands here.
-/
import Derived.Test.YtagfehfggkehmaaVer
namespace Go.Proofs.Ytagfehfggkehmaa
set_option linter.unusedVariables false
set_option linter.unusedSimpArgs false

/-- The versions, each seven times its number, of which h is the head, and L are held. -/
def BF (h : Int) (L : List Int) : Int → Option (Int × Int) := fun j => if j = h ∨ j ∈ L then some (7 * j, (L.count j : Int)) else none
def dcnt : List Int → Nat
  | [] => 0
  | a :: l => dcnt l + if a ∈ l then 0 else 1
def BC (h : Int) (L : List Int) : Nat := dcnt L + if h ∈ L then 0 else 1

theorem dcnt_le : ∀ L : List Int, dcnt L ≤ L.length
  | [] => Nat.le_refl _
  | a :: l => by
    have := dcnt_le l
    simp only [dcnt, List.length_cons]
    split <;> omega
theorem dcnt_pos {L : List Int} (h : L ≠ []) : 1 ≤ dcnt L := by
  induction L with
  | nil => exact absurd rfl h
  | cons a l ih =>
    simp only [dcnt]
    by_cases hl : l = []
    · subst hl; simp [dcnt]
    · have := ih hl; omega
theorem dcnt_snoc (x : Int) : ∀ L : List Int, dcnt (L ++ [x]) = dcnt L + if x ∈ L then 0 else 1
  | [] => rfl
  | a :: l => by
    rw [List.cons_append]
    simp only [dcnt, dcnt_snoc x l, List.mem_append, List.mem_cons, List.not_mem_nil, or_false]
    by_cases h1 : a ∈ l
    · by_cases h2 : x ∈ l
      · simp [h1, h2]
      · by_cases h3 : x = a
        · subst h3; exact absurd h1 h2
        · simp [h1, h2, h3]
    · by_cases h2 : x ∈ l
      · by_cases h3 : a = x
        · subst h3; exact absurd h2 h1
        · simp [h1, h2, h3]
      · by_cases h3 : a = x
        · subst h3; simp [h1]
        · have h4 : x ≠ a := fun e => h3 e.symm
          simp [h1, h2, h3, h4]
theorem bc_le (h : Int) (L : List Int) : BC h L ≤ L.length + 1 := by
  have := dcnt_le L
  unfold BC
  split <;> omega
theorem bc_pos (h : Int) (L : List Int) : 1 ≤ BC h L := by
  unfold BC
  split
  · rename_i hm
    have := dcnt_pos (L := L) (by intro e; subst e; simp at hm)
    omega
  · omega
theorem bf_new : putF (fun _ => none) 0 ((0 : Int), (0 : Int)) = BF 0 [] := by
  funext j
  by_cases h : j = 0 <;> simp [putF, BF, h]
theorem bf_held {h : Int} {L : List Int} {x : Int} (hx : x ∈ L) : BF h L x = some (7 * x, (L.count x : Int)) ∧ 1 ≤ L.count x :=
  ⟨by simp [BF, hx], List.count_pos_iff.2 hx⟩
theorem bf_head (h : Int) (L : List Int) : BF h L h = some (7 * h, (L.count h : Int)) := by simp [BF]

theorem bf_commit {h : Int} {L : List Int} (hm : ∀ x ∈ L, x ≤ h) :
    dropF (putF (BF h L) (h + 1) (7 * (h + 1), 0)) 0 (h + 1) h = BF (h + 1) L ∧ dropC (putF (BF h L) (h + 1) (7 * (h + 1), 0)) 0 (h + 1) h (putC (BF h L) (h + 1) (BC h L)) = BC (h + 1) L := by
  have hn : h + 1 ∉ L := fun hx => by have := hm _ hx; omega
  have h1 : BF h L (h + 1) = none := by simp [BF, hn]; omega
  have h2 : putC (BF h L) (h + 1) (BC h L) = BC h L + 1 := by simp [putC, h1]
  have h3 : putF (BF h L) (h + 1) (7 * (h + 1), (0 : Int)) h = some (7 * h, (L.count h : Int)) := by
    have : ¬ h = h + 1 := by omega
    simp only [putF, this, if_false]
    exact bf_head h L
  rw [h2]
  have D := drop_is (putF (BF h L) (h + 1) (7 * (h + 1), (0 : Int))) 0 (h + 1) h (BC h L + 1)
  rw [h3] at D
  by_cases hh : h ∈ L
  · have hc := List.count_pos_iff.2 hh
    have hq : ¬ (h ≠ h + 1 ∧ ((some (7 * h, (L.count h : Int))).getD (0, 0)).2 = 0) := by simp; omega
    rw [(D.2 hq).1, (D.2 hq).2]
    refine ⟨?_, by simp [BC, hh, hn]⟩
    funext j
    by_cases hj : j = h + 1
    · subst hj; simp [putF, BF, List.count_eq_zero.2 hn]
    · by_cases hj2 : j = h
      · subst hj2; simp [putF, BF, hj, hh]
      · simp [putF, BF, hj, hj2]
  · have hq : h ≠ h + 1 ∧ ((some (7 * h, (L.count h : Int))).getD (0, 0)).2 = 0 := by
      refine ⟨by omega, ?_⟩
      simp [List.count_eq_zero.2 hh]
    rw [(D.1 hq).1, (D.1 hq).2]
    refine ⟨?_, by simp [delC, h3, BC, hh, hn]⟩
    funext j
    by_cases hj : j = h + 1
    · subst hj
      have : ¬ h + 1 = h := by omega
      simp [delF, putF, BF, this, List.count_eq_zero.2 hn]
    · by_cases hj2 : j = h
      · subst hj2; simp [delF, BF, hj, hh]
      · simp [delF, putF, BF, hj, hj2]
theorem bf_pin (h : Int) (L : List Int) : putF (BF h L) h (7 * h, (L.count h : Int) + 1) = BF h (L ++ [h]) ∧ putC (BF h L) h (BC h L) = BC h (L ++ [h]) := by
  refine ⟨?_, ?_⟩
  · funext j
    by_cases hj : j = h
    · subst hj; simp [putF, BF, List.count_append]
    · have : h ≠ j := fun e => hj e.symm
      simp [putF, BF, hj, List.count_append, List.count_cons, this]
  · simp only [putC, bf_head, Option.isSome_some, if_true, BC, dcnt_snoc]
    simp
theorem bf_release (h a : Int) (l : List Int) :
    dropF (putF (BF h (a :: l)) a (7 * a, ((a :: l).count a : Int) - 1)) 0 h a = BF h l ∧ dropC (putF (BF h (a :: l)) a (7 * a, ((a :: l).count a : Int) - 1)) 0 h a (putC (BF h (a :: l)) a (BC h (a :: l))) = BC h l := by
  have h1 : BF h (a :: l) a = some (7 * a, ((a :: l).count a : Int)) := (bf_held (by simp)).1
  have h2 : putC (BF h (a :: l)) a (BC h (a :: l)) = BC h (a :: l) := by simp [putC, h1]
  have hc : ((a :: l).count a : Int) - 1 = (l.count a : Int) := by rw [List.count_cons_self]; omega
  have h3 : putF (BF h (a :: l)) a (7 * a, (l.count a : Int)) a = some (7 * a, (l.count a : Int)) := by simp [putF]
  rw [h2, hc]
  have D := drop_is (putF (BF h (a :: l)) a (7 * a, (l.count a : Int))) 0 h a (BC h (a :: l))
  rw [h3] at D
  have other : ∀ j, j ≠ a → BF h (a :: l) j = BF h l j := by
    intro j hj
    have : a ≠ j := fun e => hj e.symm
    simp [BF, hj, List.count_cons, this]
  by_cases hq : a ≠ h ∧ a ∉ l
  · have hq' : a ≠ h ∧ ((some (7 * a, (l.count a : Int))).getD (0, 0)).2 = 0 := ⟨hq.1, by simp [List.count_eq_zero.2 hq.2]⟩
    rw [(D.1 hq').1, (D.1 hq').2]
    refine ⟨?_, ?_⟩
    · funext j
      by_cases hj : j = a
      · subst hj; simp [delF, BF, hq.1, hq.2]
      · simp only [delF, putF, hj, if_false]; exact other j hj
    · have hh : h ≠ a := fun e => hq.1 e.symm
      simp [delC, h3, BC, dcnt, hq.2, hh]
  · have hq' : ¬ (a ≠ h ∧ ((some (7 * a, (l.count a : Int))).getD (0, 0)).2 = 0) := by
      rintro ⟨q1, q2⟩
      refine hq ⟨q1, fun hm => ?_⟩
      have := List.count_pos_iff.2 hm
      simp at q2
      omega
    rw [(D.2 hq').1, (D.2 hq').2]
    refine ⟨?_, ?_⟩
    · funext j
      by_cases hj : j = a
      · subst hj
        have hm : j = h ∨ j ∈ l := by
          by_cases h4 : j = h
          · exact .inl h4
          · exact .inr (Classical.byContradiction fun h5 => hq ⟨h4, h5⟩)
        simp [putF, BF, hm]
      · simp only [putF, hj, if_false]; exact other j hj
    · by_cases hm : a ∈ l
      · by_cases hh : h = a
        · subst hh; simp [BC, dcnt, hm]
        · simp [BC, dcnt, hm, hh]
      · have hah : a = h := Classical.byContradiction fun h4 => hq ⟨h4, hm⟩
        subst hah
        simp [BC, dcnt, hm]
end Go.Proofs.Ytagfehfggkehmaa

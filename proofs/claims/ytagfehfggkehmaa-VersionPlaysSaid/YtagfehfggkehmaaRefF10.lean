/-
  What the document's store of versions answers: lists of numbers; no program stands here.
-/
import Derived.Test.YtagfehfggkehmaaVer
namespace Go.Proofs.Ytagfehfggkehmaa
set_option linter.unusedVariables false
set_option linter.unusedSimpArgs false

/-- The version k, where there is one. -/
def nth (L : List Int) (k : Int) : Int := L.getD k.toNat 0
def isL (A P : List Int) (k : Int) : Prop := 0 ≤ k ∧ k < (A.length : Int) ∧ (nth P k ≠ 0 ∨ k = (A.length : Int) - 1)
instance (A P : List Int) (k : Int) : Decidable (isL A P k) := by unfold isL; exact inferInstance
def RF (A P : List Int) : Int → Option (Int × Int) := fun j => if isL A P j then some (nth A j, nth P j) else none
/-- How many of the first m are pinned. -/
def cz (P : List Int) : Nat → Nat
  | 0 => 0
  | m + 1 => cz P m + if P.getD m 0 ≠ 0 then 1 else 0
def RC (A P : List Int) : Nat := cz P (A.length - 1) + 1

theorem nth_nat (L : List Int) (k : Nat) : nth L (k : Int) = L.getD k 0 := by simp [nth]
theorem nth_append_left {L : List Int} {k : Int} (h0 : 0 ≤ k) (h : k < (L.length : Int)) (x : Int) : nth (L ++ [x]) k = nth L k := by
  obtain ⟨j, rfl⟩ := Int.eq_ofNat_of_zero_le h0
  have hj : j < L.length := by omega
  simp [nth, List.getD, List.getElem?_append_left hj]
theorem nth_append_last (L : List Int) (x : Int) : nth (L ++ [x]) (L.length : Int) = x := by simp [nth, List.getD]
theorem nth_set_same {L : List Int} {k : Nat} (h : k < L.length) (v : Int) : nth (L.set k v) (k : Int) = v := by simp [nth, List.getD, h]
theorem nth_set_other {L : List Int} {k : Nat} {j : Int} (h0 : 0 ≤ j) (h : j ≠ (k : Int)) (v : Int) : nth (L.set k v) j = nth L j := by
  obtain ⟨q, rfl⟩ := Int.eq_ofNat_of_zero_le h0
  have hq : k ≠ q := by omega
  simp [nth, List.getD, List.getElem?_set_ne hq]
theorem cz_congr {P Q : List Int} : ∀ m, (∀ k, k < m → P.getD k 0 = Q.getD k 0) → cz P m = cz Q m
  | 0, _ => rfl
  | m + 1, h => by
    simp only [cz, cz_congr m (fun k hk => h k (by omega)), h m (by omega)]
theorem cz_set {P : List Int} {k : Nat} (hk : k < P.length) (v : Int) : ∀ m, k < m → cz (P.set k v) m + (if P.getD k 0 ≠ 0 then 1 else 0) = cz P m + if v ≠ 0 then 1 else 0
  | 0, h => absurd h (by omega)
  | m + 1, h => by
    simp only [cz]
    by_cases hm : k = m
    · subst hm
      have e : cz (P.set k v) k = cz P k := cz_congr k fun j hj => by
        have : k ≠ j := by omega
        simp [List.getD, List.getElem?_set_ne this]
      have e2 : (P.set k v).getD k 0 = v := by simp [List.getD, hk]
      rw [e, e2]
      omega
    · have ih := cz_set hk v m (by omega)
      have e2 : (P.set k v).getD m 0 = P.getD m 0 := by simp [List.getD, List.getElem?_set_ne hm]
      rw [e2]
      omega

theorem rf_new (x : Int) : putF (fun _ => none) 0 (x, 0) = RF [x] [0] := by
  funext j
  by_cases h : j = 0
  · subst h; simp [putF, RF, isL, nth]
  · have : ¬ isL [x] [0] j := by
      rintro ⟨h1, h2, _⟩
      simp at h2
      omega
    simp [putF, RF, h, this]

section
variable {A P : List Int}
theorem rf_head (hl : A.length = P.length) (hp : 0 < A.length) : RF A P ((A.length : Int) - 1) = some (nth A ((A.length : Int) - 1), nth P ((A.length : Int) - 1)) := by
  have : isL A P ((A.length : Int) - 1) := ⟨by omega, by omega, .inr rfl⟩
  simp [RF, this]

theorem rf_commit (hl : A.length = P.length) (hp : 0 < A.length) (x : Int) :
    dropF (putF (RF A P) ((A.length : Int) - 1 + 1) (x, 0)) 0 ((A.length : Int) - 1 + 1) ((A.length : Int) - 1) = RF (A ++ [x]) (P ++ [0]) ∧
    dropC (putF (RF A P) ((A.length : Int) - 1 + 1) (x, 0)) 0 ((A.length : Int) - 1 + 1) ((A.length : Int) - 1) (putC (RF A P) ((A.length : Int) - 1 + 1) (RC A P)) = RC (A ++ [x]) (P ++ [0]) := by
  have e1 : (A.length : Int) - 1 + 1 = (A.length : Int) := by omega
  rw [e1]
  have hnew : RF A P (A.length : Int) = none := by
    have : ¬ isL A P (A.length : Int) := fun h => by have := h.2.1; omega
    simp [RF, this]
  have h2 : putC (RF A P) (A.length : Int) (RC A P) = RC A P + 1 := by simp [putC, hnew]
  have hne : (A.length : Int) - 1 ≠ (A.length : Int) := by omega
  have h3 : putF (RF A P) (A.length : Int) (x, (0 : Int)) ((A.length : Int) - 1) = some (nth A ((A.length : Int) - 1), nth P ((A.length : Int) - 1)) := by
    simp only [putF, hne, if_false]
    exact rf_head hl hp
  rw [h2]
  have D := drop_is (putF (RF A P) (A.length : Int) (x, (0 : Int))) 0 (A.length : Int) ((A.length : Int) - 1) (RC A P + 1)
  rw [h3] at D
  -- what the new list says of a version that was there
  have old : ∀ j : Int, j ≠ (A.length : Int) → RF (A ++ [x]) (P ++ [0]) j = if 0 ≤ j ∧ j < (A.length : Int) ∧ nth P j ≠ 0 then some (nth A j, nth P j) else none := by
    intro j hj
    unfold RF
    by_cases hr : 0 ≤ j ∧ j < (A.length : Int)
    · have ea := nth_append_left hr.1 hr.2 x
      have ep := nth_append_left (L := P) hr.1 (by omega) 0
      by_cases hz : nth P j = 0
      · have h4 : ¬ isL (A ++ [x]) (P ++ [0]) j := by
          rintro ⟨_, _, h | h⟩
          · rw [ep] at h; exact h hz
          · simp at h; omega
        rw [if_neg h4, if_neg (fun h => h.2.2 hz)]
      · have h4 : isL (A ++ [x]) (P ++ [0]) j := ⟨hr.1, by simp; omega, .inl (by rw [ep]; exact hz)⟩
        rw [if_pos h4, if_pos ⟨hr.1, hr.2, hz⟩, ea, ep]
    · have h4 : ¬ isL (A ++ [x]) (P ++ [0]) j := by
        rintro ⟨h5, h6, _⟩
        simp at h6
        omega
      rw [if_neg h4, if_neg (fun h => hr ⟨h.1, h.2.1⟩)]
  have last : RF (A ++ [x]) (P ++ [0]) (A.length : Int) = some (x, 0) := by
    have h4 : isL (A ++ [x]) (P ++ [0]) (A.length : Int) := ⟨by omega, by simp only [List.length_append, List.length_singleton]; omega, .inr (by simp)⟩
    unfold RF
    rw [if_pos h4, nth_append_last, hl, nth_append_last]
  have hcz : RC (A ++ [x]) (P ++ [0]) = cz P (A.length - 1) + (if nth P ((A.length : Int) - 1) ≠ 0 then 1 else 0) + 1 := by
    unfold RC
    obtain ⟨m, hm⟩ : ∃ m, A.length = m + 1 := ⟨A.length - 1, by omega⟩
    have e3 : (A ++ [x]).length - 1 = m + 1 := by simp [hm]
    have e4 : (A.length : Int) - 1 = (m : Int) := by omega
    rw [e3, e4, hm, nth_nat]
    have e5 : cz (P ++ [0]) (m + 1) = cz P (m + 1) := cz_congr _ fun k hk => by
      have : k < P.length := by omega
      simp [List.getD, List.getElem?_append_left this]
    rw [e5]
    rfl
  by_cases hz : nth P ((A.length : Int) - 1) = 0
  · have hq : (A.length : Int) - 1 ≠ (A.length : Int) ∧ ((some (nth A ((A.length : Int) - 1), nth P ((A.length : Int) - 1))).getD (0, 0)).2 = 0 := ⟨hne, hz⟩
    rw [(D.1 hq).1, (D.1 hq).2, hcz]
    refine ⟨?_, by simp [delC, h3, RC, hz]⟩
    funext j
    by_cases h1 : j = (A.length : Int)
    · subst h1
      rw [last]
      have : ¬ (A.length : Int) = (A.length : Int) - 1 := by omega
      simp [delF, putF, this]
    · rw [old j h1]
      by_cases h5 : j = (A.length : Int) - 1
      · subst h5
        rw [if_neg (fun h => h.2.2 hz)]
        simp [delF]
      · have e6 : delF (putF (RF A P) (A.length : Int) (x, 0)) ((A.length : Int) - 1) j = RF A P j := by simp only [delF, putF, h1, h5, if_false]
        rw [e6]
        unfold RF
        by_cases h6 : 0 ≤ j ∧ j < (A.length : Int) ∧ nth P j ≠ 0
        · have h7 : isL A P j := ⟨h6.1, h6.2.1, .inl h6.2.2⟩
          rw [if_pos h6, if_pos h7]
        · have h7 : ¬ isL A P j := by
            rintro ⟨q1, q2, q3 | q3⟩
            · exact h6 ⟨q1, q2, q3⟩
            · exact h5 q3
          rw [if_neg h6, if_neg h7]
  · have hq : ¬ ((A.length : Int) - 1 ≠ (A.length : Int) ∧ ((some (nth A ((A.length : Int) - 1), nth P ((A.length : Int) - 1))).getD (0, 0)).2 = 0) := fun h => hz h.2
    rw [(D.2 hq).1, (D.2 hq).2, hcz]
    refine ⟨?_, by simp [RC, hz]⟩
    funext j
    by_cases h1 : j = (A.length : Int)
    · subst h1
      rw [last]
      simp [putF]
    · rw [old j h1]
      have e6 : putF (RF A P) (A.length : Int) (x, 0) j = RF A P j := by simp only [putF, h1, if_false]
      rw [e6]
      unfold RF
      by_cases h6 : 0 ≤ j ∧ j < (A.length : Int) ∧ nth P j ≠ 0
      · have h7 : isL A P j := ⟨h6.1, h6.2.1, .inl h6.2.2⟩
        rw [if_pos h6, if_pos h7]
      · have h7 : ¬ isL A P j := by
          rintro ⟨q1, q2, q3 | q3⟩
          · exact h6 ⟨q1, q2, q3⟩
          · subst q3; exact h6 ⟨q1, q2, hz⟩
        rw [if_neg h6, if_neg h7]

theorem rf_pin (hl : A.length = P.length) (hp : 0 < A.length) (h0 : 0 ≤ nth P ((A.length : Int) - 1)) :
    putF (RF A P) ((A.length : Int) - 1) (nth A ((A.length : Int) - 1), nth P ((A.length : Int) - 1) + 1) = RF A (P.set (A.length - 1) (nth P ((A.length : Int) - 1) + 1)) ∧
    putC (RF A P) ((A.length : Int) - 1) (RC A P) = RC A (P.set (A.length - 1) (nth P ((A.length : Int) - 1) + 1)) := by
  have e4 : ((A.length - 1 : Nat) : Int) = (A.length : Int) - 1 := by omega
  have hlt : A.length - 1 < P.length := by omega
  refine ⟨?_, ?_⟩
  · funext j
    by_cases h5 : j = (A.length : Int) - 1
    · subst h5
      have hs := nth_set_same hlt (nth P ((A.length : Int) - 1) + 1)
      rw [e4] at hs
      have h4 : isL A (P.set (A.length - 1) (nth P ((A.length : Int) - 1) + 1)) ((A.length : Int) - 1) := ⟨by omega, by omega, .inr rfl⟩
      simp only [putF, if_true, RF, h4, hs]
    · simp only [putF, h5, if_false, RF]
      by_cases hj : 0 ≤ j
      · have hs := nth_set_other (L := P) (k := A.length - 1) hj (by rw [e4]; exact h5) (nth P ((A.length : Int) - 1) + 1)
        simp only [isL, hs]
      · have h6 : ∀ Q, ¬ isL A Q j := fun Q h => hj h.1
        simp only [h6, if_false]
  · have h7 := rf_head hl hp
    simp only [putC, h7, Option.isSome_some, if_true, RC]
    rw [cz_congr (Q := P) (P := P.set (A.length - 1) (nth P ((A.length : Int) - 1) + 1)) (A.length - 1) (fun k hk => by
      have : A.length - 1 ≠ k := by omega
      simp [List.getD, List.getElem?_set_ne this])]

theorem rf_some (hl : A.length = P.length) {k : Nat} (hk : k < A.length) (hz : P.getD k 0 ≠ 0) : RF A P (k : Int) = some (nth A (k : Int), P.getD k 0) := by
  have : isL A P (k : Int) := ⟨by omega, by omega, .inl (by rw [nth_nat]; exact hz)⟩
  simp only [RF, this, if_true, nth_nat]

theorem rf_release (hl : A.length = P.length) {k : Nat} (hk : k < A.length) (hz : 0 < P.getD k 0) :
    dropF (putF (RF A P) (k : Int) (nth A (k : Int), P.getD k 0 - 1)) 0 ((A.length : Int) - 1) (k : Int) = RF A (P.set k (P.getD k 0 - 1)) ∧
    dropC (putF (RF A P) (k : Int) (nth A (k : Int), P.getD k 0 - 1)) 0 ((A.length : Int) - 1) (k : Int) (putC (RF A P) (k : Int) (RC A P)) = RC A (P.set k (P.getD k 0 - 1)) := by
  have h1 := rf_some hl hk (by omega)
  have h2 : putC (RF A P) (k : Int) (RC A P) = RC A P := by simp [putC, h1]
  have h3 : putF (RF A P) (k : Int) (nth A (k : Int), P.getD k 0 - 1) (k : Int) = some (nth A (k : Int), P.getD k 0 - 1) := by simp [putF]
  have hkp : k < P.length := by omega
  have hs := nth_set_same hkp (P.getD k 0 - 1)
  rw [h2]
  have D := drop_is (putF (RF A P) (k : Int) (nth A (k : Int), P.getD k 0 - 1)) 0 ((A.length : Int) - 1) (k : Int) (RC A P)
  rw [h3] at D
  have other : ∀ j, j ≠ (k : Int) → RF A (P.set k (P.getD k 0 - 1)) j = RF A P j := by
    intro j hj
    unfold RF
    by_cases h0 : 0 ≤ j
    · have e := nth_set_other (L := P) h0 hj (P.getD k 0 - 1)
      simp only [isL, e]
    · have h6 : ∀ Q, ¬ isL A Q j := fun Q h => h0 h.1
      simp only [h6, if_false]
  by_cases hq : (k : Int) ≠ (A.length : Int) - 1 ∧ P.getD k 0 - 1 = 0
  · rw [(D.1 ⟨hq.1, hq.2⟩).1, (D.1 ⟨hq.1, hq.2⟩).2]
    refine ⟨?_, ?_⟩
    · funext j
      by_cases hj : j = (k : Int)
      · subst hj
        have h4 : ¬ isL A (P.set k (P.getD k 0 - 1)) (k : Int) := by
          rintro ⟨_, _, h | h⟩
          · rw [hs] at h; exact h hq.2
          · exact hq.1 h
        rw [show RF A (P.set k (P.getD k 0 - 1)) (k : Int) = none from if_neg h4]
        simp [delF]
      · rw [other j hj]
        simp [delF, putF, hj]
    · have h5 := cz_set hkp (P.getD k 0 - 1) (A.length - 1) (by omega)
      have h6 : P.getD k 0 ≠ 0 := by omega
      rw [if_pos h6, if_neg (fun h => h hq.2)] at h5
      simp only [delC, h3, Option.isSome_some, if_true, RC]
      omega
  · rw [(D.2 (fun h => hq ⟨h.1, h.2⟩)).1, (D.2 (fun h => hq ⟨h.1, h.2⟩)).2]
    refine ⟨?_, ?_⟩
    · funext j
      by_cases hj : j = (k : Int)
      · subst hj
        have h4 : isL A (P.set k (P.getD k 0 - 1)) (k : Int) := by
          refine ⟨by omega, by omega, ?_⟩
          rw [hs]
          by_cases h5 : (k : Int) = (A.length : Int) - 1
          · exact .inr h5
          · exact .inl fun h6 => hq ⟨h5, h6⟩
        simp only [putF, if_true, RF, h4, hs]
      · rw [other j hj]
        simp [putF, hj]
    · unfold RC
      by_cases hkl : k < A.length - 1
      · have h5 := cz_set hkp (P.getD k 0 - 1) (A.length - 1) hkl
        have h6 : P.getD k 0 ≠ 0 := by omega
        have h7 : P.getD k 0 - 1 ≠ 0 := fun h => hq ⟨by omega, h⟩
        rw [if_pos h6, if_pos h7] at h5
        omega
      · rw [cz_congr (P := P.set k (P.getD k 0 - 1)) (Q := P) (A.length - 1) fun j hj => by
          have : k ≠ j := by omega
          simp [List.getD, List.getElem?_set_ne this]]
end
end Go.Proofs.Ytagfehfggkehmaa

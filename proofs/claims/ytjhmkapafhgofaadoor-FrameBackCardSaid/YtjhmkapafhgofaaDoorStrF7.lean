/-
  Messages do not hang on where bytes are cut: lists alone.
-/
import Derived.Test.YtjhmkapafhgofaaDoorAllF7
namespace Go.Proofs.YtjhmkapafhgofaaDoor
open Go.RowKit

theorem byteN_app {R Q : List UInt8} {i : Nat} (h : i < R.length) : byteN (R ++ Q) i = byteN R i := by
  unfold byteN; simp [List.getD, List.getElem?_append_left h]
theorem getD_app {R Q : List UInt8} {i : Nat} (h : i < R.length) : (R ++ Q).getD i 0 = R.getD i 0 := by
  simp [List.getD, List.getElem?_append_left h]
theorem faultF_app {R Q : List UInt8} (h : 19 ≤ R.length) : faultF (R ++ Q) = faultF R ∧ sizeF (R ++ Q) = sizeF R ∧ kindF (R ++ Q) = kindF R := by
  have h1 : sizeF (R ++ Q) = sizeF R := by unfold sizeF; rw [byteN_app (by omega), byteN_app (by omega)]
  have h2 : kindF (R ++ Q) = kindF R := by unfold kindF; rw [byteN_app (by omega)]
  have h3 : syncB (R ++ Q) = syncB R := by unfold syncB; rw [List.take_append_of_le_length (by omega)]
  refine ⟨?_, h1, h2⟩
  unfold faultF
  rw [h1, h2, h3, getD_app (by omega), getD_app (by omega)]
theorem nextF_app_size {R Q : List UInt8} (h : (nextF R).size ≠ 0) : nextF (R ++ Q) = nextF R := by
  by_cases hl : R.length < 19
  · rw [show nextF R = ⟨0, [], 0, 0, 0, []⟩ by unfold nextF; rw [if_pos hl]] at h
    exact absurd rfl h
  · have hA := faultF_app (Q := Q) (show 19 ≤ R.length by omega)
    have hx := (nextF_size R).1
    unfold nextF at h hx ⊢
    rw [if_neg hl] at h hx
    rw [if_neg hl, if_neg (by rw [List.length_append]; omega), hA.1, hA.2.1, hA.2.2]
    cases hf : faultF R with
    | some p => rw [hf] at h; try exact absurd rfl h
    | none =>
      rw [hf] at h hx
      by_cases hs : R.length < sizeF R
      · simp only [hs, if_true] at h; exact absurd rfl h
      · simp only [hs, if_false]
        rw [if_neg (by rw [List.length_append]; omega), List.take_append_of_le_length (by omega)]
theorem nextF_app_code {R Q : List UInt8} (h : (nextF R).code ≠ 0) : nextF (R ++ Q) = nextF R := by
  by_cases hl : R.length < 19
  · rw [show nextF R = ⟨0, [], 0, 0, 0, []⟩ by unfold nextF; rw [if_pos hl]] at h
    exact absurd rfl h
  · have hA := faultF_app (Q := Q) (show 19 ≤ R.length by omega)
    unfold nextF at h ⊢
    rw [if_neg hl] at h
    rw [if_neg hl, if_neg (by rw [List.length_append]; omega), hA.1, hA.2.1, hA.2.2]
    cases hf : faultF R with
    | some p => rfl
    | none =>
      rw [hf] at h
      by_cases hs : R.length < sizeF R
      · simp only [hs, if_true] at h; exact absurd rfl h
      · simp only [hs, if_false] at h; exact absurd rfl h

/-- What was taken and what is left are all: of the bytes l the first p were fed, Ma was taken, R is left. -/
def InvOk (l : List UInt8) (p : Nat) (Ma : List (Int × List UInt8)) (R : List UInt8) : Prop :=
  19 * Ma.length + R.length ≤ p ∧ p ≤ l.length ∧ allF (l.length + 1) l = (Ma ++ (allF (l.length + 1 - Ma.length) (R ++ l.drop p)).1, (allF (l.length + 1 - Ma.length) (R ++ l.drop p)).2)
def InvBad (l : List UInt8) (Ma : List (Int × List UInt8)) (U : Nat) (D : List UInt8) : Prop := allF (l.length + 1) l = (Ma, ((1, U, D), 0))
theorem inv_start (l : List UInt8) : InvOk l 0 [] [] := ⟨by simp, Nat.zero_le _, by simp⟩
theorem inv_feed {l R : List UInt8} {p n : Nat} {Ma : List (Int × List UInt8)} (h : InvOk l p Ma R) (hn : n ≤ l.length - p) : InvOk l (p + n) Ma (R ++ (l.drop p).take n) := by
  obtain ⟨h1, h2, h3⟩ := h
  refine ⟨by simp; omega, by omega, ?_⟩
  have e : R ++ (l.drop p).take n ++ l.drop (p + n) = R ++ l.drop p := by
    rw [List.append_assoc, ← List.drop_drop, List.take_append_drop]
  rw [e]; exact h3
theorem inv_take {l R : List UInt8} {p : Nat} {Ma : List (Int × List UInt8)} (h : InvOk l p Ma R) (hs : (nextF R).size ≠ 0) : InvOk l p (Ma ++ [(((nextF R).kind : Int), (nextF R).body)]) (R.drop (nextF R).size) := by
  obtain ⟨h1, h2, h3⟩ := h
  have hx := nextF_size R
  have hx2 := hx.2 hs
  refine ⟨by simp; omega, h2, ?_⟩
  have e : l.length + 1 - Ma.length = (l.length - Ma.length) + 1 := by omega
  have hA := nextF_app_size (Q := l.drop p) hs
  rw [e, allF_more (n := l.length - Ma.length) (l := R ++ l.drop p) (by rw [hA]; exact hs), hA] at h3
  have e2 : (R ++ l.drop p).drop (nextF R).size = R.drop (nextF R).size ++ l.drop p := by rw [List.drop_append_of_le_length hx.1]
  rw [e2] at h3
  have e3 : l.length + 1 - (Ma ++ [(((nextF R).kind : Int), (nextF R).body)]).length = l.length - Ma.length := by simp
  rw [e3, h3, List.append_assoc]; rfl
theorem inv_bad {l R : List UInt8} {p : Nat} {Ma : List (Int × List UInt8)} (h : InvOk l p Ma R) (hc : (nextF R).code = 1) : InvBad l Ma (nextF R).sub (nextF R).data := by
  obtain ⟨h1, h2, h3⟩ := h
  have hA := nextF_app_code (R := R) (Q := l.drop p) (by rw [hc]; decide)
  have e : l.length + 1 - Ma.length = (l.length - Ma.length) + 1 := by omega
  rw [e, allF_fault (n := l.length - Ma.length) (l := R ++ l.drop p) (by rw [hA, hc]; decide), hA, hc, List.append_nil] at h3
  exact h3
theorem inv_end {l R : List UInt8} {Ma : List (Int × List UInt8)} (h : InvOk l l.length Ma R) (hs : (nextF R).size = 0) (hc : (nextF R).code = 0) : allF (l.length + 1) l = (Ma, ((0, 0, []), R.length)) := by
  obtain ⟨h1, h2, h3⟩ := h
  rw [List.drop_length, List.append_nil] at h3
  have e : l.length + 1 - Ma.length = (l.length - Ma.length) + 1 := by omega
  rw [e, allF_stop (n := l.length - Ma.length) (l := R) hc hs, List.append_nil] at h3
  exact h3
end Go.Proofs.YtjhmkapafhgofaaDoor

/-
  Messages that are put, one behind the other, come out as they were: lists alone.
-/
import Derived.Test.YtjhmkapafhgofaaDoorStrF7
import Derived.Test.YtjhmkapafhgofaaDoorRefPut7
namespace Go.Proofs.YtjhmkapafhgofaaDoor
set_option linter.unusedSimpArgs false
set_option linter.unusedVariables false
open Go.RowKit

/-- May a message be so, and does a reader take it? -/
def goodB (s : Int × List UInt8) : Bool := decide (leastN s.1 ≠ 0 ∧ s.2.length ≤ 4077 ∧ leastN s.1 ≤ 19 + s.2.length ∧ ¬ (s.1 = 4 ∧ 0 < s.2.length))
def goods (L : List (Int × List UInt8)) : List (Int × List UInt8) := L.filter goodB
def bytesOf7 (L : List (Int × List UInt8)) : List UInt8 := L.flatMap fun s => msgL s.1.toNat s.2
theorem be16_bytes {n : Nat} (h : n < 65536) : 256 * (UInt8.ofNat ((n : Int) / 256 % 256).toNat).toNat + (UInt8.ofNat ((n : Int) % 256).toNat).toNat = n := by
  rw [UInt8.toNat_ofNat', UInt8.toNat_ofNat']
  omega
theorem nextF_msg {s : Int × List UInt8} (rest : List UInt8) (h : goodB s = true) : nextF (msgL s.1.toNat s.2 ++ rest) = ⟨s.1.toNat, s.2, 19 + s.2.length, 0, 0, []⟩ := by
  unfold goodB at h
  simp only [decide_eq_true_eq] at h
  obtain ⟨h1, h2, h3, h4⟩ := h
  obtain ⟨k, b⟩ := s
  dsimp only at h1 h2 h3 h4 ⊢
  have hk := leastN_iff.1 h1
  have hml := msgL_len k.toNat b
  have hform : msgL k.toNat b ++ rest = List.replicate 16 255 ++ ([UInt8.ofNat (((19 + b.length : Nat) : Int) / 256 % 256).toNat, UInt8.ofNat (((19 + b.length : Nat) : Int) % 256).toNat, UInt8.ofNat k.toNat] ++ (b ++ rest)) := by
    unfold msgL be16
    simp
  have g : ∀ i, i < 3 → (msgL k.toNat b ++ rest).getD (16 + i) 0 = ([UInt8.ofNat (((19 + b.length : Nat) : Int) / 256 % 256).toNat, UInt8.ofNat (((19 + b.length : Nat) : Int) % 256).toNat, UInt8.ofNat k.toNat] : List UInt8).getD i 0 := by
    intro i hi
    rw [hform]
    simp only [List.getD]
    rw [List.getElem?_append_right (by simp), List.getElem?_append_left (by simp; omega)]
    simp
  have s1 : sizeF (msgL k.toNat b ++ rest) = 19 + b.length := by
    unfold sizeF byteN
    rw [g 0 (by omega), g 1 (by omega)]
    exact be16_bytes (by omega)
  have s2 : kindF (msgL k.toNat b ++ rest) = k.toNat := by
    unfold kindF byteN
    rw [g 2 (by omega)]
    show (UInt8.ofNat k.toNat).toNat = k.toNat
    rw [UInt8.toNat_ofNat', Nat.mod_eq_of_lt (by omega)]
  have s3 : syncB (msgL k.toNat b ++ rest) = true := by
    unfold syncB
    rw [hform, List.take_append_of_le_length (by simp), List.take_of_length_le (by simp)]
    decide
  have hkk : ((k.toNat : Nat) : Int) = k := by omega
  have hf : faultF (msgL k.toNat b ++ rest) = none := by
    unfold faultF
    rw [s1, s2, s3]
    refine ans5 (by omega) (by rw [hkk]; exact h1) (by rw [hkk]; omega)
  unfold nextF
  rw [if_neg (by rw [List.length_append, hml]; omega), hf]
  show (if _ then _ else _) = _
  rw [s1, s2, if_neg (by rw [List.length_append, hml]; omega)]
  have hb : ((msgL k.toNat b ++ rest).take (19 + b.length)).drop 19 = b := by
    rw [← hml, List.take_append_of_le_length (Nat.le_refl _), List.take_length]
    have : msgL k.toNat b = (List.replicate 16 255 ++ [UInt8.ofNat (((19 + b.length : Nat) : Int) / 256 % 256).toNat, UInt8.ofNat (((19 + b.length : Nat) : Int) % 256).toNat, UInt8.ofNat k.toNat]) ++ b := by
      unfold msgL be16; simp
    rw [this, List.drop_append_of_le_length (by simp), List.drop_eq_nil_of_le (by simp)]
    rfl
  rw [hb]
theorem allF_msgs : ∀ (G : List (Int × List UInt8)) (n : Nat), (∀ s ∈ G, goodB s = true) → G.length < n → allF n (bytesOf7 G) = (G, ((0, 0, []), 0))
  | [], n + 1, _, _ => by
    have h : nextF (bytesOf7 []) = ⟨0, [], 0, 0, 0, []⟩ := by unfold nextF; rw [if_pos (by simp [bytesOf7])]
    rw [allF_stop (by rw [h]) (by rw [h])]
    rfl
  | s :: G, n + 1, hg, hn => by
    have hs := hg s (by simp)
    have e : bytesOf7 (s :: G) = msgL s.1.toNat s.2 ++ bytesOf7 G := rfl
    have hN := nextF_msg (bytesOf7 G) hs
    have hk : 1 ≤ s.1 := by
      unfold goodB at hs
      simp only [decide_eq_true_eq] at hs
      exact (leastN_iff.1 hs.1).1
    rw [e, allF_more (by rw [hN]; show 19 + s.2.length ≠ 0; omega), hN]
    dsimp only
    rw [← msgL_len s.1.toNat s.2, List.drop_append_of_le_length (Nat.le_refl _), List.drop_length, List.nil_append, allF_msgs G n (fun x hx => hg x (by simp [hx])) (by simpa using hn)]
    have : ((s.1.toNat : Nat) : Int) = s.1 := by omega
    rw [this]
theorem bytesOf7_len : ∀ (G : List (Int × List UInt8)), G.length * 19 ≤ (bytesOf7 G).length
  | [] => by simp [bytesOf7]
  | s :: G => by
    have h := bytesOf7_len G
    have e : bytesOf7 (s :: G) = msgL s.1.toNat s.2 ++ bytesOf7 G := rfl
    rw [e, List.length_append, msgL_len, List.length_cons]
    omega
theorem goods_good (L : List (Int × List UInt8)) : ∀ s ∈ goods L, goodB s = true := fun s hs => (List.mem_filter.1 hs).2
theorem allF_goods (L : List (Int × List UInt8)) : allF ((bytesOf7 (goods L)).length + 1) (bytesOf7 (goods L)) = (goods L, ((0, 0, []), 0)) :=
  allF_msgs _ _ (goods_good L) (by have := bytesOf7_len (goods L); omega)
theorem goods_step {L : List (Int × List UInt8)} {j : Nat} {s : Int × List UInt8} (h : L[j]? = some s) : goods (L.take (j + 1)) = goods (L.take j) ++ (if goodB s then [s] else []) := by
  have hj := (List.getElem?_eq_some_iff.1 h).1
  have e : L[j] = s := (List.getElem?_eq_some_iff.1 h).2
  unfold goods
  rw [List.take_succ_eq_append_getElem hj, e, List.filter_append]
  cases hgb : goodB s <;> simp [hgb]
theorem bytesOf7_snoc (G : List (Int × List UInt8)) (s : Int × List UInt8) : bytesOf7 (G ++ [s]) = bytesOf7 G ++ msgL s.1.toNat s.2 := by simp [bytesOf7]
theorem nextF_fault' {l : List UInt8} {p : Nat × List UInt8} (h : ¬ l.length < 19) (hf : faultF l = some p) : nextF l = ⟨0, [], 0, 1, p.1, p.2⟩ := by unfold nextF; rw [if_neg h, hf]
theorem nextF_wait' {l : List UInt8} (h : ¬ l.length < 19) (hf : faultF l = none) (hs : l.length < sizeF l) : nextF l = ⟨0, [], 0, 0, 0, []⟩ := by
  unfold nextF; rw [if_neg h, hf]; show (if _ then _ else _) = _; rw [if_pos hs]
theorem nextF_ok' {l : List UInt8} (h : ¬ l.length < 19) (hf : faultF l = none) (hs : ¬ l.length < sizeF l) : nextF l = ⟨kindF l, (l.take (sizeF l)).drop 19, sizeF l, 0, 0, []⟩ := by
  unfold nextF; rw [if_neg h, hf]; show (if _ then _ else _) = _; rw [if_neg hs]
/-- A byte more makes one message at the most. -/
theorem nextF_one {R : List UInt8} {b : UInt8} (h : (nextF R).size = 0) (hc : (nextF R).code = 0) (hs : (nextF (R ++ [b])).size ≠ 0) : (nextF (R ++ [b])).size = R.length + 1 := by
  have hx := nextF_size (R ++ [b])
  rw [List.length_append] at hx
  simp only [List.length_cons, List.length_nil] at hx
  by_cases hl : R.length < 19
  · have := hx.2 hs; omega
  · have hA := faultF_app (Q := [b]) (show 19 ≤ R.length by omega)
    have hl' : ¬ (R ++ [b]).length < 19 := by rw [List.length_append]; omega
    cases hf : faultF R with
    | some p => rw [nextF_fault' hl' (hA.1.trans hf)] at hs; exact absurd rfl hs
    | none =>
      have hf' := hA.1.trans hf
      by_cases hsz : (R ++ [b]).length < sizeF (R ++ [b])
      · rw [nextF_wait' hl' hf' hsz] at hs; exact absurd rfl hs
      · have e := nextF_ok' hl' hf' hsz
        by_cases hsz2 : R.length < sizeF R
        · rw [e]
          show sizeF (R ++ [b]) = _
          rw [List.length_append] at hsz
          simp only [List.length_cons, List.length_nil] at hsz
          rw [hA.2.1] at hsz ⊢
          omega
        · rw [nextF_ok' hl hf hsz2] at h
          have := (faultF_none hf).2.1
          change sizeF R = 0 at h
          omega
end Go.Proofs.YtjhmkapafhgofaaDoor

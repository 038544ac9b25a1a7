/-
  What stands ahead of a sign, and behind it.
-/
import Derived.Test.YtpimnbalffaliaaDoorBase
import Derived.Laws.RangeAny
namespace Go.Proofs.YtpimnbalffaliaaDoor
set_option linter.unusedVariables false
set_option linter.unusedSimpArgs false
open Go.RowKit

theorem ba_get (l : List UInt8) (k : Nat) : (⟨l.toArray⟩ : ByteArray).get! k = l.getD k 0 := by
  show l.toArray[k]! = _
  by_cases h : k < l.length
  · rw [getElem!_pos l.toArray k (by simpa using h)]
    simp [List.getD, List.getElem?_eq_getElem h]
  · rw [getElem!_neg l.toArray k (by simpa using h)]
    simp only [List.getD, List.getElem?_eq_none (by omega : l.length ≤ k), Option.getD_none]
    rfl

theorem decode_skip (s : ByteArray) (pos : Nat) (h : pos < s.size) (ha : 128 ≤ (s.get! pos).toNat) :
    pos + (Utf8.decode s pos).2 ≤ s.size ∧ ∀ k, 0 < k → k < (Utf8.decode s pos).2 → 128 ≤ (s.get! (pos + k)).toNat := by
  have e0 : pos + 0 = pos := rfl
  have hn : ¬ (s.get! pos).toNat < 128 := by omega
  simp only [Utf8.decode, e0, hn, if_false]
  repeat' split
  all_goals first
    | exact ⟨h, fun k a b => absurd b (by show ¬ k < 1; omega)⟩
    | skip
  all_goals simp only [Bool.and_eq_true, decide_eq_true_eq, beq_iff_eq] at *
  · refine ⟨by show pos + 2 ≤ s.size; omega, fun k a b => ?_⟩
    have b2 : k < 2 := b
    obtain rfl : k = 1 := by omega
    omega
  · refine ⟨by show pos + 3 ≤ s.size; omega, fun k a b => ?_⟩
    have b2 : k < 3 := b
    rcases (show k = 1 ∨ k = 2 by omega) with rfl | rfl <;> omega
  · refine ⟨by show pos + 4 ≤ s.size; omega, fun k a b => ?_⟩
    have b2 : k < 4 := b
    rcases (show k = 1 ∨ k = 2 ∨ k = 3 by omega) with rfl | rfl | rfl <;> omega

/-- No sign c ahead of place n. -/
def NoSign (l : List UInt8) (c : UInt8) (n : Nat) : Prop := ∀ k, k < n → l.getD k 0 ≠ c
/-- What stands ahead of the first sign c, and behind it. -/
def cutL (l : List UInt8) (c : UInt8) : List UInt8 × List UInt8 := (l.takeWhile (· != c), (l.dropWhile (· != c)).drop 1)

theorem cut_at : ∀ (l : List UInt8) (c : UInt8) (n : Nat), n < l.length → NoSign l c n → l.getD n 0 = c → cutL l c = (l.take n, l.drop (n + 1)) := by
  intro l
  induction l with
  | nil => intro c n h; simp at h
  | cons x l ih =>
    intro c n h hs hc
    cases n with
    | zero =>
      obtain rfl : x = c := by simpa using hc
      simp [cutL]
    | succ n =>
      have hx : x ≠ c := by simpa using hs 0 (by omega)
      have h2 := ih c n (by simpa using h) (fun k hk => by simpa using hs (k + 1) (by omega)) (by simpa using hc)
      simp only [cutL, Prod.mk.injEq] at h2 ⊢
      simp [hx, h2.1, h2.2]
theorem cut_none : ∀ (l : List UInt8) (c : UInt8), NoSign l c l.length → cutL l c = (l, []) := by
  intro l
  induction l with
  | nil => intro c _; rfl
  | cons x l ih =>
    intro c hs
    have hx : x ≠ c := by simpa using hs 0 (by simp)
    have h2 := ih c (fun k hk => by simpa using hs (k + 1) (by simpa using hk))
    simp only [cutL, Prod.mk.injEq] at h2 ⊢
    simp [hx, h2.1, h2.2]
theorem ba_ext (l : List UInt8) (i j : Nat) : (⟨l.toArray⟩ : ByteArray).extract i j = ⟨((l.take j).drop i).toArray⟩ := by
  apply ByteArray.ext
  rw [ByteArray.data_extract]
  simp only [List.extract_toArray, List.extract_eq_take_drop]
  rw [List.drop_take]

theorem NoSign.more {l : List UInt8} {c : UInt8} {n wd : Nat} (h : NoSign l c n) (h0 : l.getD n 0 ≠ c) (h1 : ∀ k, 0 < k → k < wd → l.getD (n + k) 0 ≠ c) : NoSign l c (n + wd) := by
  intro k hk
  by_cases a : k < n
  · exact h k a
  · by_cases b : k = n
    · rw [b]; exact h0
    · have e : k = n + (k - n) := by omega
      rw [e]
      exact h1 (k - n) (by omega) (by omega)

/-- One sign of a range over a string, against a sign of one byte. -/
theorem next_sign (l : List UInt8) (c : UInt8) (hc : c.toNat < 128) (pos : Nat) (h : pos < l.length) (hs : NoSign l c pos) :
    ∃ r wd : Nat, Utf8.decode ⟨l.toArray⟩ pos = (r, wd) ∧ r ≤ 2147483647 ∧ 0 < wd ∧ ((r = c.toNat ∧ l.getD pos 0 = c) ∨ (r ≠ c.toNat ∧ pos + wd ≤ l.length ∧ NoSign l c (pos + wd))) := by
  have hsz : (⟨l.toArray⟩ : ByteArray).size = l.length := rfl
  have hp : pos < (⟨l.toArray⟩ : ByteArray).size := h
  refine ⟨(Utf8.decode ⟨l.toArray⟩ pos).1, (Utf8.decode ⟨l.toArray⟩ pos).2, rfl, decode_le _ _, ?_, ?_⟩
  all_goals have eg : (⟨l.toArray⟩ : ByteArray)[pos]'hp = l.getD pos 0 := by rw [← ba_get]; show _ = l.toArray[pos]!; rw [getElem!_pos l.toArray pos (by simpa using h)]; rfl
  all_goals by_cases ha : (l.getD pos 0).toNat < 128
  · rw [decode_ascii _ pos hp (by rw [eg]; exact ha)]; exact Nat.one_pos
  · exact (decode_high _ pos hp (by rw [eg]; omega)).2
  · rw [decode_ascii _ pos hp (by rw [eg]; exact ha)]
    by_cases he : l.getD pos 0 = c
    · exact .inl ⟨by rw [eg, he], he⟩
    · exact .inr ⟨fun e => he (UInt8.toNat_inj.1 (by rw [← eg]; exact e)), h, hs.more he (fun k a b => by omega)⟩
  · have h1 := (decode_high _ pos hp (by rw [eg]; omega)).1
    have h2 := decode_skip ⟨l.toArray⟩ pos hp (by rw [ba_get]; omega)
    refine .inr ⟨by omega, h2.1, hs.more (fun e => ?_) (fun k a b e => ?_)⟩
    · rw [e] at ha; omega
    · have h3 := h2.2 k a b
      rw [ba_get, e] at h3
      omega
end Go.Proofs.YtpimnbalffaliaaDoor

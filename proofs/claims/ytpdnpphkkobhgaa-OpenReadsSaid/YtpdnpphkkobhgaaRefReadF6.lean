/-
  Parts by places: what a reader is told of a window of bytes; no program stands here.
-/
import Derived.Test.YtpdnpphkkobhgaaReadH6
import Derived.Test.YtpdnpphkkobhgaaReadM6
namespace Go.Proofs.Ytpdnpphkkobhgaa
set_option linter.unusedVariables false
set_option linter.unusedSimpArgs false

/-- The bytes from place k on, up to place e. -/
def win (l : List UInt8) (k e : Nat) : List UInt8 := (l.drop k).take (e - k)
theorem win_len {l : List UInt8} {k e : Nat} (he : e ≤ l.length) (hk : k ≤ e) : (win l k e).length = e - k := by
  unfold win
  rw [List.length_take, List.length_drop]
  omega
theorem win_nil {l : List UInt8} {e : Nat} : win l e e = [] := by simp [win]
theorem win_ne {l : List UInt8} {k e : Nat} (he : e ≤ l.length) (hk : k < e) : win l k e ≠ [] := by
  intro h
  have := win_len he (Nat.le_of_lt hk)
  rw [h] at this
  simp at this
  omega
theorem win_cons {l : List UInt8} {k e : Nat} (he : e ≤ l.length) (hk : k < e) : win l k e = l.getD k 0 :: win l (k + 1) e := by
  unfold win
  have hl : k < l.length := by omega
  rw [List.drop_eq_getElem_cons hl, show e - k = (e - (k + 1)) + 1 by omega, List.take_succ_cons]
  simp [List.getD, hl]
theorem win_drop {l : List UInt8} {k e n : Nat} : (win l k e).drop n = win l (k + n) e := by
  unfold win
  rw [List.drop_take, List.drop_drop]
  congr 1
  omega
theorem win_take {l : List UInt8} {k e n : Nat} (h : n ≤ e - k) : (win l k e).take n = win l k (k + n) := by
  unfold win
  rw [List.take_take, show k + n - k = n by omega, Nat.min_eq_left h]
theorem win_all (l : List UInt8) (k : Nat) : win l k l.length = l.drop k := by
  unfold win
  rw [List.take_of_length_le (by simp)]
theorem num_single (b : UInt8) : num [b] = b.toNat := by simp [num]
/-- A part whose head does not fit. -/
theorem next_bad1 {l : List UInt8} {k e : Nat} (he : e ≤ l.length) (hk : k < e) (h : e ≤ k + 1) : (nextP (win l k e) false).bad = true := by
  obtain rfl : e = k + 1 := by omega
  have h1 : win l k (k + 1) = [l.getD k 0] := by rw [win_cons he hk, win_nil]
  rw [h1]
  unfold nextP
  have r1 : rdTake [l.getD k 0] false 1 = ([l.getD k 0], [], false) := rd_fit (n := 1) (by simp)
  rw [r1]
  dsimp only
  have r2 : rdTake [] false 1 = ([], [], true) := rd_bad (n := 1) (by simp)
  rw [r2]
  dsimp only
  exact rd_stays _ _
theorem next_two {l : List UInt8} {k e : Nat} (he : e ≤ l.length) (hk : k + 1 < e) :
    nextP (win l k e) false = ⟨(l.getD k 0).toNat, (rdTake (win l (k + 2) e) false ((l.getD (k + 1) 0).toNat : Int)).1, (rdTake (win l (k + 2) e) false ((l.getD (k + 1) 0).toNat : Int)).2.1, (rdTake (win l (k + 2) e) false ((l.getD (k + 1) 0).toNat : Int)).2.2⟩ := by
  have h1 : win l k e = l.getD k 0 :: l.getD (k + 1) 0 :: win l (k + 2) e := by rw [win_cons he (by omega), win_cons he hk]
  rw [h1]
  have r1 : rdTake (l.getD k 0 :: l.getD (k + 1) 0 :: win l (k + 2) e) false 1 = ([l.getD k 0], l.getD (k + 1) 0 :: win l (k + 2) e, false) := rd_fit (n := 1) (by simp)
  have r2 : rdTake (l.getD (k + 1) 0 :: win l (k + 2) e) false 1 = ([l.getD (k + 1) 0], win l (k + 2) e, false) := rd_fit (n := 1) (by simp)
  unfold nextP
  rw [r1]
  dsimp only
  rw [r2]
  dsimp only
  rw [num_single, num_single]
theorem next_bad2 {l : List UInt8} {k e : Nat} (he : e ≤ l.length) (hk : k + 1 < e) (h : e < k + 2 + (l.getD (k + 1) 0).toNat) : (nextP (win l k e) false).bad = true := by
  rw [next_two he hk, rd_bad (by rw [win_len he (by omega)]; omega)]
theorem next_fit {l : List UInt8} {k e : Nat} (he : e ≤ l.length) (hk : k + 1 < e) (h : k + 2 + (l.getD (k + 1) 0).toNat ≤ e) :
    nextP (win l k e) false = ⟨(l.getD k 0).toNat, win l (k + 2) (k + 2 + (l.getD (k + 1) 0).toNat), win l (k + 2 + (l.getD (k + 1) 0).toNat) e, false⟩ := by
  rw [next_two he hk, rd_fit (by rw [win_len he (by omega)]; omega), win_take (by omega), win_drop]
end Go.Proofs.Ytpdnpphkkobhgaa

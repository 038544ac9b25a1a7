/-
  What the bytes of a message say: numbers and lists alone; no program stands here.
-/
import Derived.Test.YtjhmkapafhgofaaDoorBase
namespace Go.Proofs.YtjhmkapafhgofaaDoor
open Go.RowKit

/-- How many bytes a message of a kind has at least. -/
def leastN (k : Int) : Nat := if k = 1 then 29 else if k = 2 then 23 else if k = 3 then 21 else if k = 4 then 19 else 0
theorem leastN_le (k : Int) : leastN k ≤ 29 := by unfold leastN; split <;> (try split) <;> (try split) <;> (try split) <;> omega
theorem leastN_out {k : Int} (h : k < 0 ∨ 5 ≤ k) : leastN k = 0 := by
  unfold leastN
  rw [if_neg (by omega), if_neg (by omega), if_neg (by omega), if_neg (by omega)]
theorem leastN_pos {k : Int} (h : leastN k ≠ 0) : 1 ≤ k ∧ k ≤ 4 ∧ 19 ≤ leastN k := by
  unfold leastN at h ⊢
  split at h
  · subst k; simp
  · split at h
    · subst k; simp
    · split at h
      · subst k; simp
      · split at h
        · subst k; simp
        · exact absurd rfl h
theorem leastN_four : leastN 4 = 19 := by decide
/-- The number of the byte at a place. -/
def byteN (l : List UInt8) (i : Nat) : Nat := (l.getD i 0).toNat
theorem byteN_lt (l : List UInt8) (i : Nat) : byteN l i < 256 := (l.getD i 0).toNat_lt
/-- How many bytes a message says that it has; its kind. -/
def sizeF (l : List UInt8) : Nat := 256 * byteN l 16 + byteN l 17
def kindF (l : List UInt8) : Nat := byteN l 18
theorem sizeF_lt (l : List UInt8) : sizeF l < 65536 := by have := byteN_lt l 16; have := byteN_lt l 17; unfold sizeF; omega
theorem kindF_lt (l : List UInt8) : kindF l < 256 := byteN_lt l 18
/-- Do the first sixteen bytes say that both are in step? -/
def syncB (l : List UInt8) : Bool := (l.take 16).all fun b => b == 255
/-- What is wrong with a head: its Sub, and its bytes; of what its parts say. -/
def headAns (sync : Bool) (S K : Nat) (D : List UInt8) : Option (Nat × List UInt8) :=
  if sync = false then some (1, [])
  else if S < 19 ∨ 4096 < S then some (2, D)
  else if leastN (K : Int) = 0 then some (3, [UInt8.ofNat K])
  else if S < leastN (K : Int) ∨ K = 4 ∧ 19 < S then some (2, D)
  else none
def faultF (l : List UInt8) : Option (Nat × List UInt8) := headAns (syncB l) (sizeF l) (kindF l) [l.getD 16 0, l.getD 17 0]
theorem ans1 {S K : Nat} {D : List UInt8} : headAns false S K D = some (1, []) := rfl
theorem ans2 {S K : Nat} {D : List UInt8} (h : S < 19 ∨ 4096 < S) : headAns true S K D = some (2, D) := by unfold headAns; rw [if_neg (by decide), if_pos h]
theorem ans3 {S K : Nat} {D : List UInt8} (h : ¬ (S < 19 ∨ 4096 < S)) (h3 : leastN (K : Int) = 0) : headAns true S K D = some (3, [UInt8.ofNat K]) := by unfold headAns; rw [if_neg (by decide), if_neg h, if_pos h3]
theorem ans4 {S K : Nat} {D : List UInt8} (h : ¬ (S < 19 ∨ 4096 < S)) (h3 : ¬ leastN (K : Int) = 0) (h4 : S < leastN (K : Int) ∨ K = 4 ∧ 19 < S) : headAns true S K D = some (2, D) := by
  unfold headAns; rw [if_neg (by decide), if_neg h, if_neg h3, if_pos h4]
theorem ans5 {S K : Nat} {D : List UInt8} (h : ¬ (S < 19 ∨ 4096 < S)) (h3 : ¬ leastN (K : Int) = 0) (h4 : ¬ (S < leastN (K : Int) ∨ K = 4 ∧ 19 < S)) : headAns true S K D = none := by
  unfold headAns; rw [if_neg (by decide), if_neg h, if_neg h3, if_neg h4]
/-- What a look at bytes tells: a kind, a body, how many bytes; a fault's Code, Sub and bytes. -/
structure Nx where
  kind : Nat
  body : List UInt8
  size : Nat
  code : Nat
  sub : Nat
  data : List UInt8
def nextF (l : List UInt8) : Nx :=
  if l.length < 19 then ⟨0, [], 0, 0, 0, []⟩
  else match faultF l with
    | some (s, d) => ⟨0, [], 0, 1, s, d⟩
    | none => if l.length < sizeF l then ⟨0, [], 0, 0, 0, []⟩ else ⟨kindF l, (l.take (sizeF l)).drop 19, sizeF l, 0, 0, []⟩
theorem faultF_none {l : List UInt8} (h : faultF l = none) : syncB l = true ∧ 19 ≤ sizeF l ∧ sizeF l ≤ 4096 ∧ leastN (kindF l : Nat) ≠ 0 ∧ leastN (kindF l : Nat) ≤ sizeF l ∧ (kindF l = 4 → sizeF l = 19) := by
  unfold faultF headAns at h
  split at h
  · cases h
  · rename_i h1
    split at h
    · cases h
    · rename_i h2
      split at h
      · cases h
      · rename_i h3
        split at h
        · cases h
        · rename_i h4
          exact ⟨by simpa using h1, by omega, by omega, h3, by omega, by omega⟩
end Go.Proofs.YtjhmkapafhgofaaDoor

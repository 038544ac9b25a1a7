/-
  Runes of a text, and which texts may be: lists of bytes alone.
-/
import Derived.Test.YtpimnbalffaliaaDoorCut
import Derived.Lib.ValidLaws
import Derived.Lib.RuneBytes
import Derived.Shelf.GgClosure.StringsIndexFunc
namespace Go.Proofs.YtpimnbalffaliaaDoor
set_option linter.unusedVariables false
set_option linter.unusedSimpArgs false
open Go.RowKit Go.Lib

def widN (b0 : Nat) : Nat := if 194 ≤ b0 ∧ b0 ≤ 223 then 2 else if 224 ≤ b0 ∧ b0 ≤ 239 then 3 else if 240 ≤ b0 ∧ b0 ≤ 244 then 4 else 0
def lowN (b0 : Nat) : Nat := if b0 = 224 then 160 else if b0 = 240 then 144 else 128
def highN (b0 : Nat) : Nat := if b0 = 237 then 159 else if b0 = 244 then 143 else 191
/-- How many bytes the rune has that stands ahead of n bytes that begin so; 0: it may not be. -/
def sizeN (n b0 b1 b2 b3 : Nat) : Nat :=
  if b0 < 32 ∨ b0 = 127 then 0 else if b0 < 128 then 1
  else if widN b0 = 0 ∨ n < widN b0 ∨ b1 < lowN b0 ∨ highN b0 < b1 ∨ (2 < widN b0 ∧ (b2 < 128 ∨ 191 < b2)) ∨ (3 < widN b0 ∧ (b3 < 128 ∨ 191 < b3)) then 0 else widN b0

section
variable {n b0 b1 b2 b3 : Nat}
theorem sizeN_low (h : b0 < 128) : sizeN n b0 b1 b2 b3 = if b0 < 32 ∨ b0 = 127 then 0 else 1 := by
  unfold sizeN
  split
  · rfl
  · first | rfl | rw [if_pos h]
theorem decodeN_low (h : b0 < 128) : decodeN n b0 b1 b2 b3 = (b0, 1) := by unfold decodeN; rw [if_pos h]
set_option maxRecDepth 100000 in
set_option maxHeartbeats 4000000 in
theorem size_high (hn : 1 ≤ n) (h : 128 ≤ b0) (h0 : b0 < 256) (h1 : b1 < 256) (h2 : b2 < 256) (h3 : b3 < 256) :
    (sizeN n b0 b1 b2 b3 = 0 ∧ decodeN n b0 b1 b2 b3 = (65533, 1)) ∨
    (sizeN n b0 b1 b2 b3 = (decodeN n b0 b1 b2 b3).2 ∧ 2 ≤ sizeN n b0 b1 b2 b3 ∧ sizeN n b0 b1 b2 b3 ≤ 4 ∧ sizeN n b0 b1 b2 b3 ≤ n ∧ 128 ≤ (decodeN n b0 b1 b2 b3).1 ∧ (decodeN n b0 b1 b2 b3).1 ≤ 1114111 ∧
      encodeRuneZ ((decodeN n b0 b1 b2 b3).1 : Int) = ([(b0 : Int), (b1 : Int), (b2 : Int), (b3 : Int)].take (sizeN n b0 b1 b2 b3)) ∧ 128 ≤ b1 ∧ (2 < sizeN n b0 b1 b2 b3 → 128 ≤ b2) ∧ (3 < sizeN n b0 b1 b2 b3 → 128 ≤ b3)) := by
  have e1 : ¬ (b0 < 32 ∨ b0 = 127) := by omega
  have e2 : ¬ b0 < 128 := by omega
  rcases (show b0 < 194 ∨ 244 < b0 ∨ (194 ≤ b0 ∧ b0 ≤ 223) ∨ b0 = 224 ∨ b0 = 237 ∨ (225 ≤ b0 ∧ b0 ≤ 239 ∧ b0 ≠ 237) ∨ b0 = 240 ∨ b0 = 244 ∨ (241 ≤ b0 ∧ b0 ≤ 243) by omega) with c | c | c | c | c | c | c | c | c
  · have w : widN b0 = 0 := by unfold widN; rw [if_neg (by omega), if_neg (by omega), if_neg (by omega)]
    refine .inl ⟨by unfold sizeN; rw [if_neg e1, if_neg e2, if_pos (.inl w)], ?_⟩
    unfold decodeN
    repeat' split
    all_goals first | rfl | (exfalso; omega)
  · have w : widN b0 = 0 := by unfold widN; rw [if_neg (by omega), if_neg (by omega), if_neg (by omega)]
    refine .inl ⟨by unfold sizeN; rw [if_neg e1, if_neg e2, if_pos (.inl w)], ?_⟩
    unfold decodeN
    repeat' split
    all_goals first | rfl | (exfalso; omega)
  · have w : widN b0 = 2 := by unfold widN; rw [if_pos c]
    have l : lowN b0 = 128 := by unfold lowN; rw [if_neg (by omega), if_neg (by omega)]
    have g : highN b0 = 191 := by unfold highN; rw [if_neg (by omega), if_neg (by omega)]
    have hd := slow_C2 n b0 b1 b2 b3 hn h1 h2 h3 (by omega)
    unfold slowN at hd
    unfold sizeN
    rw [if_neg e1, if_neg e2, w, l, g, ← hd]
    by_cases k : n < 2 ∨ b1 < 128 ∨ 191 < b1
    · refine .inl ⟨if_pos (by omega), ?_⟩
      repeat' split
      all_goals first | rfl | (exfalso; omega)
    · rw [if_neg (by omega), if_neg (by omega), if_neg (by omega), if_pos (by omega)]
      refine .inr ⟨rfl, by omega, by omega, by omega, by show 128 ≤ b0 % 32 * 64 + b1 % 64; omega, by show b0 % 32 * 64 + b1 % 64 ≤ 1114111; omega, ?_, by omega, fun a => by omega, fun a => by omega⟩
      show encodeRuneZ ((b0 % 32 * 64 + b1 % 64 : Nat) : Int) = [(b0 : Int), (b1 : Int)]
      rw [encodeRuneZ_two (by omega) (by omega)]
      simp only [List.cons.injEq, and_true]
      omega
  · have w : widN b0 = 3 := by unfold widN; rw [if_neg (by omega)]; rw [if_pos (by omega)]
    have l : lowN b0 = 160 := by unfold lowN; rw [if_pos (by omega)]
    have g : highN b0 = 191 := by unfold highN; rw [if_neg (by omega), if_neg (by omega)]
    have hd := slow_E0 n b0 b1 b2 b3 hn h1 h2 h3 (by omega)
    unfold slowN at hd
    unfold sizeN
    rw [if_neg e1, if_neg e2, w, l, g, ← hd]
    by_cases k : n < 3 ∨ b1 < 160 ∨ 191 < b1 ∨ b2 < 128 ∨ 191 < b2
    · refine .inl ⟨if_pos (by omega), ?_⟩
      repeat' split
      all_goals first | rfl | (exfalso; omega)
    · rw [if_neg (by omega), if_neg (by omega), if_neg (by omega), if_neg (by omega), if_neg (by omega), if_pos (by omega)]
      refine .inr ⟨rfl, by omega, by omega, by omega, by show 128 ≤ b0 % 16 * 4096 + b1 % 64 * 64 + b2 % 64; omega, by show b0 % 16 * 4096 + b1 % 64 * 64 + b2 % 64 ≤ 1114111; omega, ?_, by omega, fun a => by omega, fun a => by omega⟩
      show encodeRuneZ ((b0 % 16 * 4096 + b1 % 64 * 64 + b2 % 64 : Nat) : Int) = [(b0 : Int), (b1 : Int), (b2 : Int)]
      rw [encodeRuneZ_three (by omega)]
      simp only [List.cons.injEq, and_true]
      omega
  · have w : widN b0 = 3 := by unfold widN; rw [if_neg (by omega)]; rw [if_pos (by omega)]
    have l : lowN b0 = 128 := by unfold lowN; rw [if_neg (by omega), if_neg (by omega)]
    have g : highN b0 = 159 := by unfold highN; rw [if_pos (by omega)]
    have hd := slow_ED n b0 b1 b2 b3 hn h1 h2 h3 (by omega)
    unfold slowN at hd
    unfold sizeN
    rw [if_neg e1, if_neg e2, w, l, g, ← hd]
    by_cases k : n < 3 ∨ b1 < 128 ∨ 159 < b1 ∨ b2 < 128 ∨ 191 < b2
    · refine .inl ⟨if_pos (by omega), ?_⟩
      repeat' split
      all_goals first | rfl | (exfalso; omega)
    · rw [if_neg (by omega), if_neg (by omega), if_neg (by omega), if_neg (by omega), if_neg (by omega), if_pos (by omega)]
      refine .inr ⟨rfl, by omega, by omega, by omega, by show 128 ≤ b0 % 16 * 4096 + b1 % 64 * 64 + b2 % 64; omega, by show b0 % 16 * 4096 + b1 % 64 * 64 + b2 % 64 ≤ 1114111; omega, ?_, by omega, fun a => by omega, fun a => by omega⟩
      show encodeRuneZ ((b0 % 16 * 4096 + b1 % 64 * 64 + b2 % 64 : Nat) : Int) = [(b0 : Int), (b1 : Int), (b2 : Int)]
      rw [encodeRuneZ_three (by omega)]
      simp only [List.cons.injEq, and_true]
      omega
  · have w : widN b0 = 3 := by unfold widN; rw [if_neg (by omega)]; rw [if_pos (by omega)]
    have l : lowN b0 = 128 := by unfold lowN; rw [if_neg (by omega), if_neg (by omega)]
    have g : highN b0 = 191 := by unfold highN; rw [if_neg (by omega), if_neg (by omega)]
    have hd := slow_E1 n b0 b1 b2 b3 hn h1 h2 h3 (by omega)
    unfold slowN at hd
    unfold sizeN
    rw [if_neg e1, if_neg e2, w, l, g, ← hd]
    by_cases k : n < 3 ∨ b1 < 128 ∨ 191 < b1 ∨ b2 < 128 ∨ 191 < b2
    · refine .inl ⟨if_pos (by omega), ?_⟩
      repeat' split
      all_goals first | rfl | (exfalso; omega)
    · rw [if_neg (by omega), if_neg (by omega), if_neg (by omega), if_neg (by omega), if_neg (by omega), if_pos (by omega)]
      refine .inr ⟨rfl, by omega, by omega, by omega, by show 128 ≤ b0 % 16 * 4096 + b1 % 64 * 64 + b2 % 64; omega, by show b0 % 16 * 4096 + b1 % 64 * 64 + b2 % 64 ≤ 1114111; omega, ?_, by omega, fun a => by omega, fun a => by omega⟩
      show encodeRuneZ ((b0 % 16 * 4096 + b1 % 64 * 64 + b2 % 64 : Nat) : Int) = [(b0 : Int), (b1 : Int), (b2 : Int)]
      rw [encodeRuneZ_three (by omega)]
      simp only [List.cons.injEq, and_true]
      omega
  · have w : widN b0 = 4 := by unfold widN; rw [if_neg (by omega)]; rw [if_neg (by omega), if_pos (by omega)]
    have l : lowN b0 = 144 := by unfold lowN; rw [if_neg (by omega), if_pos (by omega)]
    have g : highN b0 = 191 := by unfold highN; rw [if_neg (by omega), if_neg (by omega)]
    have hd := slow_F0 n b0 b1 b2 b3 hn h1 h2 h3 (by omega)
    unfold slowN at hd
    unfold sizeN
    rw [if_neg e1, if_neg e2, w, l, g, ← hd]
    by_cases k : n < 4 ∨ b1 < 144 ∨ 191 < b1 ∨ b2 < 128 ∨ 191 < b2 ∨ b3 < 128 ∨ 191 < b3
    · refine .inl ⟨if_pos (by omega), ?_⟩
      repeat' split
      all_goals first | rfl | (exfalso; omega)
    · rw [if_neg (by omega), if_neg (by omega), if_neg (by omega), if_neg (by omega), if_neg (by omega), if_neg (by omega), if_neg (by omega)]
      refine .inr ⟨rfl, by omega, by omega, by omega, by show 128 ≤ b0 % 8 * 262144 + b1 % 64 * 4096 + b2 % 64 * 64 + b3 % 64; omega, by show b0 % 8 * 262144 + b1 % 64 * 4096 + b2 % 64 * 64 + b3 % 64 ≤ 1114111; omega, ?_, by omega, fun a => by omega, fun a => by omega⟩
      show encodeRuneZ ((b0 % 8 * 262144 + b1 % 64 * 4096 + b2 % 64 * 64 + b3 % 64 : Nat) : Int) = [(b0 : Int), (b1 : Int), (b2 : Int), (b3 : Int)]
      rw [encodeRuneZ_four (by omega) (by omega)]
      simp only [List.cons.injEq, and_true]
      omega
  · have w : widN b0 = 4 := by unfold widN; rw [if_neg (by omega)]; rw [if_neg (by omega), if_pos (by omega)]
    have l : lowN b0 = 128 := by unfold lowN; rw [if_neg (by omega), if_neg (by omega)]
    have g : highN b0 = 143 := by unfold highN; rw [if_neg (by omega), if_pos (by omega)]
    have hd := slow_F4 n b0 b1 b2 b3 hn h1 h2 h3 (by omega)
    unfold slowN at hd
    unfold sizeN
    rw [if_neg e1, if_neg e2, w, l, g, ← hd]
    by_cases k : n < 4 ∨ b1 < 128 ∨ 143 < b1 ∨ b2 < 128 ∨ 191 < b2 ∨ b3 < 128 ∨ 191 < b3
    · refine .inl ⟨if_pos (by omega), ?_⟩
      repeat' split
      all_goals first | rfl | (exfalso; omega)
    · rw [if_neg (by omega), if_neg (by omega), if_neg (by omega), if_neg (by omega), if_neg (by omega), if_neg (by omega), if_neg (by omega)]
      refine .inr ⟨rfl, by omega, by omega, by omega, by show 128 ≤ b0 % 8 * 262144 + b1 % 64 * 4096 + b2 % 64 * 64 + b3 % 64; omega, by show b0 % 8 * 262144 + b1 % 64 * 4096 + b2 % 64 * 64 + b3 % 64 ≤ 1114111; omega, ?_, by omega, fun a => by omega, fun a => by omega⟩
      show encodeRuneZ ((b0 % 8 * 262144 + b1 % 64 * 4096 + b2 % 64 * 64 + b3 % 64 : Nat) : Int) = [(b0 : Int), (b1 : Int), (b2 : Int), (b3 : Int)]
      rw [encodeRuneZ_four (by omega) (by omega)]
      simp only [List.cons.injEq, and_true]
      omega
  · have w : widN b0 = 4 := by unfold widN; rw [if_neg (by omega)]; rw [if_neg (by omega), if_pos (by omega)]
    have l : lowN b0 = 128 := by unfold lowN; rw [if_neg (by omega), if_neg (by omega)]
    have g : highN b0 = 191 := by unfold highN; rw [if_neg (by omega), if_neg (by omega)]
    have hd := slow_F1 n b0 b1 b2 b3 hn h1 h2 h3 (by omega)
    unfold slowN at hd
    unfold sizeN
    rw [if_neg e1, if_neg e2, w, l, g, ← hd]
    by_cases k : n < 4 ∨ b1 < 128 ∨ 191 < b1 ∨ b2 < 128 ∨ 191 < b2 ∨ b3 < 128 ∨ 191 < b3
    · refine .inl ⟨if_pos (by omega), ?_⟩
      repeat' split
      all_goals first | rfl | (exfalso; omega)
    · rw [if_neg (by omega), if_neg (by omega), if_neg (by omega), if_neg (by omega), if_neg (by omega), if_neg (by omega), if_neg (by omega)]
      refine .inr ⟨rfl, by omega, by omega, by omega, by show 128 ≤ b0 % 8 * 262144 + b1 % 64 * 4096 + b2 % 64 * 64 + b3 % 64; omega, by show b0 % 8 * 262144 + b1 % 64 * 4096 + b2 % 64 * 64 + b3 % 64 ≤ 1114111; omega, ?_, by omega, fun a => by omega, fun a => by omega⟩
      show encodeRuneZ ((b0 % 8 * 262144 + b1 % 64 * 4096 + b2 % 64 * 64 + b3 % 64 : Nat) : Int) = [(b0 : Int), (b1 : Int), (b2 : Int), (b3 : Int)]
      rw [encodeRuneZ_four (by omega) (by omega)]
      simp only [List.cons.injEq, and_true]
      omega
theorem widN_two (b0 : Nat) : widN b0 = 0 ∨ 2 ≤ widN b0 := by 
  unfold widN
  repeat' split
  all_goals omega
theorem sizeN_more {n' b1' b2' b3' : Nat} (h : sizeN n b0 b1 b2 b3 ≠ 0) (hn : n ≤ n') (e1 : 1 < n → b1' = b1) (e2 : 2 < n → b2' = b2) (e3 : 3 < n → b3' = b3) :
    sizeN n' b0 b1' b2' b3' = sizeN n b0 b1 b2 b3 := by
  have w2 := widN_two b0
  unfold sizeN at h ⊢
  by_cases c1 : b0 < 32 ∨ b0 = 127
  · rw [if_pos c1, if_pos c1]
  · rw [if_neg c1] at h
    rw [if_neg c1, if_neg c1]
    by_cases c2 : b0 < 128
    · rw [if_pos c2, if_pos c2]
    · rw [if_neg c2] at h
      rw [if_neg c2, if_neg c2]
      generalize widN b0 = W at h w2 ⊢
      generalize lowN b0 = L at h ⊢
      generalize highN b0 = G at h ⊢
      by_cases c3 : W = 0 ∨ n < W ∨ b1 < L ∨ G < b1 ∨ (2 < W ∧ (b2 < 128 ∨ 191 < b2)) ∨ (3 < W ∧ (b3 < 128 ∨ 191 < b3))
      · rw [if_pos c3] at h; exact absurd rfl h
      · rw [if_neg c3, if_neg]
        have f1 := e1 (by omega)
        subst f1
        by_cases k2 : 2 < W
        · have f2 := e2 (by omega)
          subst f2
          by_cases k3 : 3 < W
          · have f3 := e3 (by omega)
            subst f3
            omega
          · omega
        · omega
end
end Go.Proofs.YtpimnbalffaliaaDoor

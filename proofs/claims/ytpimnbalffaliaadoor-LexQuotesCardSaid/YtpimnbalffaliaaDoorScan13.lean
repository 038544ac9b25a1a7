/-
  The words of a line, byte by byte and rune by rune: lists alone.
-/
import Derived.Test.YtpimnbalffaliaaDoorRight13
import Derived.Test.YtpimnbalffaliaaDoorDec
namespace Go.Proofs.YtpimnbalffaliaaDoor
set_option linter.unusedVariables false
set_option linter.unusedSimpArgs false
open Go.RowKit Go.Lib

/-- A word as it is told: its kind, its text, its number. -/
structure Tok where
  kind : Nat
  text : List UInt8
  num : Int
deriving DecidableEq
/-- A scanner: the words so far, what the word says so far, where it is. -/
structure Sc where
  words : List Tok
  text : List UInt8
  st : Nat
deriving DecidableEq
/-- What a word without quotes is. -/
def plainT (t : List UInt8) : Tok := match intSpec t with
  | some n => ⟨2, [], (n : Int)⟩
  | none => ⟨1, t, 0⟩
def Sc.put (s : Sc) (b : List UInt8) (st : Nat) : Sc := ⟨s.words, s.text ++ b, st⟩
def Sc.to (s : Sc) (st : Nat) : Sc := ⟨s.words, s.text, st⟩
def Sc.ends (s : Sc) (t : Tok) : Sc := ⟨s.words ++ [t], [], 0⟩
/-- A scanner goes by a rune c, of the bytes b. -/
def stepR (s : Sc) (c : Nat) (b : List UInt8) : Sc :=
  if s.st = 0 then (if c = 32 then s else if c = 34 then s.to 2 else s.put b 1)
  else if s.st = 1 then (if c = 32 then s.ends (plainT s.text) else if c = 34 then s.to 5 else s.put b 1)
  else if s.st = 2 then (if c = 34 then s.to 4 else if c = 92 then s.to 3 else s.put b 2)
  else if s.st = 3 then (if c = 34 ∨ c = 92 then s.put b 2 else s.to 5)
  else if s.st = 4 then (if c = 32 then s.ends ⟨3, s.text, 0⟩ else s.to 5)
  else s
def stepB (s : Sc) (b : UInt8) : Sc := stepR s b.toNat [b]

section
variable {s : Sc} {c : Nat} {b : List UInt8}
theorem stepR_st (h : s.st ≤ 5) : (stepR s c b).st ≤ 5 := by
  unfold stepR Sc.put Sc.to Sc.ends
  repeat' split
  all_goals first | assumption | omega | (dsimp only; omega)
theorem stepR5 (h : s.st = 5) : stepR s c b = s := by unfold stepR; simp [h]
end
theorem fold5 : ∀ (l : List UInt8) (s : Sc), s.st = 5 → l.foldl stepB s = s
  | [], s, _ => rfl
  | x :: l, s, h => by
    rw [List.foldl_cons, stepB, stepR5 h]
    exact fold5 l s h
theorem high_ne {x : UInt8} (h : 128 ≤ x.toNat) : x.toNat ≠ 32 ∧ x.toNat ≠ 34 ∧ x.toNat ≠ 92 := by omega
theorem put_put (s : Sc) (a b : List UInt8) (k k' : Nat) : (s.put a k).put b k' = s.put (a ++ b) k' := by simp [Sc.put]
/-- Bytes from 128 on are laid, within a word. -/
theorem fold_high (k : Nat) (hk : k = 1 ∨ k = 2) : ∀ (l : List UInt8) (s : Sc), s.st = k → (∀ x ∈ l, 128 ≤ x.toNat) → l.foldl stepB s = s.put l k
  | [], s, h, _ => by
    obtain ⟨a, b, c⟩ := s
    simp at h; subst h
    simp [Sc.put]
  | x :: l, s, h, hl => by
    have hx := high_ne (hl x (by simp))
    have e : stepB s x = s.put [x] k := by
      unfold stepB stepR
      rcases hk with rfl | rfl <;> simp [h, hx]
    rw [List.foldl_cons, e, fold_high k hk l _ rfl (fun y hy => hl y (by simp [hy])), put_put]
    rfl
/-- A rune of bytes from 128 on is its bytes. -/
theorem stepR_high (s : Sc) (c : Nat) (b : List UInt8) (hs : s.st ≤ 5) (hc : 128 ≤ c) (hb : b ≠ []) (hl : ∀ x ∈ b, 128 ≤ x.toNat) : stepR s c b = b.foldl stepB s := by
  have e1 : c ≠ 32 := by omega
  have e2 : c ≠ 34 := by omega
  have e3 : c ≠ 92 := by omega
  rcases (show s.st = 0 ∨ s.st = 1 ∨ s.st = 2 ∨ s.st = 3 ∨ s.st = 4 ∨ s.st = 5 by omega) with h | h | h | h | h | h
  · cases b with
    | nil => exact absurd rfl hb
    | cons x l =>
      have hx := high_ne (hl x (by simp))
      have e : stepB s x = s.put [x] 1 := by unfold stepB stepR; simp [h, hx]
      rw [List.foldl_cons, e, fold_high 1 (.inl rfl) l _ rfl (fun y hy => hl y (by simp [hy])), put_put]
      unfold stepR; simp [h, e1, e2]
  · rw [fold_high 1 (.inl rfl) b s h hl]; unfold stepR; simp [h, e1, e2]
  · rw [fold_high 2 (.inr rfl) b s h hl]; unfold stepR; simp [h, e2, e3]
  all_goals
    cases b with
    | nil => exact absurd rfl hb
    | cons x l =>
      have hx := high_ne (hl x (by simp))
      first
        | (have e : stepB s x = s.to 5 := by (unfold stepB stepR; simp [h, hx])
           rw [List.foldl_cons, e, fold5 l _ rfl]; unfold stepR; simp [h, e1, e2, e3]; done)
        | (rw [fold5 _ _ h]; exact stepR5 h)

/-- One rune of a range over a text that may be. -/
theorem next_rune (l : List UInt8) (pos : Nat) (h : pos < l.length) (hr : rightB (l.drop pos) = true) :
    ∃ r wd : Nat, Utf8.decode ⟨l.toArray⟩ pos = (r, wd) ∧ r ≤ 1114111 ∧ 0 < wd ∧ pos + wd ≤ l.length ∧ rightB (l.drop (pos + wd)) = true ∧
      encodeRune (r : Int) = (l.drop pos).take wd ∧ ∀ s : Sc, s.st ≤ 5 → stepR s r ((l.drop pos).take wd) = ((l.drop pos).take wd).foldl stepB s := by
  have hne : l.drop pos ≠ [] := by
    intro e
    have := congrArg List.length e
    rw [List.length_drop] at this
    simp at this
    omega
  have hd : decodeL (l.drop pos) = Utf8.decode ⟨l.toArray⟩ pos := by simpa using decodeL_drop ⟨l.toArray⟩ pos
  have hlen : (l.drop pos).length = l.length - pos := List.length_drop
  rcases first_rune hne with ⟨a1, a2, a3⟩ | ⟨a1, a2, a3⟩ | ⟨a1, a2, a3, a4, a5, a6, a7, a8⟩
  · by_cases hb : ((l.drop pos).getD 0 0).toNat < 32 ∨ ((l.drop pos).getD 0 0).toNat = 127
    · rw [if_pos hb] at a2
      rw [rightB_bad hne a2] at hr
      cases hr
    · rw [if_neg hb] at a2
      rw [rightB_step (by omega), a2, List.drop_drop] at hr
      obtain ⟨x, t, hxt⟩ := List.exists_cons_of_ne_nil hne
      rw [hxt] at a1 a3 hd ⊢
      simp at a1 a3
      refine ⟨x.toNat, 1, by rw [← hd]; exact a3, by omega, by omega, by omega, hr, ?_, ?_⟩
      · unfold encodeRune
        rw [encodeRuneZ_one (by omega) (by omega)]
        simp
      · intro s _
        simp [stepB]
  · rw [rightB_bad hne a2] at hr
    cases hr
  · rw [rightB_step (by omega), List.drop_drop] at hr
    refine ⟨(decodeL (l.drop pos)).1, sizeL (l.drop pos), by rw [← hd, a2], a6, by omega, by omega, hr, a7, ?_⟩
    intro s hs
    exact stepR_high s _ _ hs a5 (by
      intro e
      have := congrArg List.length e
      rw [List.length_take] at this
      simp at this
      omega) a8

/-- All of a line, and a blank behind it. -/
def scanF (l : List UInt8) : Sc := (l ++ [32]).foldl stepB ⟨[], [], 0⟩
/-- What a scanner tells at the end. -/
def finS (s : Sc) : List Tok × Nat := if s.st = 0 then (s.words, 0) else ([], 5)
/-- The words of a line, and an error's number. -/
def scanL (l : List UInt8) : List Tok × Nat := if 200 < l.length then ([], 4) else if rightB l then finS (scanF l) else ([], 5)

/-- A blank behind a text that may be. -/
theorem sizeL_blank {l : List UInt8} (h : sizeL l ≠ 0) : sizeL (l ++ [32]) = sizeL l := by
  have hne : l ≠ [] := fun e => h (by unfold sizeL; rw [if_pos e])
  have e : sizeL l = sizeN l.length (l.getD 0 0).toNat (l.getD 1 0).toNat (l.getD 2 0).toNat (l.getD 3 0).toNat := by unfold sizeL; rw [if_neg hne]
  have e' : sizeL (l ++ [32]) = sizeN (l ++ [32]).length ((l ++ [32]).getD 0 0).toNat ((l ++ [32]).getD 1 0).toNat ((l ++ [32]).getD 2 0).toNat ((l ++ [32]).getD 3 0).toNat := by unfold sizeL; rw [if_neg (by simp)]
  have g : ∀ k, k < l.length → (l ++ [32]).getD k 0 = l.getD k 0 := fun k hk => by simp only [List.getD]; rw [List.getElem?_append_left hk]
  rw [e] at h
  rw [e, e', g 0 (sizeL_pos hne)]
  exact sizeN_more h (by simp) (fun k => by rw [g 1 k]) (fun k => by rw [g 2 k]) (fun k => by rw [g 3 k])
theorem right_blank : ∀ (n : Nat) (l : List UInt8), l.length ≤ n → rightB l = true → rightB (l ++ [32]) = true
  | n, [], _, _ => by
    have : sizeL [32] = 1 := by decide
    rw [List.nil_append, rightB_step (by omega), this]
    rfl
  | 0, x :: l, h, _ => by simp at h
  | n + 1, x :: l, h, hr => by
    have hz : sizeL (x :: l) ≠ 0 := fun e => by rw [rightB_bad (by simp) e] at hr; cases hr
    have hw : sizeL (x :: l) ≤ (x :: l).length := by
      rcases first_rune (l := x :: l) (by simp) with ⟨a1, a2, a3⟩ | ⟨a1, a2, a3⟩ | ⟨a1, a2, a3, a4, _⟩
      · rw [a2]; split <;> simp
      · omega
      · exact a4
    rw [rightB_step hz] at hr
    rw [rightB_step (by rw [sizeL_blank hz]; exact hz), sizeL_blank hz, List.drop_append_of_le_length hw]
    exact right_blank n _ (by rw [List.length_drop]; simp at h ⊢; omega) hr
end Go.Proofs.YtpimnbalffaliaaDoor

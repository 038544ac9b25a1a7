/-
  What QueueLines wants of texts and of lines' ends.
-/
import Derived.Test.YtgbialnnfadlgaaAwake22
import Derived.Test.YtgbialnnfadlgaaArgs22
import Derived.Laws.IdiomStrings
import Derived.WalkSpells
namespace Go.Proofs.Ytgbialnnfadlgaa
set_option linter.unusedVariables false
set_option linter.unusedSimpArgs false
open Go.RowKit

def byN22 (l : List UInt8) (j : Nat) : Nat := (l.getD j 0).toNat
theorem index_byte22 (l : List UInt8) (j : Nat) (J : Int) (hJ : J = (j : Int)) (h : j < l.length) (w : World) :
    (Instr.index 9 (.string ⟨l.toArray⟩) (.int .i64 J)).run Try.prog w = .ok (.int .u8 (byN22 l j : Int)) w := by
  subst hJ
  rw [run_index_string _ _ _ _ _ Try.underlying9]
  have hb : j < (⟨l.toArray⟩ : ByteArray).size := h
  have e : (⟨l.toArray⟩ : ByteArray)[j]'hb = l[j] := rfl
  unfold byN22
  have h2 : (j : Int) < (l.length : Int) := by omega
  simp [hb, h2, h, e]
theorem cat_bytes22 (l m : List UInt8) (h : l.length + m.length ≤ 1000000) (w : World) : (Op.stringOp .add ⟨l.toArray⟩ ⟨m.toArray⟩).run Try.prog w = .ok (.string ⟨(l ++ m).toArray⟩) w := by
  rw [run_string_add_sum w _ _ (by show l.length + m.length ≤ 9223372036854775807; omega)]
  congr 2
/-- '[]byte(s)': a row of its own. -/
theorem bytes_of22 (w : World) (l : List UInt8) (hl : l.length ≤ 1000000) :
    ∃ c w', (convert 9 29 (.string ⟨l.toArray⟩)).run Try.prog w = .ok (.slice (some ⟨w.heap.size, 0, none⟩) l.length c) w' ∧ l.length ≤ c ∧ c ≤ maxLen ∧ Bytes w' (some ⟨w.heap.size, 0, none⟩) l ∧ Below w.heap.size w w' := by
  have hr := run_bytes_of_string (P := Try.prog) w 9 29 5 ⟨l.toArray⟩ Try.underlying9 Try.underlying29 Try.underlying5
  have hsz : (⟨l.toArray⟩ : ByteArray).size = l.length := rfl
  rw [hsz] at hr
  refine ⟨_, _, hr, grownCap_ge w _ _ _, grownCap_le_maxLen w _ _ _ (by unfold maxLen; omega), fun hne => ⟨w.heap.size, 0, rfl, by simp, fun j hj => ?_⟩, ((Below.refl _ _).drew).alloc (Nat.le_refl _) _⟩
  have hk := heap_alloc_new w.drew (.cells (bytesRow ⟨l.toArray⟩ (grownCap w l.length 0 5)) 5 ((bytesRow ⟨l.toArray⟩ (grownCap w l.length 0 5)).size, (bytesRow ⟨l.toArray⟩ (grownCap w l.length 0 5)).size + 1))
  refine (cell_of_row _ w.heap.size _ _ _ _ hk).trans ?_
  rw [Nat.zero_add, bytesRow_at _ _ j (by simpa using hj)]
  simp [List.getD, hj]
theorem eolN_mid (r : List UInt8) : ∀ (s : List UInt8), (∀ x ∈ s, x ≠ 10) → eolN (s ++ 10 :: r) = (s.length : Int)
  | [], _ => by unfold eolN; simp [Lib.indexByte]
  | b :: s, h => by
    have ih := eolN_mid r s (fun x hx => h x (List.mem_cons_of_mem _ hx))
    have hb := h b (List.mem_cons_self ..)
    unfold eolN at ih ⊢
    rw [List.cons_append]
    unfold Lib.indexByte
    rw [ih]
    simp [hb]
theorem eolN_none : ∀ (s : List UInt8), (∀ x ∈ s, x ≠ 10) → eolN s = -1
  | [], _ => by unfold eolN; simp [Lib.indexByte]
  | b :: s, h => by
    have ih := eolN_none s (fun x hx => h x (List.mem_cons_of_mem _ hx))
    have hb := h b (List.mem_cons_self ..)
    unfold eolN at ih ⊢
    unfold Lib.indexByte
    rw [ih]
    simp [hb]
def joinN : List (List UInt8) → List UInt8
  | [] => []
  | s :: L => s ++ 10 :: joinN L
theorem joinN_snoc (s : List UInt8) : ∀ L : List (List UInt8), joinN (L ++ [s]) = joinN L ++ s ++ [10]
  | [] => by simp [joinN]
  | t :: L => by simp [joinN, joinN_snoc s L]
theorem joinN_len : ∀ L : List (List UInt8), (∀ s ∈ L, s.length ≤ 20) → (joinN L).length ≤ 21 * L.length
  | [], _ => by simp [joinN]
  | s :: L, h => by
    have ih := joinN_len L (fun x hx => h x (List.mem_cons_of_mem _ hx))
    have := h s (List.mem_cons_self ..)
    simp [joinN]
    omega
theorem take_snoc22 {α : Type} (L : List α) (i : Nat) (h : i < L.length) (d : α) : L.take (i + 1) = L.take i ++ [L.getD i d] := by
  rw [List.take_add_one, List.getElem?_eq_getElem h]
  simp [List.getD, h]
theorem drop_cons22 {α : Type} (L : List α) (i : Nat) (h : i < L.length) (d : α) : L.drop i = L.getD i d :: L.drop (i + 1) := by
  rw [List.drop_eq_getElem_cons h]
  simp [List.getD, h]
/-- A line that may be: short, and without an end. -/
def LineOk (s : List UInt8) : Prop := s.length ≤ 20 ∧ ∀ x ∈ s, x ≠ 10
theorem byN_mem {s : List UInt8} {k : Nat} (h : k < s.length) (hb : byN22 s k ≠ 10) : s.getD k 0 ≠ 10 := fun e => hb (by unfold byN22; rw [e]; rfl)
end Go.Proofs.Ytgbialnnfadlgaa

/-
  Which runes may be, and which texts: by the document (written by gen13z.py).
-/
import Derived.Test.YtpimnbalffaliaaDoorRight13
import Derived.Test.YtpimnbalffaliaaDoorInt
import Derived.WalkLawsBesides
namespace Go.Proofs.YtpimnbalffaliaaDoor
set_option linter.unusedVariables false
set_option linter.unusedSimpArgs false
open Go.RowKit Go.Lib

def byN (l : List UInt8) (j : Nat) : Nat := (l.getD j 0).toNat
theorem byN_lt (l : List UInt8) (j : Nat) : byN l j < 256 := UInt8.toNat_lt _
theorem index_byte (l : List UInt8) (j : Nat) (J : Int) (hJ : J = (j : Int)) (h : j < l.length) (w : World) :
    (Instr.index 9 (.string ⟨l.toArray⟩) (.int .i64 J)).run Tryd.prog w = .ok (.int .u8 (byN l j : Int)) w := by
  subst hJ
  rw [run_index_string _ _ _ _ _ Tryd.underlying9]
  have hb : j < (⟨l.toArray⟩ : ByteArray).size := h
  have e := ba_at l j hb
  unfold byN
  rw [← e]
  have h2 : (j : Int) < (l.length : Int) := by omega
  simp [hb, h2, h]
theorem size_at (l : List UInt8) (i : Nat) (hi : i < l.length) : sizeL (l.drop i) = sizeN (l.length - i) (byN l i) (byN l (i + 1)) (byN l (i + 2)) (byN l (i + 3)) := by
  have hne : l.drop i ≠ [] := by
    intro e
    have := congrArg List.length e
    rw [List.length_drop] at this
    simp at this
    omega
  unfold sizeL byN
  rw [if_neg hne, List.length_drop]
  simp [List.getD, List.getElem?_drop]
end Go.Proofs.YtpimnbalffaliaaDoor

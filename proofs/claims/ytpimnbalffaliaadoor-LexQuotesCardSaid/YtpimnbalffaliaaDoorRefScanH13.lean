/-
  What the document's Scan wants of texts; what it tells.
-/
import Derived.Test.YtpimnbalffaliaaDoorRefScanF13
import Derived.Test.YtpimnbalffaliaaDoorRefSize13
import Derived.Test.YtpimnbalffaliaaDoorRefInt
import Derived.Test.YtpimnbalffaliaaDoorTok13
import Derived.WalkSpells
namespace Go.Proofs.YtpimnbalffaliaaDoor
set_option linter.unusedVariables false
set_option linter.unusedSimpArgs false
open Go.RowKit Go.Lib

theorem slice_bytes (l : List UInt8) (a b : Nat) (A B : Int) (hA : A = (a : Int)) (hB : B = (b : Int)) (h1 : a ≤ b) (h2 : b ≤ l.length) (w : World) :
    (Instr.slice 9 (.string ⟨l.toArray⟩) (some (.int .i64 A)) (some (.int .i64 B)) none).run Tryd.prog w = .ok (.string ⟨((l.take b).drop a).toArray⟩) w := by
  subst hA hB
  rw [run_slice_string_if _ _ _ _ _ _ _ Tryd.underlying9]
  have e : (⟨l.toArray⟩ : ByteArray).size = l.length := rfl
  rw [if_pos ⟨by omega, by rw [e]; omega⟩, if_pos ⟨by omega, by omega⟩]
  simp only [Int.toNat_natCast]
  rw [ba_ext]
theorem cat_bytes (l m : List UInt8) (h : l.length + m.length ≤ 1000000) (w : World) : (Op.stringOp .add ⟨l.toArray⟩ ⟨m.toArray⟩).run Tryd.prog w = .ok (.string ⟨(l ++ m).toArray⟩) w := by
  rw [run_string_add_sum w _ _ (by show l.length + m.length ≤ 9223372036854775807; omega), ba_append]
theorem one_byte (l : List UInt8) (q : Nat) (h : q < l.length) : (l.take (q + 1)).drop q = [l.getD q 0] := by
  rw [take_snoc l q h, List.drop_append_of_le_length (by rw [List.length_take]; omega), List.drop_eq_nil_of_le (by rw [List.length_take]; omega)]
  rfl
theorem more_bytes (l : List UInt8) (j q : Nat) (h : q < l.length) (hj : j ≤ q) : (l.take (q + 1)).drop j = (l.take q).drop j ++ [l.getD q 0] := by
  rw [take_snoc l q h, List.drop_append_of_le_length (by rw [List.length_take]; omega)]
theorem some_bytes (l : List UInt8) (j q : Nat) (h : q ≤ l.length) (hj : j < q) : (l.take q).drop j ≠ [] ∧ ((l.take q).drop j).length = q - j := by
  have e : ((l.take q).drop j).length = q - j := by rw [List.length_drop, List.length_take]; omega
  exact ⟨fun k => by rw [k] at e; simp at e; omega, e⟩
/-- What the document's Scan tells. -/
def RefScanRet (w : World) (r : List Tok × Nat) (e : Ending) (w' : World) : Prop :=
  ∃ A c, e = .returned (.tuple #[.slice A r.1.length c, .int .i64 (r.2 : Int)]) ∧ OwnT w' w.heap.size (.slice A r.1.length c) r.1 ∧ Below w.heap.size w w'

end Go.Proofs.YtpimnbalffaliaaDoor

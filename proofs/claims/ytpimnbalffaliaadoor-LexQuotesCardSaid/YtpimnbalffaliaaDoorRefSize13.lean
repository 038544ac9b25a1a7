/-
  Which runes may be: by the document (written by gen13z.py).
-/
import Derived.Test.YtpimnbalffaliaaDoorRefSizA0
import Derived.Test.YtpimnbalffaliaaDoorRefSizA1
import Derived.Test.YtpimnbalffaliaaDoorRefSizA2
import Derived.Test.YtpimnbalffaliaaDoorRefSizA3
import Derived.Test.YtpimnbalffaliaaDoorRefSizA4
namespace Go.Proofs.YtpimnbalffaliaaDoor
set_option linter.unusedVariables false
set_option linter.unusedSimpArgs false
open Go.RowKit Go.Lib

theorem RefSize_any (l : List UInt8) (i : Nat) (w : World) (hi : i < l.length) (hm : l.length ≤ 1000) :
    Calls Tryd.prog 40 #[.string ⟨l.toArray⟩, .int .i64 (i : Int)] w fun e w' => e = .returned (.int .i64 (sizeL (l.drop i) : Int)) ∧ w = w' := by
  have g := byN_lt l i
  rcases (show byN l i < 128 ∨ (128 ≤ byN l i ∧ byN l i < 194) ∨ 244 < byN l i ∨ (194 ≤ byN l i ∧ byN l i ≤ 223) ∨ byN l i = 224 ∨ byN l i = 237 ∨ (225 ≤ byN l i ∧ byN l i ≤ 239 ∧ byN l i ≠ 237) ∨ byN l i = 240 ∨ byN l i = 244 ∨ (241 ≤ byN l i ∧ byN l i ≤ 243) by omega) with c | c | c | c | c | c | c | c | c | c
  · exact RefSize_low l i w hi hm c
  · exact RefSize_noneA l i w hi hm c
  · exact RefSize_noneB l i w hi hm c
  · exact RefSize_C2 l i w hi hm c
  · exact RefSize_E0 l i w hi hm c
  · exact RefSize_ED l i w hi hm c
  · exact RefSize_E1 l i w hi hm c
  · exact RefSize_F0 l i w hi hm c
  · exact RefSize_F4 l i w hi hm c
  · exact RefSize_F1 l i w hi hm c

theorem size_le {l : List UInt8} : sizeL l ≤ l.length := by
  by_cases hne : l = []
  · unfold sizeL; rw [if_pos hne]; exact Nat.zero_le _
  · have h0 := sizeL_pos hne
    rcases first_rune hne with ⟨a1, a2, a3⟩ | ⟨a1, a2, a3⟩ | ⟨a1, a2, a3, a4, _⟩
    · rw [a2]; split <;> omega
    · omega
    · exact a4
set_option maxHeartbeats 3200000 in
theorem RefRight13_any (l : List UInt8) (w : World) (hm : l.length ≤ 1000) :
    Calls Tryd.prog 23 #[.string ⟨l.toArray⟩] w fun e w' => e = .returned (.bool (rightB l)) ∧ w = w' := by
  have HS := Lib.hid (fun (i : Nat) (hi : i < l.length) => RefSize_any l i w hi hm)
  obtain ⟨R, hR⟩ : ∃ R, R = rightB l := ⟨_, rfl⟩
  rw [← hR]
  have HR := Lib.hid hR
  clear hR
  go_enter Tryd.func23, Tryd.ntmps23
  go_wp2_with fail
  go_loopw [3, 4] (fun i _ wr => w = wr ∧ ∃ j : Nat, j ≤ l.length ∧ i = .int .i64 (j : Int) ∧ Hid (R = rightB (l.drop j))) (fun i _ _ => l.length - (intOf i).toNat)
  case atStart => exact ⟨rfl, 0, by omega, rfl, Lib.hid (by rw [HR.out]; rfl)⟩
  case round =>
    obtain ⟨rfl, j, hj, rfl, HJ⟩ := hrel
    by_cases hlt : j < l.length
    · have hz : (j : Int) < (l.length : Int) := by omega
      have q := HS.out j hlt
      have HL := Lib.hid (size_le (l := l.drop j))
      have HSZ := Lib.hid (show (l.drop j).length = l.length - j from List.length_drop)
      have HB := Lib.hid (fun h : sizeL (l.drop j) = 0 => rightB_bad (l := l.drop j) (fun e => by rw [e] at HSZ; have := HSZ.out; simp at this; omega) h)
      have HST := Lib.hid (fun h : sizeL (l.drop j) ≠ 0 => rightB_step (l := l.drop j) h)
      obtain ⟨z, hzz⟩ : ∃ z, z = sizeL (l.drop j) := ⟨_, rfl⟩
      rw [← hzz] at q HL HB HST
      have Q := Lib.hid q
      clear q hzz
      by_cases h0 : z = 0
      · subst h0
        have E := Lib.hid (HJ.out.trans (HB.out rfl))
        clear HB HST
        go_wp2_with fail
        refine Q.out.mono ?_
        rintro e w1 ⟨rfl, rfl⟩
        go_wp2_with fail
        go_ret
        exact ⟨by rw [E.out]; rfl, rfl⟩
      · have h0z : ((z : Int) == 0) = false := by simp; omega
        have E := Lib.hid (HJ.out.trans (HST.out h0))
        clear HB HST
        have hl := HL.out
        rw [HSZ.out] at hl
        have hw : wrap64 ((j : Int) + (z : Int)) = (j : Int) + (z : Int) := IntWalk.wrap64_in _ ⟨by omega, by omega⟩
        go_wp2_with fail
        refine Q.out.mono ?_
        rintro e w1 ⟨rfl, rfl⟩
        go_wp2_with fail
        go_roundw
        case rel => exact ⟨trivial, j + z, by omega, by simp, Lib.hid (by rw [E.out, List.drop_drop])⟩
        case measure => simp [intOf]; omega
    · have hz : ¬ (j : Int) < (l.length : Int) := by omega
      have E := Lib.hid (show R = true by rw [HJ.out, List.drop_eq_nil_of_le (by omega)]; rfl)
      go_wp2_with fail
      go_ret
      exact ⟨by rw [E.out]; rfl, rfl⟩
end Go.Proofs.YtpimnbalffaliaaDoor

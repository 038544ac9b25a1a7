/-
  The example that each statement of this layer asks for.
-/
import Derived.Test.YtcjeifpdikojlaaDoorRParse12
namespace Go.Proofs.YtcjeifpdikojlaaDoor
set_option linter.unusedVariables false
set_option linter.unusedSimpArgs false
open Go.RowKit

theorem dec8 : dec 8 = [56] := by rw [dec_small (by decide)]; rfl
theorem dec7 : dec 7 = [55] := by rw [dec_small (by decide)]; rfl
theorem dec0 : dec 0 = [48] := by rw [dec_small (by decide)]; rfl
theorem dec10 : dec 10 = [49, 48] := by rw [dec_step (by decide), dec_small (by decide)]; rfl
theorem dec24 : dec 24 = [50, 52] := by rw [dec_step (by decide), dec_small (by decide)]; rfl
theorem dec65001 : dec 65001 = [54, 53, 48, 48, 49] := by
  rw [dec_step (by decide), dec_step (by decide), dec_step (by decide), dec_step (by decide), dec_small (by decide)]; rfl
theorem int8 : intSpec [56] = some 8 := intSpec_of dec8 (by decide)
theorem int7 : intSpec [55] = some 7 := intSpec_of dec7 (by decide)
theorem int0 : intSpec [48] = some 0 := intSpec_of dec0 (by decide)
theorem int10 : intSpec [49, 48] = some 10 := intSpec_of dec10 (by decide)
theorem int24 : intSpec [50, 52] = some 24 := intSpec_of dec24 (by decide)
theorem int65001 : intSpec [54, 53, 48, 48, 49] = some 65001 := intSpec_of dec65001 (by decide)
theorem parseC_one : parseC [54, 53, 48, 48, 49, 58, 55] = some 4259905543 := by
  have c1 : fcutL [54, 53, 48, 48, 49, 58, 55] 58 = ([54, 53, 48, 48, 49], [55]) := by decide
  have g : guessC [54, 53, 48, 48, 49, 58, 55] = 4259905543 := by
    unfold guessC
    rw [if_neg (by decide), if_neg (by decide), if_neg (by decide), c1]
    simp only [int65001, int7]
    decide
  have t : commL 4259905543 = [54, 53, 48, 48, 49, 58, 55] := by
    rw [commL_other (by decide) (by decide) (by decide)]
    have a0 : 4259905543 / 65536 = 65001 := by decide
    have a1 : 4259905543 % 65536 = 7 := by decide
    rw [a0, a1, dec65001, dec7]
    rfl
  unfold parseC
  rw [g, t, if_pos rfl]
theorem addr_ten : addrOf [49, 48, 46, 48, 46, 48, 46, 48] = some 167772160 := by
  have c1 : cutL [49, 48, 46, 48, 46, 48, 46, 48] 46 = ([49, 48], [48, 46, 48, 46, 48]) := by decide
  have c2 : cutL [48, 46, 48, 46, 48] 46 = ([48], [48, 46, 48]) := by decide
  have c3 : cutL [48, 46, 48] 46 = ([48], [48]) := by decide
  simp [addrOf, pa, part8, c1, c2, c3, int10, int0]
theorem parse_ten : parseP [49, 48, 46, 48, 46, 48, 46, 48, 47, 56] = some (167772160, 8) := by
  have c1 : cutL [49, 48, 46, 48, 46, 48, 46, 48, 47, 56] 47 = ([49, 48, 46, 48, 46, 48, 46, 48], [56]) := by decide
  have h : okP ((167772160 : Nat) : Int) ((8 : Nat) : Int) = true := by decide
  unfold parseP
  rw [c1]
  simp only [addr_ten, int8, h, if_true]
theorem parseR_ten : parseR [49, 48, 46, 48, 46, 48, 46, 48, 47, 56, 32, 56, 45, 50, 52] = some (167772160, 8, 8, 24) := by
  have c1 : fcutL [49, 48, 46, 48, 46, 48, 46, 48, 47, 56, 32, 56, 45, 50, 52] 32 = ([49, 48, 46, 48, 46, 48, 46, 48, 47, 56], [56, 45, 50, 52]) := by decide
  have c2 : fcutL [56, 45, 50, 52] 45 = ([56], [50, 52]) := by decide
  have h : okR ((167772160 : Nat) : Int) ((8 : Nat) : Int) ((8 : Nat) : Int) ((24 : Nat) : Int) = true := by decide
  unfold parseR
  simp only [c1, c2, parse_ten, int8, int24, pA, pN, Option.getD_some, Option.isSome_some, h, Bool.and_self, if_true]
theorem in_ten : inR ((167772160 : Nat) : Int) ((8 : Nat) : Int) ((8 : Nat) : Int) ((24 : Nat) : Int) 167837696 16 = true := by decide

set_option maxHeartbeats 1600000 in
theorem awake12_any (w : World) (ht : Tab w) : Calls Tryd.prog 8 #[] w fun e w' => e = .returned (.bool true) ∧ Below w.heap.size w w' := by
  have qC := PComm_any [54, 53, 48, 48, 49, 58, 55] w (by decide) ht
  rw [parseC_one] at qC
  have QC := Lib.hid qC
  have HT := Lib.hid ht; clear ht qC
  go_enter Tryd.func8, Tryd.ntmps8
  go_wp2_with fail
  refine QC.out.mono ?_
  rintro e w1 ⟨rfl, hb1⟩
  simp only [retPC, Option.getD_some, Option.isSome_some]
  have qP := Parse12_any [49, 48, 46, 48, 46, 48, 46, 48, 47, 56, 32, 56, 45, 50, 52] w1 (by decide) (HT.out.below hb1 HT.out.lt)
  rw [parseR_ten] at qP
  have QP := Lib.hid qP; clear qP
  go_wp2_with fail
  refine QP.out.mono ?_
  rintro e w2 ⟨rfl, hb2'⟩
  have hb2 := hb1.trans (hb2'.mono hb1.size)
  simp only [retPR]
  have qI := In12_any 167772160 167837696 ((8 : Nat) : Int) ((8 : Nat) : Int) ((24 : Nat) : Int) 16 (w2.alloc (.cells #[.int .u32 ((167772160 : Nat) : Int), .int .i64 ((8 : Nat) : Int), .int .i64 ((8 : Nat) : Int), .int .i64 ((24 : Nat) : Int)] 35)) (by decide) (by decide) (by decide) (by decide) (by decide) (by decide)
  rw [in_ten] at qI
  have QI := Lib.hid qI; clear qI
  go_wp2_with fail
  refine QI.out.mono ?_
  rintro e w3 ⟨rfl, hb3'⟩
  have hb2a := hb2.alloc hb2.size (.cells #[.int .u32 ((167772160 : Nat) : Int), .int .i64 ((8 : Nat) : Int), .int .i64 ((8 : Nat) : Int), .int .i64 ((24 : Nat) : Int)] 35)
  have hb3 := hb2a.trans (hb3'.mono hb2a.size)
  have qM := Comm_any 4294967041 w3 (by decide) (HT.out.below hb3 HT.out.lt)
  rw [commL_A] at qM
  have QM := Lib.hid qM; clear qM
  go_wp2_with fail
  refine QM.out.mono ?_
  rintro e w4 ⟨rfl, hb4'⟩
  have hb4 := hb3.trans (hb4'.mono hb3.size)
  go_wp2_with fail
  go_ret
  exact ⟨rfl, hb4⟩
end Go.Proofs.YtcjeifpdikojlaaDoor

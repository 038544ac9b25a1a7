/-
  The example: New of a; Pin; Commit of b; At of 0; Release of 0; At of 0.
-/
import Derived.Test.YtagfehfggkehmaaWritesS
namespace Go.Proofs.Ytagfehfggkehmaa
set_option linter.unusedVariables false
set_option linter.unusedSimpArgs false
open Go.RowKit Go.Maps

def aS : ByteArray := ⟨#[97]⟩
def bS : ByteArray := ⟨#[98]⟩
def F0 : Int → Option (ByteArray × Int) := putF (fun _ => none) 0 (aS, 0)
def F1 : Int → Option (ByteArray × Int) := putF F0 0 (aS, 1)
def F2 : Int → Option (ByteArray × Int) := dropF (putF F1 1 (bS, 0)) ⟨#[]⟩ 1 0
def F3 : Int → Option (ByteArray × Int) := dropF (putF F2 0 (aS, 0)) ⟨#[]⟩ 1 0
theorem F0_0 : F0 0 = some (aS, 0) := rfl
theorem F2_0 : F2 0 = some (aS, 1) := by simp [F2, dropF, putF, F1]
theorem F3_0 : F3 0 = none := by simp [F3, dropF, putF, delF]
theorem C1 : putC F0 0 1 = 1 := rfl
theorem C2 : dropC (putF F1 1 (bS, 0)) (⟨#[]⟩ : ByteArray) 1 0 (putC F1 1 1) = 2 := by simp [dropC, putC, putF, F1, F0]
theorem C3 : dropC (putF F2 0 (aS, 0)) (⟨#[]⟩ : ByteArray) 1 0 (putC F2 0 2) = 1 := by
  have h := F2_0
  simp [dropC, putC, putF, delC, h]

set_option maxHeartbeats 3200000 in
theorem awake_any (w : World) : Calls Try.prog 20 #[] w fun e w' => e = .returned (.bool true) ∧ Below w.heap.size w w' := by
  go_enter Try.func20, Try.ntmps20
  go_wp2_with fail
  refine (NewS aS w).mono ?_
  rintro e w1 ⟨g, b, rfl, hg, hb, s1, bel1⟩
  have HS := Lib.hid s1
  have HL := Lib.hid (And.intro hg (And.intro hb bel1))
  clear hg hb s1 bel1
  go_wp2_with fail
  refine (PinS HS.out aS 0 F0_0 (by decide) (by decide) (by decide)).mono ?_
  rintro e w2 ⟨rfl, s2, k2⟩
  have HS2 := Lib.hid (show StS w2 g b 2 0 F1 1 from s2)
  have HK2 := Lib.hid k2
  clear s2 k2
  go_wp2_with fail
  refine (CommitS HS2.out bS (by decide) (by decide)).mono ?_
  rintro e w3 ⟨rfl, s3, k3⟩
  rw [show ((0 : Int) + 1) = 1 from rfl] at s3 ⊢
  rw [C2] at s3
  have HS3 := Lib.hid (show StS w3 g b 3 1 F2 2 from s3)
  have HK3 := Lib.hid (HK2.out.trans k3)
  clear s3 k3
  go_wp2_with fail
  have hat := AtS_of (getS HS3.out 0 (by decide))
  rw [show atS F2 0 = (aS, 1) by unfold atS; rw [F2_0]; rfl, show (F2 0).isSome = true by rw [F2_0]; rfl] at hat
  refine hat.mono ?_
  rintro e w4 ⟨rfl, b4⟩
  unfold retAtS
  have HS4 := Lib.hid (HS3.out.below b4 HS3.out.lt.1 HS3.out.lt.2)
  have HK4 := Lib.hid (HK3.out.trans (Keep2.of_below b4))
  clear hat b4
  go_wp2_with fail
  refine (ReleaseS HS4.out 0 aS 1 F2_0 (by decide) (by decide) (by decide)).mono ?_
  rintro e w5 ⟨rfl, s5, k5⟩
  rw [show ((1 : Int) - 1) = 0 from rfl] at s5
  rw [C3] at s5
  have HS5 := Lib.hid (show StS w5 g b 4 1 F3 1 from s5)
  have HK5 := Lib.hid (HK4.out.trans k5)
  clear s5 k5
  go_wp2_with fail
  have hat := AtS_of (getS HS5.out 0 (by decide))
  rw [show atS F3 0 = (⟨#[]⟩, 0) by unfold atS; rw [F3_0]; rfl, show (F3 0).isSome = false by rw [F3_0]; rfl] at hat
  refine hat.mono ?_
  rintro e w6 ⟨rfl, b6⟩
  unfold retAtS
  have HS6 := Lib.hid (HS5.out.below b6 HS5.out.lt.1 HS5.out.lt.2)
  have HK6 := Lib.hid (HK5.out.trans (Keep2.of_below b6))
  have haa : aS.toList = [97] := by first | kernel_rfl | decide +kernel | (simp [aS, ByteArray.toList, ByteArray.toList.loop])
  clear hat b6
  go_wp2_with fail
  refine (LiveS HS6.out).mono ?_
  rintro e w7 ⟨rfl, rfl⟩
  go_wp2_with fail
  go_ret
  exact ⟨rfl, HL.out.2.2.trans ((HK6.out.below HL.out.1 HL.out.2.1 HL.out.2.2.size))⟩
end Go.Proofs.Ytagfehfggkehmaa

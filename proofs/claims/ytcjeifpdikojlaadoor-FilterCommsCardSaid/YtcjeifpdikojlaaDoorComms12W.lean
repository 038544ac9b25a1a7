/-
  P12.1, P12.4: any community as a text, and which one any text is.
-/
import Derived.Test.YtcjeifpdikojlaaDoorAwake12
import Derived.Test.YtcjeifpdikojlaaDoorRefPC12
namespace Go.Proofs.YtcjeifpdikojlaaDoor
set_option linter.unusedVariables false
set_option linter.unusedSimpArgs false
open Go.RowKit

set_option maxHeartbeats 3200000 in
theorem comms_walk (c : Nat) (l : List UInt8) (w : World) (hc : c < 4294967296) (hm : l.length ≤ maxLen) (ht : Tab w) :
    Calls Tryd.prog 3 #[.int .u32 (c : Int), .string ⟨l.toArray⟩] w fun e w' => e = .returned (.bool true) ∧ Below w.heap.size w w' := by
  have HT := Lib.hid (fun (w' : World) (hb : Below w.heap.size w w') => ht.below hb ht.lt)
  clear ht
  have hml := hm
  unfold maxLen at hml
  by_cases hl : 500 < l.length
  · have hl2 : (500 : Int) < (l.length : Int) := by omega
    clear hl
    go_enter Tryd.func3, Tryd.ntmps3
    go_wp2_with fail
    refine (awake12_any _ (HT.out _ (Below.refl _ _))).mono ?_
    rintro e w9 ⟨rfl, g⟩
    go_wp2_with fail
    go_ret
    exact ⟨rfl, g⟩
  · have hl2 : ¬ (500 : Int) < (l.length : Int) := by omega
    have cl := commL_len hc
    have Q1 := fun w ht => Lib.hid (Comm_any c w hc ht)
    have Q2 := fun w ht => Lib.hid (PComm_any (commL c) w (by unfold maxLen; omega) ht)
    rw [parseC_some hc rfl] at Q2
    have Q3 := fun w ht => Lib.hid (PComm_any l w hm ht)
    have Q4 := fun w => Lib.hid (RefPComm_any l w hm)
    have Q5 := fun w => Lib.hid (RefComm_any c w hc)
    obtain ⟨T, hT⟩ : ∃ T, T = commL c := ⟨_, rfl⟩
    rw [← hT] at Q1 Q2 Q5
    obtain ⟨r, hr⟩ : ∃ r, r = parseC l := ⟨_, rfl⟩
    rw [← hr] at Q3 Q4
    unfold retPC at Q2 Q3 Q4
    simp only [Option.getD_some, Option.isSome_some] at Q2
    obtain ⟨x, hx⟩ : ∃ x, x = r.getD 0 := ⟨_, rfl⟩
    obtain ⟨b, hb⟩ : ∃ b, b = r.isSome := ⟨_, rfl⟩
    rw [← hx, ← hb] at Q3 Q4
    clear hT hr hx hb hl cl
    go_enter Tryd.func3, Tryd.ntmps3
    go_wp2_with fail
    refine (Q1 _ (HT.out _ (Below.refl _ _))).out.mono ?_
    rintro e w1 ⟨rfl, hbc⟩
    go_wp2_with fail
    refine (Q2 _ (HT.out _ hbc)).out.mono ?_
    rintro e w2 ⟨rfl, g⟩
    replace hbc := hbc.trans (g.mono hbc.size)
    clear g
    go_wp2_with fail
    refine (Q3 _ (HT.out _ hbc)).out.mono ?_
    rintro e w3 ⟨rfl, g⟩
    replace hbc := hbc.trans (g.mono hbc.size)
    clear g
    go_wp2_with fail
    refine (Q4 _).out.mono ?_
    rintro e w4 ⟨rfl, rfl⟩
    go_wp2_with fail
    refine (Q5 _).out.mono ?_
    rintro e w4 ⟨rfl, rfl⟩
    go_wp2_with fail
    refine (awake12_any _ (HT.out _ hbc)).mono ?_
    rintro e w9 ⟨rfl, g⟩
    replace hbc := hbc.trans (g.mono hbc.size)
    clear g
    go_wp2_with fail
    go_ret
    exact ⟨rfl, hbc⟩
end Go.Proofs.YtcjeifpdikojlaaDoor

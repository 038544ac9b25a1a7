/-
  RankBest's walk.
-/
import Derived.Test.YtpjhidicgclmbaaAwake15
import Derived.Test.YtpjhidicgclmbaaFew15
import Derived.Test.YtpjhidicgclmbaaFrame15
namespace Go.Proofs.Ytpjhidicgclmbaa
set_option linter.unusedVariables false
set_option linter.unusedSimpArgs false
open Go.RowKit

theorem cnts_ok {L : List Cv} (hw : ∀ s ∈ L, Wt reachBytes s.path) (hf : ∀ s ∈ L, fewB s.path = true) : ∀ s ∈ L, CntOk s := fun s hs => cnt_ok (hf s hs) (hw s hs)
set_option maxHeartbeats 3200000 in
theorem RankBest.walk (a : Option Addr) (c : Nat) (L : List Cv) (W : World) (h : CandsIn W W.heap.size a L) (hw : ∀ s ∈ L, Wt reachBytes s.path) :
    Calls Try.prog 3 #[.slice a L.length c] W fun e w' => e = .returned (.bool true) ∧ Below W.heap.size W w' := by
  have HC := Lib.hid h; have HW := Lib.hid hw
  have QF := Lib.hid (few_any a c L 30 W h (by decide))
  have QA := Lib.hid (fun W => awake15_any W)
  have e30 : ((30 : Nat) : Int) = 30 := rfl
  rw [e30] at QF
  clear h hw e30
  go_enter Try.func3, Try.ntmps3
  go_wp2_with fail
  refine QF.out.mono ?_
  rintro e w1 ⟨b, rfl, hfew, hb1⟩
  have HB1 := Lib.hid hb1
  cases b with
  | false =>
    clear hfew hb1 QF
    go_wp2_with fail
    refine (QA.out _).mono ?_
    rintro e w2 ⟨rfl, hb2⟩
    have HB2 := Lib.hid (HB1.out.trans (hb2.mono HB1.out.size))
    clear hb2
    go_wp2_with fail
    go_ret
    exact ⟨rfl, HB2.out⟩
  | true =>
    obtain ⟨hlen, hall⟩ := hfew rfl
    have HK := Lib.hid (cnts_ok HW.out hall)
    have Q1 := Lib.hid (Best_any a c L w1 (HC.out.go hb1) HK.out (by omega))
    have Q2 := Lib.hid (fun (W2 : World) (hW2 : Below W.heap.size W W2) => RefBest_any a c L W2 (HC.out.go hW2) HK.out (by omega))
    clear hfew hb1 QF hlen hall
    obtain ⟨B, hB⟩ : ∃ B, B = bestZ L := ⟨_, rfl⟩
    rw [← hB] at Q1 Q2
    clear hB
    go_wp2_with fail
    refine Q1.out.mono ?_
    rintro e w2 ⟨rfl, hb2⟩
    have HB2 := Lib.hid (HB1.out.trans (hb2.mono HB1.out.size))
    clear hb2
    go_wp2_with fail
    refine (Q2.out _ HB2.out).mono ?_
    rintro e w3 ⟨rfl, hb3⟩
    have HB3 := Lib.hid (HB2.out.trans (hb3.mono HB2.out.size))
    clear hb3
    go_wp2_with fail
    refine (QA.out _).mono ?_
    rintro e w4 ⟨rfl, hb4⟩
    have HB4 := Lib.hid (HB3.out.trans (hb4.mono HB3.out.size))
    clear hb4
    go_wp2_with fail
    go_ret
    exact ⟨rfl, HB4.out⟩
end Go.Proofs.Ytpjhidicgclmbaa

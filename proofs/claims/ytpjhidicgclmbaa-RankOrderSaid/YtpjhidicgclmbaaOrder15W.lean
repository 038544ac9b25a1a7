/-
  RankOrder's walk.
-/
import Derived.Test.YtpjhidicgclmbaaBest15W
import Derived.Test.YtpjhidicgclmbaaRefOrd15
namespace Go.Proofs.Ytpjhidicgclmbaa
set_option linter.unusedVariables false
set_option linter.unusedSimpArgs false
open Go.RowKit

set_option maxRecDepth 100000 in
set_option maxHeartbeats 12800000 in
theorem RankOrder.walk (a : Option Addr) (c : Nat) (L : List Cv) (W : World) (h : CandsIn W W.heap.size a L) (hw : ∀ s ∈ L, Wt reachBytes s.path) :
    Calls Try.prog 5 #[.slice a L.length c] W fun e w' => e = .returned (.bool true) ∧ Below W.heap.size W w' := by
  have HC := Lib.hid h; have HW := Lib.hid hw
  have QF := Lib.hid (few_any a c L 15 W h (by decide))
  have QA := Lib.hid (fun W => awake15_any W)
  have e15 : ((15 : Nat) : Int) = 15 := rfl
  rw [e15] at QF
  clear h hw e15
  go_enter Try.func5, Try.ntmps5
  go_wp2_with fail
  refine QF.out.mono ?_
  rintro e w1 ⟨b, rfl, hfew, hb1⟩
  have HB1 := Lib.hid hb1
  cases b with
  | false =>
    clear hfew hb1 QF
    go_wp2_with fail
    refine (QA.out _).mono ?_
    rintro e w2 ⟨rfl, hb2⟩
    have HB2 := Lib.hid (HB1.out.trans (hb2.mono HB1.out.size))
    clear hb2
    go_wp2_with fail
    go_ret
    exact ⟨rfl, HB2.out⟩
  | true =>
    obtain ⟨hlen, hall⟩ := hfew rfl
    have HK := Lib.hid (cnts_ok HW.out hall)
    have Q1 := Lib.hid (Order_any a c L w1 (HC.out.go hb1) HK.out (by omega))
    have Q2 := Lib.hid (fun (W2 : World) (hW2 : Below W.heap.size W W2) => RefOrder_any a c L W2 (HC.out.go hW2) HK.out (by omega))
    clear hfew hb1 QF hlen hall
    have hzl : ∃ z, z = allO L := ⟨_, rfl⟩
    obtain ⟨z, hz⟩ := hzl
    rw [← hz] at Q1 Q2
    clear hz
    go_wp2_with fail
    refine Q1.out.mono ?_
    rintro e w2 ⟨A1, c1, rfl, _, f2, ho2, hb2⟩
    have HI2 := Lib.hid ho2.at
    have HB2 := Lib.hid (HB1.out.trans (hb2.mono HB1.out.size))
    clear hb2 ho2
    go_wp2_with fail
    refine (Q2.out _ HB2.out).mono ?_
    rintro e w3 ⟨A2, c2, rfl, g1, _, ho3, hb3⟩
    have HI3 := Lib.hid ho3.at
    have HI2' := Lib.hid (HI2.out.go hb3)
    have HB3 := Lib.hid (HB2.out.trans (hb3.mono HB2.out.size))
    have hN63 : z.length ≤ maxLen := by omega
    obtain ⟨N, hN⟩ : ∃ N, N = z.length := ⟨_, rfl⟩
    rw [← hN]
    rw [← hN] at hN63
    have HN := Lib.hid hN
    have HN63 := Lib.hid hN63
    clear hb3 ho3 HI2 Q1 Q2 hN hN63 g1 f2
    go_wp2_with fail
    go_loopw [5] (fun i wx => ∃ j m : Nat, j ≤ N ∧ i = .int .i64 (j : Int) ∧ wx = w3.drewN m) (fun i _ => N - (intOf i).toNat)
    case atStart => exact ⟨0, 0, Nat.zero_le _, rfl, rfl⟩
    case round =>
      obtain ⟨j, m, hj, rfl, hwx⟩ := hrel
      obtain ⟨w5, h5⟩ : ∃ w, w = wr := ⟨_, rfl⟩
      subst h5
      have HW5 := Lib.hid hwx
      have HB5 := Lib.hid (show Below W.heap.size W w5 by rw [hwx]; exact below_drewN HB3.out m)
      have HJ1 := Lib.hid (show IntsAt w5 w5.heap.size A1 z by rw [hwx]; exact HI2'.out.go (below_drewN (Below.refl _ _) m))
      have HJ2 := Lib.hid (show IntsAt w5 w5.heap.size A2 z by rw [hwx]; exact HI3.out.go (below_drewN (Below.refl _ _) m))
      clear hwx
      by_cases hjN : j < N
      · obtain ⟨u, hu⟩ : ∃ u, z[j]? = some u := ⟨_, List.getElem?_eq_getElem (by have := HN.out; omega)⟩
        obtain ⟨b1, o1, rfl, _, k1⟩ := HJ1.out.at hu
        obtain ⟨b2, o2, rfl, _, k2⟩ := HJ2.out.at hu
        have i1 := k1 j u hu
        have i2 := k2 j u hu
        have hjI : (j : Int) < (N : Int) := by omega
        have hne : (u != u) = false := by simp
        have HJN := Lib.hid hjN
        have hj1 : j + 1 ≤ 9223372036854775807 := by have := HN63.out; unfold maxLen at this; omega
        clear k1 k2 hu
        go_wp2_with fail
        go_quiet (fail)
        go_wp2_with fail
        go_roundw
        case rel => exact ⟨j + 1, _, HJN.out, by go_num, by rw [HW5.out]; exact World.drewN_drewN _ _ _⟩
        case measure => have := HJN.out; simp [intOf]; omega
      · obtain rfl : j = N := by omega
        go_wp2_with fail
        refine (QA.out _).mono ?_
        rintro e w6 ⟨rfl, hb6⟩
        have HB6 := Lib.hid (HB5.out.trans (hb6.mono HB5.out.size))
        clear hb6
        go_wp2_with fail
        go_ret
        exact ⟨rfl, HB6.out⟩
end Go.Proofs.Ytpjhidicgclmbaa

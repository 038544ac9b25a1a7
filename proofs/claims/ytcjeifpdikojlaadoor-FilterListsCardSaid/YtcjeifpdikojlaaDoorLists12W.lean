/-
  P12.1: any communities with one more, and without one; whether some are all there.
-/
import Derived.Test.YtcjeifpdikojlaaDoorAwake12
import Derived.Test.YtcjeifpdikojlaaDoorDrop12
import Derived.Test.YtcjeifpdikojlaaDoorNums3
namespace Go.Proofs.YtcjeifpdikojlaaDoor
set_option linter.unusedVariables false
set_option linter.unusedSimpArgs false
open Go.RowKit

theorem sameZ_self (y : List Nat) : sameZ y y = true := by unfold sameZ; simp

set_option maxHeartbeats 6400000 in
theorem lists_walk (A B : Option Addr) (ca cb : Nat) (z l : List Nat) (c : Nat) (w : World) (h : At32 w w.heap.size A z) (h' : At32 w w.heap.size B l) (hc0 : z.length ≤ ca) (hm0 : ca ≤ maxLen) (hc1 : l.length ≤ cb) (hm1 : cb ≤ maxLen)
    (hr0 : ∀ v ∈ z, v < 4294967296) (hr1 : ∀ v ∈ l, v < 4294967296) (hk : c < 4294967296) (ht : Tab w) :
    Calls Tryd.prog 4 #[.slice A z.length ca, .slice B l.length cb, .int .u32 (c : Int)] w fun e w' => e = .returned (.bool true) ∧ Below w.heap.size w w' := by
  have HT := Lib.hid (fun (w' : World) (hb : Below w.heap.size w w') => ht.below hb ht.lt)
  have HA := Lib.hid (fun (w' : World) (hb : Below w.heap.size w w') => (h.below hb (Nat.le_refl _)).lift hb.size)
  have HB := Lib.hid (fun (w' : World) (hb : Below w.heap.size w w') => (h'.below hb (Nat.le_refl _)).lift hb.size)
  clear ht h h' hr0 hr1
  by_cases h80 : 80 < z.length
  · have g1 : (80 : Int) < (z.length : Int) := by omega
    clear h80
    go_enter Tryd.func4, Tryd.ntmps4
    go_wp2_with fail
    refine (awake12_any _ (HT.out _ (Below.refl _ _))).mono ?_
    rintro e w9 ⟨rfl, g⟩
    go_wp2_with fail
    go_ret
    exact ⟨rfl, g⟩
  have g1 : ¬ (80 : Int) < (z.length : Int) := by omega
  by_cases h81 : 80 < l.length
  · have g2 : (80 : Int) < (l.length : Int) := by omega
    clear h81
    go_enter Tryd.func4, Tryd.ntmps4
    go_wp2_with fail
    refine (awake12_any _ (HT.out _ (Below.refl _ _))).mono ?_
    rintro e w9 ⟨rfl, g⟩
    go_wp2_with fail
    go_ret
    exact ⟨rfl, g⟩
  have g2 : ¬ (80 : Int) < (l.length : Int) := by omega
  have la : (addC z c).length ≤ 9223372036854775807 := by
    unfold addC; split
    · omega
    · simp; omega
  have ld : (dropC z c).length ≤ 9223372036854775807 := Nat.le_trans (List.length_filter_le _ _) (by omega)
  have Q1 := fun W hw => Lib.hid (Add12_any A ca z c W hw (by omega))
  have Q2 := fun W hw => Lib.hid (RefAdd12_any A ca z c W hw ⟨hc0, hm0⟩ (by omega))
  have Q3 := fun W hw => Lib.hid (Drop12_any A ca z c W hw (by omega))
  have Q4 := fun W hw => Lib.hid (RefDrop12_any A ca z c W hw (by omega))
  have Q5 := fun W hw hw' => Lib.hid (All12_any A B ca cb z l W hw hw' (by omega) (by omega))
  have Q6 := fun W hw hw' => Lib.hid (RefAll12_any A B ca cb z l W hw hw' (by omega) (by omega))
  have Q7 := fun W hw => Lib.hid (All12_any A A ca ca z z W hw hw (by omega) (by omega))
  rw [allB_self] at Q7
  obtain ⟨X, hX⟩ : ∃ X, X = addC z c := ⟨_, rfl⟩
  obtain ⟨Y, hY⟩ : ∃ Y, Y = dropC z c := ⟨_, rfl⟩
  obtain ⟨b, hb⟩ : ∃ b, b = allB z l := ⟨_, rfl⟩
  rw [← hX] at Q1 Q2 la
  rw [← hY] at Q3 Q4 ld
  rw [← hb] at Q5 Q6
  clear hX hY hb h80 h81 hc0 hm0 hc1 hm1
  have QN := fun (a a' : Option Addr) (n n' : Nat) (W : World) (k1 : At32 W W.heap.size a X) (k2 : At32 W W.heap.size a' X) => Lib.hid (Nums_any a a' n n' X X W k1 k2 la)
  have QM := fun (a a' : Option Addr) (n n' : Nat) (W : World) (k1 : At32 W W.heap.size a Y) (k2 : At32 W W.heap.size a' Y) => Lib.hid (Nums_any a a' n n' Y Y W k1 k2 ld)
  rw [sameZ_self] at QN QM
  go_enter Tryd.func4, Tryd.ntmps4
  go_wp2_with fail
  refine (Q1 _ (HA.out _ (Below.refl _ _))).out.mono ?_
  rintro e w1 ⟨A1, c1, rfl, _, _, a1, hbc⟩
  have K1 := Lib.hid a1
  clear a1
  go_wp2_with fail
  refine (Q2 _ (HA.out _ hbc)).out.mono ?_
  rintro e w2 ⟨A2, c2, rfl, _, _, a2, g⟩
  have K2 := Lib.hid a2
  have K1' := Lib.hid ((K1.out.below g (Nat.le_refl _)).lift g.size)
  replace hbc := hbc.trans (g.mono hbc.size)
  clear a2 g K1
  go_wp2_with fail
  refine (QN _ _ _ _ _ K1'.out K2.out).out.mono ?_
  rintro e w3 ⟨rfl, k, rfl⟩
  replace hbc := below_drewN hbc k
  clear K1' K2
  go_wp2_with fail
  refine (Q3 _ (HA.out _ hbc)).out.mono ?_
  rintro e w4 ⟨A3, c3, rfl, _, _, a3, g⟩
  have K3 := Lib.hid a3
  replace hbc := hbc.trans (g.mono hbc.size)
  clear a3 g
  go_wp2_with fail
  refine (Q4 _ (HA.out _ hbc)).out.mono ?_
  rintro e w5 ⟨A4, c4, rfl, _, _, a4, g⟩
  have K4 := Lib.hid a4
  have K3' := Lib.hid ((K3.out.below g (Nat.le_refl _)).lift g.size)
  replace hbc := hbc.trans (g.mono hbc.size)
  clear a4 g K3
  go_wp2_with fail
  refine (QM _ _ _ _ _ K3'.out K4.out).out.mono ?_
  rintro e w6 ⟨rfl, k2, rfl⟩
  replace hbc := below_drewN hbc k2
  clear K3' K4
  go_wp2_with fail
  refine (Q5 _ (HA.out _ hbc) (HB.out _ hbc)).out.mono ?_
  rintro e w7 ⟨rfl, g⟩
  replace hbc := hbc.trans (g.mono hbc.size)
  clear g
  go_wp2_with fail
  refine (Q6 _ (HA.out _ hbc) (HB.out _ hbc)).out.mono ?_
  rintro e w8 ⟨rfl, rfl⟩
  go_wp2_with fail
  refine (Q7 _ (HA.out _ hbc)).out.mono ?_
  rintro e w8 ⟨rfl, g⟩
  replace hbc := hbc.trans (g.mono hbc.size)
  clear g
  go_wp2_with fail
  refine (awake12_any _ (HT.out _ hbc)).mono ?_
  rintro e w9 ⟨rfl, g⟩
  replace hbc := hbc.trans (g.mono hbc.size)
  clear g
  go_wp2_with fail
  go_ret
  exact ⟨rfl, hbc⟩
end Go.Proofs.YtcjeifpdikojlaaDoor

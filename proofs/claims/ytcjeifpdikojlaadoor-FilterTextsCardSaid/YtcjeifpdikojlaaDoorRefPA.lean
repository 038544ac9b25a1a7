/-
  The number of a text, by the document.
-/
import Derived.Test.YtcjeifpdikojlaaDoorAddrM
import Derived.Test.YtcjeifpdikojlaaDoorRefAddr
namespace Go.Proofs.YtcjeifpdikojlaaDoor
set_option linter.unusedVariables false
set_option linter.unusedSimpArgs false
open Go.RowKit

set_option maxHeartbeats 3200000 in
theorem RefPA_any (l : List UInt8) (w : World) (hm : l.length ≤ maxLen) :
    Calls Tryd.prog 67 #[.string ⟨l.toArray⟩] w fun e w' => e = .returned (retAddr (addrOf l)) ∧ w = w' := by
  have QA := fun (v : Int) (x : Nat) (hv : v = (x : Int)) (h : x < 4294967296) W => Lib.hid (show Calls Tryd.prog 68 #[.int .u32 v] W (fun e w' => e = .returned (.string ⟨(addrL x).toArray⟩) ∧ W = w') by rw [hv]; exact RefAddr_any x W h)
  unfold maxLen at hm
  go_enter Tryd.func67, Tryd.ntmps67
  go_wp2_with fail
  go_loop [4, 5, 6] (fun n p i => ∃ j N P : Nat, j ≤ l.length ∧ j ≤ 16 ∧ i = .int .i64 (j : Int) ∧ n = .int .i64 (N : Int) ∧ p = .int .i64 (P : Int) ∧ N ≤ 16777215 ∧ P ≤ 255 ∧ Hid (foldA (l.take j) = some (N, P))) (fun _ _ i => 16 - (intOf i).toNat)
  case atStart => exact ⟨0, 0, 0, by omega, by omega, rfl, rfl, rfl, by omega, by omega, Lib.hid rfl⟩
  case round =>
    obtain ⟨j, N, P, hj, hj16, rfl, rfl, rfl, hN, hP, hF⟩ := hrel
    by_cases hgo : j < l.length ∧ j < 16
    · obtain ⟨hlt, h16⟩ := hgo
      have hstep := foldA_take hlt
      rw [hF.out, stepA_some] at hstep
      have hb : j < (⟨l.toArray⟩ : ByteArray).size := by simpa [ByteArray.size] using hlt
      have hx : ((⟨l.toArray⟩ : ByteArray)[j].toNat : Int) = (((l.getD j 0).toNat : Nat) : Int) := by rw [ba_at l j hb]
      have hx256 := (l.getD j 0).toNat_lt
      obtain ⟨x, hxx⟩ : ∃ x, x = (l.getD j 0).toNat := ⟨_, rfl⟩
      rw [← hxx] at hstep hx hx256
      clear hxx hF
      by_cases hc : x = 46
      · rw [if_pos hc] at hstep
        have hce : (((⟨l.toArray⟩ : ByteArray)[j].toNat : Int) == 46) = true := by rw [hx, hc]; rfl
        clear hx hc hx256
        by_cases hok : 256 * N + P ≤ 16777215
        · rw [if_pos hok] at hstep
          have HF := Lib.hid hstep; clear hstep
          have hge : ¬ (16777215 : Int) < 256 * (N : Int) + (P : Int) := by omega
          go_wp2_with fail
          go_round
          case rel => exact ⟨j + 1, 256 * N + P, 0, by omega, by omega, by go_num, by go_num, rfl, hok, by omega, HF⟩
          case measure => simp [intOf]; omega
        · rw [if_neg hok] at hstep
          have HE := Lib.hid (addrOf_none_of_fold (foldA_none hstep)); clear hstep
          have hge : (16777215 : Int) < 256 * (N : Int) + (P : Int) := by omega
          go_wp2_with fail
          go_ret2
          exact ⟨by rw [HE.out]; rfl, rfl⟩
      · rw [if_neg hc] at hstep
        have hce : (((⟨l.toArray⟩ : ByteArray)[j].toNat : Int) == 46) = false := by rw [hx]; simpa using (show ¬ (x : Int) = 46 by omega)
        by_cases hq : 48 ≤ 10 * P + x ∧ 10 * P + x ≤ 303
        · rw [if_pos hq] at hstep
          have HF := Lib.hid hstep; clear hstep
          have g1 : ¬ 10 * (P : Int) + (x : Int) - 48 < 0 := by omega
          have g2 : ¬ (255 : Int) < 10 * (P : Int) + (x : Int) - 48 := by omega
          have g3 : ¬ (16777215 : Int) < (N : Int) := by omega
          clear hc
          go_wp2_with fail
          go_round
          case rel => exact ⟨j + 1, N, 10 * P + x - 48, by omega, by omega, by go_num, rfl, by rw [show ((10 * P + x - 48 : Nat) : Int) = 10 * (P : Int) + (x : Int) - 48 by omega], hN, by omega, HF⟩
          case measure => simp [intOf]; omega
        · rw [if_neg hq] at hstep
          have HE := Lib.hid (addrOf_none_of_fold (foldA_none hstep)); clear hstep
          by_cases g1 : 10 * (P : Int) + (x : Int) - 48 < 0
          · clear hc hq
            go_wp2_with fail
            go_ret2
            exact ⟨by rw [HE.out]; rfl, rfl⟩
          · have g2 : (255 : Int) < 10 * (P : Int) + (x : Int) - 48 := by omega
            clear hc hq
            go_wp2_with fail
            go_ret2
            exact ⟨by rw [HE.out]; rfl, rfl⟩
    · have HE := Lib.hid (addrOf_end hgo hF.out hN hP)
      have qA := fun W => QA (256 * (N : Int) + (P : Int)) (256 * N + P) (by omega) (by omega) W
      clear QA hF
      by_cases hA : addrL (256 * N + P) = l
      · rw [if_pos hA] at HE
        rw [hA] at qA
        have HE2 := Lib.hid (show Value.tuple #[.int .u32 (256 * (N : Int) + (P : Int)), .bool true] = retAddr (addrOf l) by rw [HE.out]; simp [retAddr])
        clear HE hA
        by_cases hlt : j < l.length
        · have h16 : ¬ j < 16 := fun h => hgo ⟨hlt, h⟩
          clear hgo
          go_wp2_with fail
          refine (qA _).out.mono ?_
          rintro e w1 ⟨rfl, rfl⟩
          go_wp2_with fail
          go_ret2
          exact ⟨by rw [← HE2.out]; rfl, rfl⟩
        · clear hgo
          go_wp2_with fail
          refine (qA _).out.mono ?_
          rintro e w1 ⟨rfl, rfl⟩
          go_wp2_with fail
          go_ret2
          exact ⟨by rw [← HE2.out]; rfl, rfl⟩
      · rw [if_neg hA] at HE
        obtain ⟨A, hAA⟩ : ∃ A, A = addrL (256 * N + P) := ⟨_, rfl⟩
        rw [← hAA] at qA hA
        have hA2 : (A == l) = false := by simpa using hA
        clear hAA
        by_cases hlt : j < l.length
        · have h16 : ¬ j < 16 := fun h => hgo ⟨hlt, h⟩
          clear hgo
          go_wp2_with fail
          refine (qA _).out.mono ?_
          rintro e w1 ⟨rfl, rfl⟩
          go_wp2_with fail
          go_ret2
          exact ⟨by rw [HE.out]; rfl, rfl⟩
        · clear hgo
          go_wp2_with fail
          refine (qA _).out.mono ?_
          rintro e w1 ⟨rfl, rfl⟩
          go_wp2_with fail
          go_ret2
          exact ⟨by rw [HE.out]; rfl, rfl⟩
end Go.Proofs.YtcjeifpdikojlaaDoor

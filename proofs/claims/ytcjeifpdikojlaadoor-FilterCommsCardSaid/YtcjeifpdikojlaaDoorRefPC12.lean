/-
  The community of a text, by the document (written by gen12c.py).
-/
import Derived.Test.YtcjeifpdikojlaaDoorGuess12
import Derived.Test.YtcjeifpdikojlaaDoorRefInt
import Derived.Test.YtcjeifpdikojlaaDoorTexts
namespace Go.Proofs.YtcjeifpdikojlaaDoor
set_option linter.unusedVariables false
set_option linter.unusedSimpArgs false
open Go.RowKit

theorem commL_cut {g : Nat} (h1 : ¬ g = 4294967041) (h2 : ¬ g = 4294967042) (h3 : ¬ g = 4294967043) : fcutL (commL g) 58 = (dec (g / 65536), dec (g % 65536)) := by
  have e : commL g = dec (g / 65536) ++ 58 :: dec (g % 65536) := by rw [commL_other h1 h2 h3]; simp
  have hc : cutL (commL g) 58 = (dec (g / 65536), dec (g % 65536)) := by
    rw [e]
    refine cutL_app _ _ _ (fun x hx => ?_)
    have h := dec_digs (g / 65536) x hx
    unfold isDig at h
    intro e
    subst e
    simp at h
  unfold fcutL
  rw [if_pos (by rw [e]; simp), hc]
theorem commL_names {g : Nat} {l : List UInt8} (h : commL g = l) (hA : ¬ l = nmA) (hB : ¬ l = nmB) (hC : ¬ l = nmC) : ¬ g = 4294967041 ∧ ¬ g = 4294967042 ∧ ¬ g = 4294967043 := by
  refine ⟨fun e => hA ?_, fun e => hB ?_, fun e => hC ?_⟩
  · rw [← h, e, commL_A]
  · rw [← h, e, commL_B]
  · rw [← h, e, commL_C]
theorem commL_ints {g : Nat} {l : List UInt8} (hg : g < 4294967296) (h : commL g = l) (hA : ¬ l = nmA) (hB : ¬ l = nmB) (hC : ¬ l = nmC) : intSpec (fcutL l 58).1 = some (g / 65536) ∧ intSpec (fcutL l 58).2 = some (g % 65536) := by
  obtain ⟨h1, h2, h3⟩ := commL_names h hA hB hC
  rw [← h, commL_cut h1 h2 h3]
  exact ⟨intSpec_of rfl (by omega), intSpec_of rfl (by omega)⟩
/-- What is written of a community is read as it. -/
theorem parseC_some {l : List UInt8} {g : Nat} (hg : g < 4294967296) (h : commL g = l) : parseC l = some g := by
  have e : guessC l = g := by
    by_cases hA : l = nmA
    · have e2 : g = 4294967041 := by
        by_cases e : g = 4294967041
        · exact e
        exfalso
        by_cases e2 : g = 4294967042
        · rw [e2, commL_B, hA] at h; exact absurd h (by decide)
        by_cases e3 : g = 4294967043
        · rw [e3, commL_C, hA] at h; exact absurd h (by decide)
        have h5 := commL_cut e e2 e3
        rw [h, hA, show fcutL nmA 58 = ([], []) by decide] at h5
        have h6 := congrArg (fun x => x.1.length) h5
        have h7 : 0 < (dec (g / 65536)).length := dec_ne _
        simp at h6
        omega
      unfold guessC; rw [if_pos hA, e2]
    by_cases hB : l = nmB
    · have e2 : g = 4294967042 := by
        by_cases e : g = 4294967042
        · exact e
        exfalso
        by_cases e2 : g = 4294967041
        · rw [e2, commL_A, hB] at h; exact absurd h (by decide)
        by_cases e3 : g = 4294967043
        · rw [e3, commL_C, hB] at h; exact absurd h (by decide)
        have h5 := commL_cut e2 e e3
        rw [h, hB, show fcutL nmB 58 = ([], []) by decide] at h5
        have h6 := congrArg (fun x => x.1.length) h5
        have h7 : 0 < (dec (g / 65536)).length := dec_ne _
        simp at h6
        omega
      unfold guessC; rw [if_neg hA, if_pos hB, e2]
    by_cases hC : l = nmC
    · have e2 : g = 4294967043 := by
        by_cases e : g = 4294967043
        · exact e
        exfalso
        by_cases e2 : g = 4294967041
        · rw [e2, commL_A, hC] at h; exact absurd h (by decide)
        by_cases e3 : g = 4294967042
        · rw [e3, commL_B, hC] at h; exact absurd h (by decide)
        have h5 := commL_cut e2 e3 e
        rw [h, hC, show fcutL nmC 58 = ([], []) by decide] at h5
        have h6 := congrArg (fun x => x.1.length) h5
        have h7 : 0 < (dec (g / 65536)).length := dec_ne _
        simp at h6
        omega
      unfold guessC; rw [if_neg hA, if_neg hB, if_pos hC, e2]
    obtain ⟨h1, h2⟩ := commL_ints hg h hA hB hC
    unfold guessC
    rw [if_neg hA, if_neg hB, if_neg hC, h1, h2]
    simp only [Option.getD_some]
    have e1 : g / 65536 * 65536 % 4294967296 = g / 65536 * 65536 := Nat.mod_eq_of_lt (by omega)
    rw [e1, show g / 65536 * 65536 = g / 65536 * 2 ^ 16 from rfl, nat_join 16 _ _ (by omega) (by omega)]
    omega
  unfold parseC
  rw [e, h, if_pos rfl]
theorem parseC_none {l : List UInt8} (h : ∀ g, g < 4294967296 → commL g ≠ l) : parseC l = none := by
  unfold parseC
  rw [if_neg (h _ (guessC_lt l))]
theorem parseC_no {l : List UInt8} (hA : ¬ l = nmA) (hB : ¬ l = nmB) (hC : ¬ l = nmC) (h : ∀ x y, intSpec (fcutL l 58).1 = some x → intSpec (fcutL l 58).2 = some y → x ≤ 65535 → y ≤ 65535 → commL (65536 * x + y) ≠ l) : parseC l = none := by
  refine parseC_none fun g hg e => ?_
  obtain ⟨h1, h2⟩ := commL_ints hg e hA hB hC
  refine h _ _ h1 h2 (by omega) (by omega) ?_
  have e2 : 65536 * (g / 65536) + g % 65536 = g := by omega
  rw [e2, e]

set_option maxHeartbeats 6400000 in
theorem RefPComm_any (l : List UInt8) (w : World) (hm : l.length ≤ maxLen) :
    Calls Tryd.prog 11 #[.string ⟨l.toArray⟩] w fun e w' => e = .returned (retPC (parseC l)) ∧ w = w' := by
  have QC := fun (c : Nat) (h : c < 4294967296) => Lib.hid (RefComm_any c w h)
  have QI := fun (r : List UInt8) (h : r.length ≤ maxLen) => Lib.hid (refInt_any r w h)
  unfold maxLen at hm
  go_enter Tryd.func11, Tryd.ntmps11
  go_wp2_with fail
  go_loop [4] (fun i => ∃ j : Nat, j ≤ 3 ∧ i = .int .i64 (4294967041 + (j : Int)) ∧ Hid ((0 < j → ¬ l = nmA) ∧ (1 < j → ¬ l = nmB) ∧ (2 < j → ¬ l = nmC))) (fun i => (4294967044 - intOf i).toNat)
  case atStart => exact ⟨0, by omega, rfl, Lib.hid ⟨by omega, by omega, by omega⟩⟩
  case round =>
    obtain ⟨j, hj, rfl, hno⟩ := hrel
    rcases (show j = 0 ∨ j = 1 ∨ j = 2 ∨ j = 3 by omega) with rfl | rfl | rfl | rfl
    · have qA := QC 4294967041 (by decide)
      rw [commL_A] at qA
      clear QC QI
      by_cases hA : l = nmA
      · have c1 : (nmA == l) = true := by simp [hA]
        have e1 := Lib.hid (parseC_some (l := l) (g := 4294967041) (by decide) (by rw [commL_A, hA]))
        clear hno hA
        go_wp2_with fail
        refine qA.out.mono ?_
        rintro e w1 ⟨rfl, rfl⟩
        go_wp2_with fail
        exact bodyPost_ret (v := retPC (some 4294967041)) (by simp [results, Tryd.results11, go_sem, retPC]) rfl ⟨by rw [e1.out], rfl⟩
      · have c1 : (nmA == l) = false := by simpa using fun e => hA e.symm
        have HN := Lib.hid (show (0 < 0 + 1 → ¬ l = nmA) ∧ (1 < 0 + 1 → ¬ l = nmB) ∧ (2 < 0 + 1 → ¬ l = nmC) from ⟨fun _ => hA, fun h => absurd h (by omega), fun h => absurd h (by omega)⟩)
        clear hno hA
        go_wp2_with fail
        refine qA.out.mono ?_
        rintro e w1 ⟨rfl, rfl⟩
        go_wp2_with fail
        go_round
        case rel => exact ⟨1, by omega, by go_num, HN⟩
        case measure => simp [intOf]; done
    · have qA := QC 4294967042 (by decide)
      rw [commL_B] at qA
      clear QC QI
      by_cases hA : l = nmB
      · have c1 : (nmB == l) = true := by simp [hA]
        have e1 := Lib.hid (parseC_some (l := l) (g := 4294967042) (by decide) (by rw [commL_B, hA]))
        clear hno hA
        go_wp2_with fail
        refine qA.out.mono ?_
        rintro e w1 ⟨rfl, rfl⟩
        go_wp2_with fail
        exact bodyPost_ret (v := retPC (some 4294967042)) (by simp [results, Tryd.results11, go_sem, retPC]) rfl ⟨by rw [e1.out], rfl⟩
      · have c1 : (nmB == l) = false := by simpa using fun e => hA e.symm
        have HN := Lib.hid (show (0 < 1 + 1 → ¬ l = nmA) ∧ (1 < 1 + 1 → ¬ l = nmB) ∧ (2 < 1 + 1 → ¬ l = nmC) from ⟨fun _ => hno.out.1 (by omega), fun _ => hA, fun h => absurd h (by omega)⟩)
        clear hno hA
        go_wp2_with fail
        refine qA.out.mono ?_
        rintro e w1 ⟨rfl, rfl⟩
        go_wp2_with fail
        go_round
        case rel => exact ⟨2, by omega, by go_num, HN⟩
        case measure => simp [intOf]; done
    · have qA := QC 4294967043 (by decide)
      rw [commL_C] at qA
      clear QC QI
      by_cases hA : l = nmC
      · have c1 : (nmC == l) = true := by simp [hA]
        have e1 := Lib.hid (parseC_some (l := l) (g := 4294967043) (by decide) (by rw [commL_C, hA]))
        clear hno hA
        go_wp2_with fail
        refine qA.out.mono ?_
        rintro e w1 ⟨rfl, rfl⟩
        go_wp2_with fail
        exact bodyPost_ret (v := retPC (some 4294967043)) (by simp [results, Tryd.results11, go_sem, retPC]) rfl ⟨by rw [e1.out], rfl⟩
      · have c1 : (nmC == l) = false := by simpa using fun e => hA e.symm
        have HN := Lib.hid (show (0 < 2 + 1 → ¬ l = nmA) ∧ (1 < 2 + 1 → ¬ l = nmB) ∧ (2 < 2 + 1 → ¬ l = nmC) from ⟨fun _ => hno.out.1 (by omega), fun _ => hno.out.2.1 (by omega), fun _ => hA⟩)
        clear hno hA
        go_wp2_with fail
        refine qA.out.mono ?_
        rintro e w1 ⟨rfl, rfl⟩
        go_wp2_with fail
        go_round
        case rel => exact ⟨3, by omega, by go_num, HN⟩
        case measure => simp [intOf]; done
    · have HA := Lib.hid (hno.out.1 (by omega)); have HB := Lib.hid (hno.out.2.1 (by omega)); have HC3 := Lib.hid (hno.out.2.2 (by omega))
      clear hno
      go_wp2_with fail
      go_loop [5] (fun i => ∃ j : Nat, j ≤ l.length ∧ i = .int .i64 (j : Int) ∧ Hid (NoSign l 58 j)) (fun i => l.length - (intOf i).toNat)
      case atStart => exact ⟨0, by omega, rfl, Lib.hid (fun k h => by omega)⟩
      case round =>
        obtain ⟨j, hj, rfl, hN⟩ := hrel
        by_cases hlt : j < l.length
        · have hb : j < (⟨l.toArray⟩ : ByteArray).size := by simpa [ByteArray.size] using hlt
          by_cases hc : l.getD j 0 = 58
          · have hce : (((⟨l.toArray⟩ : ByteArray)[j].toNat : Int) != 58) = false := by rw [ba_at l j hb, hc]; rfl
            have HC := Lib.hid (fcut_at hlt hN.out hc)
            have hne : ((j : Int) == (l.length : Int)) = false := by simpa using (show ¬ (j : Int) = (l.length : Int) by omega)
            have hs : (⟨l.toArray⟩ : ByteArray).extract 0 j = ⟨(l.take j).toArray⟩ := by rw [ba_ext]; simp
            have hs2 : (⟨l.toArray⟩ : ByteArray).extract (j + 1) l.length = ⟨(l.drop (j + 1)).toArray⟩ := by rw [ba_ext, List.take_length]
            have hle1 : ((j : Int) + 1) ≤ (l.length : Int) := by omega
            have qP := QI (l.take j) (by unfold maxLen; simp; omega)
            have qB := QI (l.drop (j + 1)) (by unfold maxLen; simp; omega)
            obtain ⟨X, hX⟩ : ∃ X, X = intSpec (l.take j) := ⟨_, rfl⟩
            obtain ⟨Y, hY⟩ : ∃ Y, Y = intSpec (l.drop (j + 1)) := ⟨_, rfl⟩
            have HX := Lib.hid (show intSpec (fcutL l 58).1 = X by rw [HC.out, hX])
            have HY := Lib.hid (show intSpec (fcutL l 58).2 = Y by rw [HC.out, hY])
            rw [← hX] at qP
            rw [← hY] at qB
            clear hN hc QI hX hY HC
            cases X with
            | none =>
              have HE := Lib.hid (parseC_no HA.out HB.out HC3.out (fun x y h1 h2 _ _ => by rw [HX.out] at h1; cases h1))
              simp only [retInt, Option.getD_none, Option.isSome_none] at qP
              simp only [retInt] at qB
              clear QC
              go_wp2_with fail
              refine qP.out.mono ?_
              rintro e w1 ⟨rfl, rfl⟩
              go_wp2_with fail
              refine qB.out.mono ?_
              rintro e w1 ⟨rfl, rfl⟩
              go_wp2_with fail
              exact bodyPost_ret (v := retPC none) (by simp [results, Tryd.results11, go_sem, retPC]) rfl ⟨by rw [HE.out], rfl⟩
            | some x =>
              cases Y with
              | none =>
                have HE := Lib.hid (parseC_no HA.out HB.out HC3.out (fun x y h1 h2 _ _ => by rw [HY.out] at h2; cases h2))
                simp only [retInt, Option.getD_some, Option.isSome_some] at qP
                simp only [retInt, Option.getD_none, Option.isSome_none] at qB
                clear QC
                go_wp2_with fail
                refine qP.out.mono ?_
                rintro e w1 ⟨rfl, rfl⟩
                go_wp2_with fail
                refine qB.out.mono ?_
                rintro e w1 ⟨rfl, rfl⟩
                go_wp2_with fail
                exact bodyPost_ret (v := retPC none) (by simp [results, Tryd.results11, go_sem, retPC]) rfl ⟨by rw [HE.out], rfl⟩
              | some y =>
                simp only [retInt, Option.getD_some, Option.isSome_some] at qP qB
                by_cases hx : x ≤ 65535
                · by_cases hy : y ≤ 65535
                  · have qC := QC (65536 * x + y) (by omega)
                    clear QC
                    have hxi : ¬ (65535 : Int) < (x : Int) := by omega
                    have hyi : ¬ (65535 : Int) < (y : Int) := by omega
                    have ew : ((65536 * x + y : Nat) : Int) = 65536 * (x : Int) + (y : Int) := by omega
                    rw [ew] at qC
                    obtain ⟨T, hT⟩ : ∃ T, T = commL (65536 * x + y) := ⟨_, rfl⟩
                    rw [← hT] at qC
                    by_cases hit : T = l
                    · have HE := Lib.hid (parseC_some (l := l) (g := 65536 * x + y) (by omega) (by rw [← hT]; exact hit))
                      have c1 : (T != l) = false := by simp [hit]
                      have c2 : (T == l) = true := by simp [hit]
                      clear hT hit
                      go_wp2_with fail
                      refine qP.out.mono ?_
                      rintro e w1 ⟨rfl, rfl⟩
                      go_wp2_with fail
                      refine qB.out.mono ?_
                      rintro e w1 ⟨rfl, rfl⟩
                      go_wp2_with fail
                      refine qC.out.mono ?_
                      rintro e w1 ⟨rfl, rfl⟩
                      go_wp2_with fail
                      exact bodyPost_ret (v := retPC (some (65536 * x + y))) (by simp [results, Tryd.results11, go_sem, retPC]) rfl ⟨by rw [HE.out], rfl⟩
                    · have HE := Lib.hid (parseC_no HA.out HB.out HC3.out (fun x' y' h1 h2 _ _ => by
                        rw [HX.out] at h1; rw [HY.out] at h2; cases h1; cases h2; rw [← hT]; exact hit))
                      have c1 : (T != l) = true := by simpa using hit
                      have c2 : (T == l) = false := by simpa using hit
                      clear hT hit
                      go_wp2_with fail
                      refine qP.out.mono ?_
                      rintro e w1 ⟨rfl, rfl⟩
                      go_wp2_with fail
                      refine qB.out.mono ?_
                      rintro e w1 ⟨rfl, rfl⟩
                      go_wp2_with fail
                      refine qC.out.mono ?_
                      rintro e w1 ⟨rfl, rfl⟩
                      go_wp2_with fail
                      exact bodyPost_ret (v := retPC none) (by simp [results, Tryd.results11, go_sem, retPC]) rfl ⟨by rw [HE.out], rfl⟩
                  · have HE := Lib.hid (parseC_no HA.out HB.out HC3.out (fun x' y' h1 h2 _ h4 => by rw [HY.out] at h2; cases h2; exact absurd h4 hy))
                    have hxi : ¬ (65535 : Int) < (x : Int) := by omega
                    have hyi : (65535 : Int) < (y : Int) := by omega
                    clear QC
                    go_wp2_with fail
                    refine qP.out.mono ?_
                    rintro e w1 ⟨rfl, rfl⟩
                    go_wp2_with fail
                    refine qB.out.mono ?_
                    rintro e w1 ⟨rfl, rfl⟩
                    go_wp2_with fail
                    exact bodyPost_ret (v := retPC none) (by simp [results, Tryd.results11, go_sem, retPC]) rfl ⟨by rw [HE.out], rfl⟩
                · have HE := Lib.hid (parseC_no HA.out HB.out HC3.out (fun x' y' h1 h2 h3 _ => by rw [HX.out] at h1; cases h1; exact absurd h3 hx))
                  have hxi : (65535 : Int) < (x : Int) := by omega
                  clear QC
                  go_wp2_with fail
                  refine qP.out.mono ?_
                  rintro e w1 ⟨rfl, rfl⟩
                  go_wp2_with fail
                  refine qB.out.mono ?_
                  rintro e w1 ⟨rfl, rfl⟩
                  go_wp2_with fail
                  exact bodyPost_ret (v := retPC none) (by simp [results, Tryd.results11, go_sem, retPC]) rfl ⟨by rw [HE.out], rfl⟩
          · have hce : (((⟨l.toArray⟩ : ByteArray)[j].toNat : Int) != 58) = true := by
              rw [ba_at l j hb]
              have : ¬ (l.getD j 0).toNat = 58 := fun e => hc (UInt8.toNat_inj.1 (by rw [e]; rfl))
              simpa using (show ¬ ((l.getD j 0).toNat : Int) = 58 by omega)
            have HN := Lib.hid (hN.out.more (wd := 1) hc (fun k h1 h2 => by omega))
            clear hc hN QC QI
            go_wp2_with fail
            go_round
            case rel => exact ⟨j + 1, by omega, by go_num, HN⟩
            case measure => simp [intOf]; omega
        · obtain rfl : j = l.length := by omega
          have HE := Lib.hid (parseC_no HA.out HB.out HC3.out (fun x y h1 h2 _ _ => by rw [fcut_none hN.out, intSpec_none_len (.inl rfl)] at h1; cases h1))
          have he : ((l.length : Int) == (l.length : Int)) = true := by simp
          clear hN QC QI
          go_wp2_with fail
          exact bodyPost_ret (v := retPC none) (by simp [results, Tryd.results11, go_sem, retPC]) rfl ⟨by rw [HE.out], rfl⟩
end Go.Proofs.YtcjeifpdikojlaaDoor

/-
  P10.2: a version is pinned as often as it was, and goes, if it is not the head, when it is so no more: the walk.
-/
import Derived.Test.YtagfehfggkehmaaMoreI
import Derived.Test.YtagfehfggkehmaaAwake10
namespace Go.Proofs.Ytagfehfggkehmaa.VersionPins
set_option linter.unusedVariables false
open Go.RowKit

/-- The versions: 3, pinned p times, which is the head just if hd is so; else 4 is. -/
def VF (hd : Bool) (p : Int) : Int → Option (Int × Int) := fun j => if hd then (if j = 0 then some (3, p) else none) else if j = 1 then some (4, 0) else if j = 0 ∧ p ≠ 0 then some (3, p) else none
def VC (hd : Bool) (p : Int) : Nat := if hd then 1 else if p = 0 then 1 else 2
def VH (hd : Bool) : Int := if hd then 0 else 1
theorem vf_new : putF (fun _ => none) 0 ((3 : Int), (0 : Int)) = VF true 0 := by funext j; simp [putF, VF]
theorem vf_pin (p : Int) : putF (VF true p) 0 (3, p + 1) = VF true (p + 1) ∧ putC (VF true p) 0 1 = 1 := by
  refine ⟨by funext j; simp only [putF, VF]; split <;> simp_all, by simp [putC, VF]⟩
theorem vf_commit (p : Int) : dropF (putF (VF true p) 1 (4, 0)) 0 1 0 = VF false p ∧ dropC (putF (VF true p) 1 (4, 0)) 0 1 0 (putC (VF true p) 1 1) = VC false p := by
  have h1 : putF (VF true p) 1 ((4 : Int), (0 : Int)) 0 = some (3, p) := by simp [putF, VF]
  have h2 : putC (VF true p) 1 1 = 2 := by simp [putC, VF]
  rw [h2]
  have D := drop_is (putF (VF true p) 1 ((4 : Int), (0 : Int))) 0 1 0 2
  rw [h1] at D
  by_cases hp : p = 0
  · rw [(D.1 ⟨by decide, hp⟩).1, (D.1 ⟨by decide, hp⟩).2]
    subst hp
    refine ⟨?_, by simp [delC, h1, VC]⟩
    funext j
    by_cases h0 : j = 0
    · subst h0; rfl
    · by_cases h3 : j = 1 <;> simp [delF, putF, VF, h0, h3]
  · rw [(D.2 (fun h => hp h.2)).1, (D.2 (fun h => hp h.2)).2]
    refine ⟨?_, by simp [VC, hp]⟩
    funext j
    by_cases h0 : j = 0
    · subst h0; simp [putF, VF, hp]
    · by_cases h3 : j = 1 <;> simp [putF, VF, h0, h3]
theorem vf_zero (hd : Bool) (p : Int) (hp : p ≠ 0) : VF hd p 0 = some (3, p) := by cases hd <;> simp [VF, hp]
theorem vf_release (hd : Bool) (p : Int) (hp : 0 < p) : dropF (putF (VF hd p) 0 (3, p - 1)) 0 (VH hd) 0 = VF hd (p - 1) ∧ dropC (putF (VF hd p) 0 (3, p - 1)) 0 (VH hd) 0 (putC (VF hd p) 0 (VC hd p)) = VC hd (p - 1) := by
  have h1 : putF (VF hd p) 0 ((3 : Int), p - 1) 0 = some (3, p - 1) := by simp [putF]
  have h2 : putC (VF hd p) 0 (VC hd p) = VC hd p := by simp [putC, vf_zero hd p (by omega)]
  have hp0 : p ≠ 0 := by omega
  rw [h2]
  have D := drop_is (putF (VF hd p) 0 ((3 : Int), p - 1)) 0 (VH hd) 0 (VC hd p)
  rw [h1] at D
  by_cases hq : hd = false ∧ p - 1 = 0
  · obtain ⟨rfl, hq⟩ := hq
    rw [(D.1 ⟨by decide, hq⟩).1, (D.1 ⟨by decide, hq⟩).2, hq]
    refine ⟨?_, by simp [delC, putF, VC, hp0]⟩
    funext j
    by_cases h0 : j = 0
    · subst h0; rfl
    · by_cases h3 : j = 1 <;> simp [delF, putF, VF, h0, h3]
  · have hn : ¬ ((0 : Int) ≠ VH hd ∧ ((some ((3 : Int), p - 1)).getD (0, 0)).2 = 0) := by
      intro h
      cases hd
      · exact hq ⟨rfl, h.2⟩
      · exact h.1 rfl
    rw [(D.2 hn).1, (D.2 hn).2]
    cases hd with
    | true =>
      refine ⟨?_, by simp [VC]⟩
      funext j
      by_cases h0 : j = 0 <;> simp [putF, VF, h0]
    | false =>
      have hq' : p - 1 ≠ 0 := fun h => hq ⟨rfl, h⟩
      refine ⟨?_, by simp [VC, hp0, hq']⟩
      funext j
      by_cases h0 : j = 0
      · subst h0; simp [putF, VF, hq']
      · by_cases h3 : j = 1 <;> simp [putF, VF, h0, h3]

set_option maxRecDepth 100000 in
set_option maxHeartbeats 6400000 in
theorem walk (n : Int) (hd : Bool) (w : World) (hn : 0 ≤ n ∧ n ≤ 255) :
    Calls Try.prog 5 #[.int .u8 n, .bool hd] w fun e w' => e = .returned (.bool true) ∧ Below w.heap.size w w' := by
  obtain ⟨hn1, hn2⟩ := hn
  go_enter Try.func5, Try.ntmps5
  go_wp2_with fail
  refine (NewI 3 w).mono ?_
  rintro e w1 ⟨g, b, rfl, hg, hb, s1, bel1⟩
  rw [vf_new] at s1
  have HS1 := Lib.hid s1
  have HL := Lib.hid (And.intro hg (And.intro hb bel1))
  clear s1 hg hb bel1
  go_wp2_with fail
  have hm1 : 0 ≤ n % 20 := by omega
  have hm2 : n % 20 < 20 := by omega
  generalize n % 20 = M at hm1 hm2 ⊢
  obtain ⟨m, rfl⟩ := Int.eq_ofNat_of_zero_le hm1
  clear hm1
  go_loopw [7] (fun i wr => ∃ k : Nat, k ≤ m ∧ i = .int .i64 (k : Int) ∧ StI wr g b (1 + k) 0 (VF true (k : Int)) 1 ∧ Keep2 w1 wr g b) (fun i _ => m - (intOf i).toNat)
  case atStart => exact ⟨0, by omega, rfl, HS1.out, Keep2.refl _ _ _⟩
  case round =>
    obtain ⟨k, hk, rfl, hs, hkp⟩ := hrel
    have HS := Lib.hid hs; have HK := Lib.hid hkp
    clear hs hkp
    by_cases hlt : k < m
    · have h1 : (k : Int) < (m : Int) := by omega
      go_wp2_with fail
      refine (PinI HS.out 3 (k : Int) (by simp [VF]) (by omega) (by decide) (by omega)).mono ?_
      rintro e w2 ⟨rfl, s2, k2⟩
      rw [(vf_pin _).1, (vf_pin _).2] at s2
      have HS2 := Lib.hid s2; have HK2 := Lib.hid (HK.out.trans k2)
      clear s2 k2
      go_wp2_with fail
      go_roundw
      case rel => exact ⟨k + 1, by omega, by go_num, by have := HS2.out; simpa [Nat.add_assoc] using this, HK2.out⟩
      case measure => simp [intOf]; omega
    · obtain rfl : k = m := by omega
      clear hlt hk
      cases hd
      · go_wp2_with fail
        refine (CommitI HS.out 4 (by omega) (by decide)).mono ?_
        rintro e w2 ⟨rfl, s2, k2⟩
        rw [show ((0 : Int) + 1) = 1 from rfl] at s2
        rw [(vf_commit _).1, (vf_commit _).2] at s2
        have HS2 := Lib.hid (show StI w2 g b (1 + k + 1) (VH false) (VF false (k : Int)) (VC false (k : Int)) from s2); have HK2 := Lib.hid (HK.out.trans k2)
        clear s2 k2
        go_wp2_with fail
        go_loopw [8] (fun i wr => ∃ q : Nat, ∃ N : Nat, q ≤ k ∧ N + q ≤ 60 ∧ i = .int .i64 (q : Int) ∧ StI wr g b N (VH false) (VF false (q : Int)) (VC false (q : Int)) ∧ Keep2 w1 wr g b) (fun i _ => (intOf i).toNat)
        case atStart => exact ⟨k, (1 + k + 1), by omega, by omega, rfl, HS2.out, HK2.out⟩
        case round =>
          obtain ⟨q, N, hq, hN, rfl, hs, hkp⟩ := hrel
          have HT := Lib.hid hs; have HP := Lib.hid hkp
          clear hs hkp
          by_cases hz : 0 < q
          · have h1 : (0 : Int) < (q : Int) := by omega
            have hF : VF false (q : Int) 0 = some (3, (q : Int)) := vf_zero false q (by omega)
            have hpin := PinsI_of (getI HT.out 0 (by decide))
            rw [show (atI (VF false (q : Int)) 0).2 = (q : Int) by unfold atI; rw [hF]; rfl] at hpin
            have QP := Lib.hid hpin; have HF := Lib.hid hF
            clear hpin hF
            go_wp2_with fail
            refine QP.out.mono ?_
            rintro e w2 ⟨rfl, b2⟩
            have HT2 := Lib.hid (HT.out.below b2 HT.out.lt.1 HT.out.lt.2); have HP2 := Lib.hid (HP.out.trans (Keep2.of_below b2))
            clear b2
            go_wp2_with fail
            refine (ReleaseI HT2.out 0 3 (q : Int) HF.out (by omega) (by decide) (by omega)).mono ?_
            rintro e w3 ⟨rfl, s3, k3⟩
            rw [(vf_release false _ h1).1, (vf_release false _ h1).2] at s3
            have HT3 := Lib.hid s3; have HP3 := Lib.hid (HP2.out.trans k3)
            clear s3 k3
            go_wp2_with fail
            go_roundw
            case rel =>
              have e : ((q - 1 : Nat) : Int) = (q : Int) - 1 := by omega
              refine ⟨q - 1, N + 1, by omega, by omega, by rw [e], ?_, HP3.out⟩
              rw [e]
              exact HT3.out
            case measure => simp [intOf]; omega
          · obtain rfl : q = 0 := by omega
            have hat := AtI_of (getI HT.out 0 (by decide))
            have QA := Lib.hid hat
            clear hat hz
            go_wp2_with fail
            refine QA.out.mono ?_
            rintro e w2 ⟨rfl, b2⟩
            have HT2 := Lib.hid (HT.out.below b2 HT.out.lt.1 HT.out.lt.2); have HP2 := Lib.hid (HP.out.trans (Keep2.of_below b2))
            clear b2
            rw [show retAtI (atI (VF false ((0 : Nat) : Int)) 0) (VF false ((0 : Nat) : Int) 0).isSome = .tuple #[.int .i64 (atI (VF false ((0 : Nat) : Int)) 0).1, .bool false] from rfl]
            have hg2 := getI HT2.out 0 (by decide)
            have QR := Lib.hid (ReleaseNoI_of (x := (atI (VF false ((0 : Nat) : Int)) 0).1) (k := 0) (by
              rw [show atI (VF false ((0 : Nat) : Int)) 0 = ((atI (VF false ((0 : Nat) : Int)) 0).1, 0) from rfl] at hg2
              exact hg2))
            clear hg2
            go_wp2_with fail
            refine QR.out.mono ?_
            rintro e w3 ⟨rfl, b3⟩
            have HT3 := Lib.hid (HT2.out.below b3 HT2.out.lt.1 HT2.out.lt.2); have HP3 := Lib.hid (HP2.out.trans (Keep2.of_below b3))
            clear b3
            have hpin := PinsI_of (getI HT3.out 0 (by decide))
            rw [show (atI (VF false ((0 : Nat) : Int)) 0).2 = 0 from rfl] at hpin
            have QP := Lib.hid hpin
            clear hpin
            go_wp2_with fail
            refine QP.out.mono ?_
            rintro e w4 ⟨rfl, b4⟩
            have HT4 := Lib.hid (HT3.out.below b4 HT3.out.lt.1 HT3.out.lt.2); have HP4 := Lib.hid (HP3.out.trans (Keep2.of_below b4))
            clear b4
            have hl := LiveI HT4.out
            rw [show ((VC false ((0 : Nat) : Int) : Nat) : Int) = 1 from rfl] at hl
            have QL := Lib.hid hl
            clear hl
            go_wp2_with fail
            refine QL.out.mono ?_
            rintro e w5 ⟨rfl, rfl⟩
            go_wp2_with fail
            refine (awake_any _).mono ?_
            rintro e w6 ⟨rfl, b6⟩
            go_wp2_with fail
            go_ret
            exact ⟨rfl, HL.out.2.2.trans ((HP4.out.trans (Keep2.of_below b6)).below HL.out.1 HL.out.2.1 HL.out.2.2.size)⟩
      · have HS2 := Lib.hid (show StI wr g b (1 + k) (VH true) (VF true (k : Int)) (VC true (k : Int)) from HS.out)
        go_wp2_with fail
        go_loopw [8] (fun i wr => ∃ q : Nat, ∃ N : Nat, q ≤ k ∧ N + q ≤ 60 ∧ i = .int .i64 (q : Int) ∧ StI wr g b N (VH true) (VF true (q : Int)) (VC true (q : Int)) ∧ Keep2 w1 wr g b) (fun i _ => (intOf i).toNat)
        case atStart => exact ⟨k, (1 + k), by omega, by omega, rfl, HS2.out, HK.out⟩
        case round =>
          obtain ⟨q, N, hq, hN, rfl, hs, hkp⟩ := hrel
          have HT := Lib.hid hs; have HP := Lib.hid hkp
          clear hs hkp
          by_cases hz : 0 < q
          · have h1 : (0 : Int) < (q : Int) := by omega
            have hF : VF true (q : Int) 0 = some (3, (q : Int)) := vf_zero true q (by omega)
            have hpin := PinsI_of (getI HT.out 0 (by decide))
            rw [show (atI (VF true (q : Int)) 0).2 = (q : Int) by unfold atI; rw [hF]; rfl] at hpin
            have QP := Lib.hid hpin; have HF := Lib.hid hF
            clear hpin hF
            go_wp2_with fail
            refine QP.out.mono ?_
            rintro e w2 ⟨rfl, b2⟩
            have HT2 := Lib.hid (HT.out.below b2 HT.out.lt.1 HT.out.lt.2); have HP2 := Lib.hid (HP.out.trans (Keep2.of_below b2))
            clear b2
            go_wp2_with fail
            refine (ReleaseI HT2.out 0 3 (q : Int) HF.out (by omega) (by decide) (by omega)).mono ?_
            rintro e w3 ⟨rfl, s3, k3⟩
            rw [(vf_release true _ h1).1, (vf_release true _ h1).2] at s3
            have HT3 := Lib.hid s3; have HP3 := Lib.hid (HP2.out.trans k3)
            clear s3 k3
            go_wp2_with fail
            go_roundw
            case rel =>
              have e : ((q - 1 : Nat) : Int) = (q : Int) - 1 := by omega
              refine ⟨q - 1, N + 1, by omega, by omega, by rw [e], ?_, HP3.out⟩
              rw [e]
              exact HT3.out
            case measure => simp [intOf]; omega
          · obtain rfl : q = 0 := by omega
            have hat := AtI_of (getI HT.out 0 (by decide))
            have QA := Lib.hid hat
            clear hat hz
            go_wp2_with fail
            refine QA.out.mono ?_
            rintro e w2 ⟨rfl, b2⟩
            have HT2 := Lib.hid (HT.out.below b2 HT.out.lt.1 HT.out.lt.2); have HP2 := Lib.hid (HP.out.trans (Keep2.of_below b2))
            clear b2
            rw [show retAtI (atI (VF true ((0 : Nat) : Int)) 0) (VF true ((0 : Nat) : Int) 0).isSome = .tuple #[.int .i64 (atI (VF true ((0 : Nat) : Int)) 0).1, .bool true] from rfl]
            have hg2 := getI HT2.out 0 (by decide)
            have QR := Lib.hid (ReleaseNoI_of (x := (atI (VF true ((0 : Nat) : Int)) 0).1) (k := 0) (by
              rw [show atI (VF true ((0 : Nat) : Int)) 0 = ((atI (VF true ((0 : Nat) : Int)) 0).1, 0) from rfl] at hg2
              exact hg2))
            clear hg2
            go_wp2_with fail
            refine QR.out.mono ?_
            rintro e w3 ⟨rfl, b3⟩
            have HT3 := Lib.hid (HT2.out.below b3 HT2.out.lt.1 HT2.out.lt.2); have HP3 := Lib.hid (HP2.out.trans (Keep2.of_below b3))
            clear b3
            have hpin := PinsI_of (getI HT3.out 0 (by decide))
            rw [show (atI (VF true ((0 : Nat) : Int)) 0).2 = 0 from rfl] at hpin
            have QP := Lib.hid hpin
            clear hpin
            go_wp2_with fail
            refine QP.out.mono ?_
            rintro e w4 ⟨rfl, b4⟩
            have HT4 := Lib.hid (HT3.out.below b4 HT3.out.lt.1 HT3.out.lt.2); have HP4 := Lib.hid (HP3.out.trans (Keep2.of_below b4))
            clear b4
            have hl := LiveI HT4.out
            rw [show ((VC true ((0 : Nat) : Int) : Nat) : Int) = 1 from rfl] at hl
            have QL := Lib.hid hl
            clear hl
            go_wp2_with fail
            refine QL.out.mono ?_
            rintro e w5 ⟨rfl, rfl⟩
            go_wp2_with fail
            refine (awake_any _).mono ?_
            rintro e w6 ⟨rfl, b6⟩
            go_wp2_with fail
            go_ret
            exact ⟨rfl, HL.out.2.2.trans ((HP4.out.trans (Keep2.of_below b6)).below HL.out.1 HL.out.2.1 HL.out.2.2.size)⟩
end Go.Proofs.Ytagfehfggkehmaa.VersionPins

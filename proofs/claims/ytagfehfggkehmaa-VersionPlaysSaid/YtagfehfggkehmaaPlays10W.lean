/-
  P10.1, P10.2: what a store of versions tells of any calls, and which versions are live behind each, is what the document answers: the walk.
-/
import Derived.Test.YtagfehfggkehmaaMoreI
import Derived.Test.YtagfehfggkehmaaAwake10
import Derived.Test.YtagfehfggkehmaaRefW10
import Derived.Test.YtagfehfggkehmaaActs10
import Derived.Deep.RegionHeld3
namespace Go.Proofs.Ytagfehfggkehmaa.VersionPlays
set_option linter.unusedVariables false
open Go.RowKit

theorem at_ref (A P : List Int) (k : Int) : retAtI (atI (RF A P) k) (RF A P k).isSome = refAt A P k := by
  unfold retAtI atI refAt RF
  by_cases h : isL A P k
  · simp [h]
  · simp [h]

theorem rel_no (A P : List Int) (k : Int) (h : ¬ (0 ≤ k ∧ k < (A.length : Int)) ∨ nth P k = 0) : ∃ x, atI (RF A P) k = (x, 0) := by
  unfold atI RF
  by_cases hi : isL A P k
  · rw [if_pos hi]
    rcases h with h | h
    · exact absurd ⟨hi.1, hi.2.1⟩ h
    · exact ⟨_, by rw [h]; rfl⟩
  · rw [if_neg hi]; exact ⟨0, rfl⟩

/-- Where the loop stands: i deeds are done; the versions are A, pinned as often as P says. -/
def Rel (l : List (Nat × Int)) (w : World) (g b sb B : Nat) (i : Value) (wr : World) : Prop :=
  ∃ (k : Nat) (A P : List Int) (N : Nat) (v1 v2 : Value), k ≤ l.length ∧ k ≤ 100 ∧ i = .int .i64 (k : Int) ∧ A.length ≤ k + 1 ∧ N ≤ 2 * k + 1 ∧ (∀ x ∈ P, 0 ≤ x ∧ x ≤ (k : Int)) ∧
    StI wr g b N ((A.length : Int) - 1) (RF A P) (RC A P) ∧ RSt wr B sb v1 v2 A P ∧ Below w.heap.size w wr

set_option maxRecDepth 100000 in
set_option maxHeartbeats 12800000 in
theorem walk (A0 : Option Addr) (cap : Nat) (l : List (Nat × Int)) (kk : Int) (w : World) (hc : l.length ≤ cap) (hm : cap ≤ maxLen) (hin : ActsIn w A0 l) (hok : ∀ s ∈ l, ActOk s) (hkk : (Lit.int .i64 kk).wf = true) :
    Calls Try.prog 3 #[.slice A0 l.length cap, .int .i64 kk] w fun e w' => e = .returned (.bool true) ∧ Below w.heap.size w w' := by
  have HC := Lib.hid hc; have HM := Lib.hid hm; have HIN := Lib.hid hin; have HOK := Lib.hid hok; have HKK := Lib.hid hkk
  clear hc hm hin hok hkk
  go_enter Try.func3, Try.ntmps3
  go_wp2_with fail
  refine (NewI 5 w).mono ?_
  rintro e w1 ⟨g, b, rfl, hg, hb, s1, bel1⟩
  rw [rf_new] at s1
  have HS1 := Lib.hid s1
  have HL := Lib.hid (And.intro hg (And.intro hb bel1))
  clear s1 hg hb bel1
  go_wp2_with fail
  refine (RefNew10 5 w1).mono ?_
  rintro e w2 ⟨sb, v1, v2, rfl, s2, bel2⟩
  have HS2 := Lib.hid (show StI w2 g b 1 (([5] : List Int).length - 1 : Int) (RF [5] [0]) (RC [5] [0]) from HS1.out.below bel2 HS1.out.lt.1 HS1.out.lt.2)
  have HR2 := Lib.hid s2
  have HB2 := Lib.hid (HL.out.2.2.trans (bel2.mono HL.out.2.2.size))
  have HGB := Lib.hid (show g < w1.heap.size ∧ b < w1.heap.size from HS1.out.lt)
  clear s2 bel2
  go_wp2_with fail
  go_loopw [7] (fun i wr => Rel l w g b sb w1.heap.size i wr) (fun i _ => l.length - (intOf i).toNat)
  case atStart => exact ⟨0, [5], [0], 1, v1, v2, by omega, by omega, rfl, by simp, by omega, by simp, HS2.out, HR2.out, HB2.out⟩
  case round =>
    obtain ⟨k, A, P, N, v1, v2, hk1, hk2, rfl, hA, hN, hP, hs, hr, hbw⟩ := hrel
    have HS := Lib.hid hs; have HR := Lib.hid hr; have HBW := Lib.hid hbw; have HP := Lib.hid hP
    clear hs hr hbw hP
    by_cases hlt : k < l.length ∧ k < 100
    · obtain ⟨hlt1, hlt2⟩ := hlt
      have h1 : (k : Int) < (l.length : Int) := by omega
      have h2 : (k : Int) < 100 := by omega
      obtain ⟨y, hy⟩ : ∃ y, l[k]? = some y := ⟨_, List.getElem?_eq_getElem hlt1⟩
      have hoky := HOK.out y (List.mem_of_getElem? hy)
      obtain ⟨kd, nm⟩ := y
      have hkd : kd < 256 := hoky.1
      have HWN := Lib.hid (show (Lit.int .i64 nm).wf = true from WalkArith.wf_i64 hoky.2)
      obtain ⟨ba, oa, rfl, hlt3, hca0, hcb0⟩ := HIN.out.cell hy
      dsimp only at hca0 hcb0
      have HCELL := Lib.hid (show ∀ W, Below w.heap.size w W → W.cell? ⟨ba, oa + k * 2, none⟩ = some (.int .u8 (kd : Int)) ∧ W.cell? ⟨ba, oa + k * 2 + 1, none⟩ = some (.int .i64 nm) from
        fun W hb => ⟨(hb.cell (p := ⟨ba, oa + k * 2, none⟩) hlt3).trans hca0, (hb.cell (p := ⟨ba, oa + k * 2 + 1, none⟩) hlt3).trans hcb0⟩)
      obtain ⟨hca, hcb⟩ := HCELL.out wr HBW.out
      clear hoky hy hca0 hcb0
      by_cases hk0 : (kd : Int) % 3 = 0
      · have h3 : ((kd : Int) % 3 == 0) = true := by simpa using hk0
        have hbc : Below w.heap.size w wr.drew := HBW.out.drew
        have HSD := Lib.hid HS.out.drew
        have HRD := Lib.hid (HR.out.below (Below.refl _ wr).drew)
        have hcI := CommitI HSD.out nm (by omega) (by have := HR.out.pos; omega)
        rw [(rf_commit HR.out.len HR.out.pos nm).1, (rf_commit HR.out.len HR.out.pos nm).2, show (A.length : Int) - 1 + 1 = (A.length : Int) by omega] at hcI
        have QC1 := Lib.hid hcI
        clear hcI
        go_wp2_with fail
        go_region_held3 (fun w' => w'.cell? ⟨ba, oa + k * 2 + 1, none⟩ = some (.int .i64 nm)) (exact (HCELL.out _ hbc).2) ((first
          | (go_at_call 9; refine (QC1.out).mono ?_; rintro e wx ⟨rfl, s3, k3⟩; have HSX := Lib.hid s3; have HRX := Lib.hid (HRD.out.high k3.size (fun q hq hlt => k3.block q hlt (by have := HGB.out; omega) (by have := HGB.out; omega))); replace hbc := hbc.trans (k3.below HL.out.1 HL.out.2.1 hbc.size); clear s3 k3)
          | (go_at_call 10; refine (RefCommit10 HRX.out nm (by omega)).mono ?_; rintro e wy ⟨rfl, v3, v4, s4, b4⟩; have HSY := Lib.hid (HSX.out.below b4 HGB.out.1 HGB.out.2); have HRY := Lib.hid s4; replace hbc := hbc.trans (b4.mono HL.out.2.2.size); clear s4 b4)))
        go_wp2_with fail
        obtain ⟨A2, hA2⟩ : ∃ A2, A2 = A ++ [nm] := ⟨_, rfl⟩
        obtain ⟨P2, hP2⟩ : ∃ P2, P2 = P ++ [0] := ⟨_, rfl⟩
        have HS2 := Lib.hid (show StI wy g b (N + 1) ((A2.length : Int) - 1) (RF A2 P2) (RC A2 P2) by
          rw [hA2, hP2, show (((A ++ [nm]).length : Nat) : Int) - 1 = (A.length : Int) by simp]
          exact HSY.out)
        have HR2 := HRY
        rw [← hA2, ← hP2] at HR2
        have HB2 := Lib.hid hbc
        have HA2 := Lib.hid (show A2.length ≤ k + 1 + 1 by rw [hA2]; simp; omega)
        have HP2 := Lib.hid (show ∀ x ∈ P2, 0 ≤ x ∧ x ≤ ((k + 1 : Nat) : Int) from fun x hx => by
          rw [hP2] at hx
          rcases List.mem_append.1 hx with hx | hx
          · have := HP.out x hx; omega
          · have e : x = 0 := by simpa using hx
            omega)
        clear hA2 hP2
        have hpos := HR2.out.pos
        obtain ⟨a1, o1, c1, a2, o2, c2, rfl, rfl, hc1, hm1, hc2, hm2, h1a, h2a, l1, l2⟩ := HR2.out.form
        have QAT := Lib.hid (AtI_of (getI HS2.out nm HWN.out))
        have HAT := Lib.hid (at_ref A2 P2 nm)
        obtain ⟨X, hX⟩ : ∃ X, X = if isL A2 P2 nm then nth A2 nm else 0 := ⟨_, rfl⟩
        obtain ⟨Y, hY⟩ : ∃ Y, Y = decide (isL A2 P2 nm) := ⟨_, rfl⟩
        have HREF := Lib.hid (show refAt A2 P2 nm = .tuple #[.int .i64 X, .bool Y] by unfold refAt; rw [hX, hY])
        obtain ⟨n, hn⟩ : ∃ n, n = A2.length := ⟨_, rfl⟩
        obtain ⟨m, hm⟩ : ∃ m, n = m + 1 := ⟨n - 1, by omega⟩
        obtain ⟨V, hV⟩ : ∃ V, V = A2.getD m 0 := ⟨_, rfl⟩
        have hcv := h1a m (by omega)
        rw [← hV] at hcv
        have HVV := Lib.hid (show nth A2 ((A2.length : Int) - 1) = V by rw [← hn, show (n : Int) - 1 = (m : Int) by omega, nth_nat, hV])
        have HCV := Lib.hid hcv
        have HD1 := Lib.hid l1
        have HMN := Lib.hid (And.intro hn hm)
        have hn1 : (1 : Int) ≤ (n : Int) := by omega
        have hnm : (n : Int) ≤ 9223372036854775807 := by have := HA2.out; omega
        have hm9 : (m : Int) < (n : Int) := by omega
        have eN' : (n : Int) - 1 = (m : Int) := by omega
        have hmm2 : (m : Int) ≤ 1000000 := by have := HA2.out; omega
        clear hX hY hn hm hV hcv h1a h2a l1 l2 hc1 hm1 hc2 hm2 hpos
        refine QAT.out.mono ?_
        rintro e w5 ⟨rfl, b5⟩
        rw [HAT.out, HREF.out]
        have HS5 := Lib.hid (HS2.out.below b5 HS2.out.lt.1 HS2.out.lt.2)
        have HR5 := Lib.hid (HR2.out.below b5)
        have HB5 := Lib.hid (HB2.out.trans (b5.mono HB2.out.size))
        have HX5 := Lib.hid b5
        have cB : w5.cell? ⟨ba, oa + k * 2 + 1, none⟩ = some (.int .i64 nm) := (HCELL.out w5 HB5.out).2
        have QRA := Lib.hid (RefAt10 HR5.out nm)
        have QH := Lib.hid (HeadI HS5.out (nth A2 ((A2.length : Int) - 1)) (nth P2 ((A2.length : Int) - 1)) (rf_head HR5.out.len HR5.out.pos) (by have := HMN.out; omega))
        rw [HVV.out, ← HMN.out.1, eN'] at QH
        clear b5
        go_wp2_with fail
        refine QRA.out.mono ?_
        rintro e w6 ⟨rfl, rfl⟩
        rw [HREF.out]
        go_wp2_with fail
        refine QH.out.mono ?_
        rintro e w7 ⟨rfl, b7⟩
        have HS7 := Lib.hid (HS5.out.below b7 HS5.out.lt.1 HS5.out.lt.2)
        have HR7 := Lib.hid (HR5.out.below b7)
        have HB7 := Lib.hid (HB5.out.trans (b7.mono HB5.out.size))
        have HX7 := Lib.hid (HX5.out.trans (b7.mono HX5.out.size))
        have z1 : w7.cell? ⟨sb, 0, none⟩ = some (.slice (some ⟨a1, o1, none⟩) n c1) := by rw [HMN.out.1]; exact HR7.out.blk.cell 0
        have z2 : w7.cell? ⟨a1, o1 + m, none⟩ = some (.int .i64 V) := (HX7.out.cell (p := ⟨a1, o1 + m, none⟩) HD1.out).trans HCV.out
        have QL1 := Lib.hid (LiveI HS7.out)
        have QL2 := Lib.hid (RefLive10 HR7.out)
        obtain ⟨C, hC⟩ : ∃ C, C = RC A2 P2 := ⟨_, rfl⟩
        rw [← hC] at QL1 QL2
        clear b7 cB hC
        go_wp2_with (first
          | (go_at_call 18; refine QL1.out.mono ?_; rintro e wx ⟨rfl, rfl⟩)
          | (go_at_call 19; refine QL2.out.mono ?_; rintro e wx ⟨rfl, rfl⟩))
        go_roundw
        case rel => exact ⟨k + 1, A2, P2, (N + 1), _, _, by omega, by omega, by go_num, HA2.out, by omega, HP2.out, HS7.out, HR7.out, HB7.out⟩
        case measure => simp [intOf]; omega
      · by_cases hk3 : (kd : Int) % 3 = 1
        · have h3 : ((kd : Int) % 3 == 0) = false := by simpa using hk0
          have h4 : ((kd : Int) % 3 == 1) = true := by simpa using hk3
          have hpos := HR.out.pos
          have hlen := HR.out.len
          have hpb : 0 ≤ nth P ((A.length : Int) - 1) ∧ nth P ((A.length : Int) - 1) ≤ (k : Int) := by
            have e : nth P ((A.length : Int) - 1) = P[A.length - 1]'(by omega) := by
              rw [show (A.length : Int) - 1 = ((A.length - 1 : Nat) : Int) by omega, nth_nat]
              simp [List.getD, show A.length - 1 < P.length by omega]
            rw [e]
            exact HP.out _ (List.getElem_mem _)
          have hp1 := PinI HS.out _ _ (rf_head hlen hpos) (by omega) (by omega) (by omega)
          rw [(rf_pin hlen hpos hpb.1).1, (rf_pin hlen hpos hpb.1).2] at hp1
          obtain ⟨H, hH⟩ : ∃ H, H = (A.length : Int) - 1 := ⟨_, rfl⟩
          obtain ⟨P2, hP2⟩ : ∃ P2, P2 = P.set (A.length - 1) (nth P ((A.length : Int) - 1) + 1) := ⟨_, rfl⟩
          rw [← hP2, ← hH] at hp1
          have QP1 := Lib.hid hp1
          have HHH := Lib.hid hH
          have HP2 := Lib.hid (show ∀ x ∈ P2, 0 ≤ x ∧ x ≤ ((k + 1 : Nat) : Int) from fun x hx => by
            rw [hP2] at hx
            rcases List.mem_or_eq_of_mem_set hx with hx | hx
            · have := HP.out x hx; omega
            · omega)
          have QP2 := Lib.hid (fun W (s : RSt W w1.heap.size sb v1 v2 A P) => by
            have h := RefPin10 s (by omega)
            rw [← hP2, ← hH] at h
            exact h)
          clear hp1 hH hP2 hpos hlen hpb
          go_wp2_with fail
          refine QP1.out.mono ?_
          rintro e wx ⟨rfl, s3, k3⟩
          have HRX := Lib.hid (HR.out.high k3.size (fun q hq hlt => k3.block q hlt (by have := HGB.out; omega) (by have := HGB.out; omega)))
          have HSX := Lib.hid s3
          have hbc := HBW.out.trans (k3.below HL.out.1 HL.out.2.1 HBW.out.size)
          have cX := HCELL.out wx hbc
          have HBX := Lib.hid hbc
          clear s3 k3 hbc
          go_wp2_with fail
          refine (QP2.out wx HRX.out).mono ?_
          rintro e wy ⟨rfl, s4, b4⟩
          have HS2 := Lib.hid (HSX.out.below b4 HGB.out.1 HGB.out.2)
          rw [HHH.out] at HS2
          have HR2 := Lib.hid s4
          have HB2 := Lib.hid (HBX.out.trans (b4.mono HL.out.2.2.size))
          have HA2 := Lib.hid (show A.length ≤ k + 1 + 1 by omega)
          obtain ⟨cX1, cX2⟩ := HCELL.out wy HB2.out
          clear s4 b4 cX hcb hca
          go_wp2_with fail
          have hpos := HR2.out.pos
          obtain ⟨a1, o1, c1, a2, o2, c2, rfl, rfl, hc1, hm1, hc2, hm2, h1a, h2a, l1, l2⟩ := HR2.out.form
          have QAT := Lib.hid (AtI_of (getI HS2.out nm HWN.out))
          have HAT := Lib.hid (at_ref A P2 nm)
          obtain ⟨X, hX⟩ : ∃ X, X = if isL A P2 nm then nth A nm else 0 := ⟨_, rfl⟩
          obtain ⟨Y, hY⟩ : ∃ Y, Y = decide (isL A P2 nm) := ⟨_, rfl⟩
          have HREF := Lib.hid (show refAt A P2 nm = .tuple #[.int .i64 X, .bool Y] by unfold refAt; rw [hX, hY])
          obtain ⟨n, hn⟩ : ∃ n, n = A.length := ⟨_, rfl⟩
          obtain ⟨m, hm⟩ : ∃ m, n = m + 1 := ⟨n - 1, by omega⟩
          obtain ⟨V, hV⟩ : ∃ V, V = A.getD m 0 := ⟨_, rfl⟩
          have hcv := h1a m (by omega)
          rw [← hV] at hcv
          have HVV := Lib.hid (show nth A ((A.length : Int) - 1) = V by rw [← hn, show (n : Int) - 1 = (m : Int) by omega, nth_nat, hV])
          have HCV := Lib.hid hcv
          have HD1 := Lib.hid l1
          have HMN := Lib.hid (And.intro hn hm)
          have hn1 : (1 : Int) ≤ (n : Int) := by omega
          have hnm : (n : Int) ≤ 9223372036854775807 := by have := HA2.out; omega
          have hm9 : (m : Int) < (n : Int) := by omega
          have eN' : (n : Int) - 1 = (m : Int) := by omega
          have hmm2 : (m : Int) ≤ 1000000 := by have := HA2.out; omega
          clear hX hY hn hm hV hcv h1a h2a l1 l2 hc1 hm1 hc2 hm2 hpos
          refine QAT.out.mono ?_
          rintro e w5 ⟨rfl, b5⟩
          rw [HAT.out, HREF.out]
          have HS5 := Lib.hid (HS2.out.below b5 HS2.out.lt.1 HS2.out.lt.2)
          have HR5 := Lib.hid (HR2.out.below b5)
          have HB5 := Lib.hid (HB2.out.trans (b5.mono HB2.out.size))
          have HX5 := Lib.hid b5
          have cB : w5.cell? ⟨ba, oa + k * 2 + 1, none⟩ = some (.int .i64 nm) := (HCELL.out w5 HB5.out).2
          have QRA := Lib.hid (RefAt10 HR5.out nm)
          have QH := Lib.hid (HeadI HS5.out (nth A ((A.length : Int) - 1)) (nth P2 ((A.length : Int) - 1)) (rf_head HR5.out.len HR5.out.pos) (by have := HMN.out; omega))
          rw [HVV.out, ← HMN.out.1, eN'] at QH
          clear b5
          go_wp2_with fail
          refine QRA.out.mono ?_
          rintro e w6 ⟨rfl, rfl⟩
          rw [HREF.out]
          go_wp2_with fail
          refine QH.out.mono ?_
          rintro e w7 ⟨rfl, b7⟩
          have HS7 := Lib.hid (HS5.out.below b7 HS5.out.lt.1 HS5.out.lt.2)
          have HR7 := Lib.hid (HR5.out.below b7)
          have HB7 := Lib.hid (HB5.out.trans (b7.mono HB5.out.size))
          have HX7 := Lib.hid (HX5.out.trans (b7.mono HX5.out.size))
          have z1 : w7.cell? ⟨sb, 0, none⟩ = some (.slice (some ⟨a1, o1, none⟩) n c1) := by rw [HMN.out.1]; exact HR7.out.blk.cell 0
          have z2 : w7.cell? ⟨a1, o1 + m, none⟩ = some (.int .i64 V) := (HX7.out.cell (p := ⟨a1, o1 + m, none⟩) HD1.out).trans HCV.out
          have QL1 := Lib.hid (LiveI HS7.out)
          have QL2 := Lib.hid (RefLive10 HR7.out)
          obtain ⟨C, hC⟩ : ∃ C, C = RC A P2 := ⟨_, rfl⟩
          rw [← hC] at QL1 QL2
          clear b7 cB hC
          go_wp2_with (first
            | (go_at_call 18; refine QL1.out.mono ?_; rintro e wx ⟨rfl, rfl⟩)
            | (go_at_call 19; refine QL2.out.mono ?_; rintro e wx ⟨rfl, rfl⟩))
          go_roundw
          case rel => exact ⟨k + 1, A, P2, (N + 1), _, _, by omega, by omega, by go_num, HA2.out, by omega, HP2.out, HS7.out, HR7.out, HB7.out⟩
          case measure => simp [intOf]; omega
        · by_cases hq : ∃ j : Nat, nm = (j : Int) ∧ j < A.length ∧ P.getD j 0 ≠ 0
          · obtain ⟨j, rfl, hj, hz⟩ := hq
            have h3 : ((kd : Int) % 3 == 0) = false := by simpa using hk0
            have h4 : ((kd : Int) % 3 == 1) = false := by simpa using hk3
            have hbc : Below w.heap.size w wr.drew := HBW.out.drew
            have HSD := Lib.hid HS.out.drew
            have HRD := Lib.hid (HR.out.below (Below.refl _ wr).drew)
            have hjp : 0 < P.getD j 0 ∧ P.getD j 0 ≤ (k : Int) := by
              have e : P.getD j 0 = P[j]'(by have := HR.out.len; omega) := by
                simp [List.getD, show j < P.length by have := HR.out.len; omega]
              have := HP.out _ (List.getElem_mem (l := P) (n := j) (by have := HR.out.len; omega))
              rw [← e] at this
              omega
            have hcI := ReleaseI HSD.out (j : Int) _ _ (rf_some HR.out.len hj hz) (by omega) HWN.out (by omega)
            rw [(rf_release HR.out.len hj hjp.1).1, (rf_release HR.out.len hj hjp.1).2] at hcI
            have QC1 := Lib.hid hcI
            have HJ := Lib.hid (show j < A.length ∧ 0 < P.getD j 0 ∧ P.getD j 0 ≤ 1000000 from ⟨hj, hjp.1, by omega⟩)
            have HJK := Lib.hid hjp.2
            clear hcI hjp hj hz
            go_wp2_with fail
            go_region_held3 (fun w' => w'.cell? ⟨ba, oa + k * 2 + 1, none⟩ = some (.int .i64 (j : Int))) (exact (HCELL.out _ hbc).2) ((first
              | (go_at_call 13; refine (QC1.out).mono ?_; rintro e wx ⟨rfl, s3, k3⟩; have HSX := Lib.hid s3; have HRX := Lib.hid (HRD.out.high k3.size (fun q hq hlt => k3.block q hlt (by have := HGB.out; omega) (by have := HGB.out; omega))); replace hbc := hbc.trans (k3.below HL.out.1 HL.out.2.1 hbc.size); clear s3 k3)
              | (go_at_call 14; refine (RefRel10 HRX.out j HJ.out.1 HJ.out.2).mono ?_; rintro e wy ⟨rfl, s4, b4⟩; have HSY := Lib.hid (HSX.out.below b4 HGB.out.1 HGB.out.2); have HRY := Lib.hid s4; replace hbc := hbc.trans (b4.mono HL.out.2.2.size); clear s4 b4)))
            go_wp2_with fail
            obtain ⟨P2, hP2⟩ : ∃ P2, P2 = P.set j (P.getD j 0 - 1) := ⟨_, rfl⟩
            have HS2 := HSY
            have HR2 := HRY
            rw [← hP2] at HS2 HR2
            have HB2 := Lib.hid hbc
            have HA2 := Lib.hid (show A.length ≤ k + 1 + 1 by omega)
            have HP2 := Lib.hid (show ∀ x ∈ P2, 0 ≤ x ∧ x ≤ ((k + 1 : Nat) : Int) from fun x hx => by
              rw [hP2] at hx
              rcases List.mem_or_eq_of_mem_set hx with hx | hx
              · have := HP.out x hx; omega
              · have := HJ.out; have := HJK.out; omega)
            clear hP2
            have hpos := HR2.out.pos
            obtain ⟨a1, o1, c1, a2, o2, c2, rfl, rfl, hc1, hm1, hc2, hm2, h1a, h2a, l1, l2⟩ := HR2.out.form
            have QAT := Lib.hid (AtI_of (getI HS2.out (j : Int) HWN.out))
            have HAT := Lib.hid (at_ref A P2 (j : Int))
            obtain ⟨X, hX⟩ : ∃ X, X = if isL A P2 (j : Int) then nth A (j : Int) else 0 := ⟨_, rfl⟩
            obtain ⟨Y, hY⟩ : ∃ Y, Y = decide (isL A P2 (j : Int)) := ⟨_, rfl⟩
            have HREF := Lib.hid (show refAt A P2 (j : Int) = .tuple #[.int .i64 X, .bool Y] by unfold refAt; rw [hX, hY])
            obtain ⟨n, hn⟩ : ∃ n, n = A.length := ⟨_, rfl⟩
            obtain ⟨m, hm⟩ : ∃ m, n = m + 1 := ⟨n - 1, by omega⟩
            obtain ⟨V, hV⟩ : ∃ V, V = A.getD m 0 := ⟨_, rfl⟩
            have hcv := h1a m (by omega)
            rw [← hV] at hcv
            have HVV := Lib.hid (show nth A ((A.length : Int) - 1) = V by rw [← hn, show (n : Int) - 1 = (m : Int) by omega, nth_nat, hV])
            have HCV := Lib.hid hcv
            have HD1 := Lib.hid l1
            have HMN := Lib.hid (And.intro hn hm)
            have hn1 : (1 : Int) ≤ (n : Int) := by omega
            have hnm : (n : Int) ≤ 9223372036854775807 := by have := HA2.out; omega
            have hm9 : (m : Int) < (n : Int) := by omega
            have eN' : (n : Int) - 1 = (m : Int) := by omega
            have hmm2 : (m : Int) ≤ 1000000 := by have := HA2.out; omega
            clear hX hY hn hm hV hcv h1a h2a l1 l2 hc1 hm1 hc2 hm2 hpos
            refine QAT.out.mono ?_
            rintro e w5 ⟨rfl, b5⟩
            rw [HAT.out, HREF.out]
            have HS5 := Lib.hid (HS2.out.below b5 HS2.out.lt.1 HS2.out.lt.2)
            have HR5 := Lib.hid (HR2.out.below b5)
            have HB5 := Lib.hid (HB2.out.trans (b5.mono HB2.out.size))
            have HX5 := Lib.hid b5
            have cB : w5.cell? ⟨ba, oa + k * 2 + 1, none⟩ = some (.int .i64 (j : Int)) := (HCELL.out w5 HB5.out).2
            have QRA := Lib.hid (RefAt10 HR5.out (j : Int))
            have QH := Lib.hid (HeadI HS5.out (nth A ((A.length : Int) - 1)) (nth P2 ((A.length : Int) - 1)) (rf_head HR5.out.len HR5.out.pos) (by have := HMN.out; omega))
            rw [HVV.out, ← HMN.out.1, eN'] at QH
            clear b5
            go_wp2_with fail
            refine QRA.out.mono ?_
            rintro e w6 ⟨rfl, rfl⟩
            rw [HREF.out]
            go_wp2_with fail
            refine QH.out.mono ?_
            rintro e w7 ⟨rfl, b7⟩
            have HS7 := Lib.hid (HS5.out.below b7 HS5.out.lt.1 HS5.out.lt.2)
            have HR7 := Lib.hid (HR5.out.below b7)
            have HB7 := Lib.hid (HB5.out.trans (b7.mono HB5.out.size))
            have HX7 := Lib.hid (HX5.out.trans (b7.mono HX5.out.size))
            have z1 : w7.cell? ⟨sb, 0, none⟩ = some (.slice (some ⟨a1, o1, none⟩) n c1) := by rw [HMN.out.1]; exact HR7.out.blk.cell 0
            have z2 : w7.cell? ⟨a1, o1 + m, none⟩ = some (.int .i64 V) := (HX7.out.cell (p := ⟨a1, o1 + m, none⟩) HD1.out).trans HCV.out
            have QL1 := Lib.hid (LiveI HS7.out)
            have QL2 := Lib.hid (RefLive10 HR7.out)
            obtain ⟨C, hC⟩ : ∃ C, C = RC A P2 := ⟨_, rfl⟩
            rw [← hC] at QL1 QL2
            clear b7 cB hC
            go_wp2_with (first
              | (go_at_call 18; refine QL1.out.mono ?_; rintro e wx ⟨rfl, rfl⟩)
              | (go_at_call 19; refine QL2.out.mono ?_; rintro e wx ⟨rfl, rfl⟩))
            go_roundw
            case rel => exact ⟨k + 1, A, P2, (N + 1), _, _, by omega, by omega, by go_num, HA2.out, by omega, HP2.out, HS7.out, HR7.out, HB7.out⟩
            case measure => simp [intOf]; omega
          · have hno : ¬ (0 ≤ nm ∧ nm < (A.length : Int)) ∨ nth P nm = 0 := by
              by_cases h5 : 0 ≤ nm ∧ nm < (A.length : Int)
              · obtain ⟨j, rfl⟩ := Int.eq_ofNat_of_zero_le h5.1
                refine .inr (Classical.byContradiction fun h6 => hq ⟨j, rfl, by omega, ?_⟩)
                rwa [nth_nat] at h6
              · exact .inl h5
            clear hq
            have h3 : ((kd : Int) % 3 == 0) = false := by simpa using hk0
            have h4 : ((kd : Int) % 3 == 1) = false := by simpa using hk3
            have hbc : Below w.heap.size w wr.drew := HBW.out.drew
            have HSD := Lib.hid HS.out.drew
            have HRD := Lib.hid (HR.out.below (Below.refl _ wr).drew)
            obtain ⟨x, hx⟩ := rel_no A P nm hno
            have hget := getI HSD.out nm HWN.out
            rw [hx] at hget
            have QC1 := Lib.hid (ReleaseNoI_of hget)
            have HNO := Lib.hid hno
            clear hget hno hx
            go_wp2_with fail
            go_region_held3 (fun w' => w'.cell? ⟨ba, oa + k * 2 + 1, none⟩ = some (.int .i64 nm)) (exact (HCELL.out _ hbc).2) ((first
              | (go_at_call 13; refine (QC1.out).mono ?_; rintro e wx ⟨rfl, b3⟩; have HSX := Lib.hid (HSD.out.below b3 HSD.out.lt.1 HSD.out.lt.2); have HRX := Lib.hid (HRD.out.below b3); replace hbc := hbc.trans (b3.mono hbc.size); clear b3)
              | (go_at_call 14; refine (RefRelNo10 HRX.out nm HNO.out).mono ?_; rintro e wy ⟨rfl, rfl⟩)))
            go_wp2_with fail
            have HS2 := HSX
            have HR2 := HRX
            have HB2 := Lib.hid hbc
            have HA2 := Lib.hid (show A.length ≤ k + 1 + 1 by omega)
            have HP2 := Lib.hid (show ∀ x ∈ P, 0 ≤ x ∧ x ≤ ((k + 1 : Nat) : Int) from fun x hx => by have := HP.out x hx; omega)
            have hpos := HR2.out.pos
            obtain ⟨a1, o1, c1, a2, o2, c2, rfl, rfl, hc1, hm1, hc2, hm2, h1a, h2a, l1, l2⟩ := HR2.out.form
            have QAT := Lib.hid (AtI_of (getI HS2.out nm HWN.out))
            have HAT := Lib.hid (at_ref A P nm)
            obtain ⟨X, hX⟩ : ∃ X, X = if isL A P nm then nth A nm else 0 := ⟨_, rfl⟩
            obtain ⟨Y, hY⟩ : ∃ Y, Y = decide (isL A P nm) := ⟨_, rfl⟩
            have HREF := Lib.hid (show refAt A P nm = .tuple #[.int .i64 X, .bool Y] by unfold refAt; rw [hX, hY])
            obtain ⟨n, hn⟩ : ∃ n, n = A.length := ⟨_, rfl⟩
            obtain ⟨m, hm⟩ : ∃ m, n = m + 1 := ⟨n - 1, by omega⟩
            obtain ⟨V, hV⟩ : ∃ V, V = A.getD m 0 := ⟨_, rfl⟩
            have hcv := h1a m (by omega)
            rw [← hV] at hcv
            have HVV := Lib.hid (show nth A ((A.length : Int) - 1) = V by rw [← hn, show (n : Int) - 1 = (m : Int) by omega, nth_nat, hV])
            have HCV := Lib.hid hcv
            have HD1 := Lib.hid l1
            have HMN := Lib.hid (And.intro hn hm)
            have hn1 : (1 : Int) ≤ (n : Int) := by omega
            have hnm : (n : Int) ≤ 9223372036854775807 := by have := HA2.out; omega
            have hm9 : (m : Int) < (n : Int) := by omega
            have eN' : (n : Int) - 1 = (m : Int) := by omega
            have hmm2 : (m : Int) ≤ 1000000 := by have := HA2.out; omega
            clear hX hY hn hm hV hcv h1a h2a l1 l2 hc1 hm1 hc2 hm2 hpos
            refine QAT.out.mono ?_
            rintro e w5 ⟨rfl, b5⟩
            rw [HAT.out, HREF.out]
            have HS5 := Lib.hid (HS2.out.below b5 HS2.out.lt.1 HS2.out.lt.2)
            have HR5 := Lib.hid (HR2.out.below b5)
            have HB5 := Lib.hid (HB2.out.trans (b5.mono HB2.out.size))
            have HX5 := Lib.hid b5
            have cB : w5.cell? ⟨ba, oa + k * 2 + 1, none⟩ = some (.int .i64 nm) := (HCELL.out w5 HB5.out).2
            have QRA := Lib.hid (RefAt10 HR5.out nm)
            have QH := Lib.hid (HeadI HS5.out (nth A ((A.length : Int) - 1)) (nth P ((A.length : Int) - 1)) (rf_head HR5.out.len HR5.out.pos) (by have := HMN.out; omega))
            rw [HVV.out, ← HMN.out.1, eN'] at QH
            clear b5
            go_wp2_with fail
            refine QRA.out.mono ?_
            rintro e w6 ⟨rfl, rfl⟩
            rw [HREF.out]
            go_wp2_with fail
            refine QH.out.mono ?_
            rintro e w7 ⟨rfl, b7⟩
            have HS7 := Lib.hid (HS5.out.below b7 HS5.out.lt.1 HS5.out.lt.2)
            have HR7 := Lib.hid (HR5.out.below b7)
            have HB7 := Lib.hid (HB5.out.trans (b7.mono HB5.out.size))
            have HX7 := Lib.hid (HX5.out.trans (b7.mono HX5.out.size))
            have z1 : w7.cell? ⟨sb, 0, none⟩ = some (.slice (some ⟨a1, o1, none⟩) n c1) := by rw [HMN.out.1]; exact HR7.out.blk.cell 0
            have z2 : w7.cell? ⟨a1, o1 + m, none⟩ = some (.int .i64 V) := (HX7.out.cell (p := ⟨a1, o1 + m, none⟩) HD1.out).trans HCV.out
            have QL1 := Lib.hid (LiveI HS7.out)
            have QL2 := Lib.hid (RefLive10 HR7.out)
            obtain ⟨C, hC⟩ : ∃ C, C = RC A P := ⟨_, rfl⟩
            rw [← hC] at QL1 QL2
            clear b7 cB hC
            go_wp2_with (first
              | (go_at_call 18; refine QL1.out.mono ?_; rintro e wx ⟨rfl, rfl⟩)
              | (go_at_call 19; refine QL2.out.mono ?_; rintro e wx ⟨rfl, rfl⟩))
            go_roundw
            case rel => exact ⟨k + 1, A, P, N, _, _, by omega, by omega, by go_num, HA2.out, by omega, HP2.out, HS7.out, HR7.out, HB7.out⟩
            case measure => simp [intOf]; omega
    · by_cases h3 : k < l.length
      · have h4 : (k : Int) < (l.length : Int) := by omega
        have h5 : ¬ ((k : Int) < 100) := by omega
        clear hlt
        have QAT := Lib.hid (AtI_of (getI HS.out kk HKK.out))
        have HAT := Lib.hid (at_ref A P kk)
        obtain ⟨X, hX⟩ : ∃ X, X = if isL A P kk then nth A kk else 0 := ⟨_, rfl⟩
        obtain ⟨Y, hY⟩ : ∃ Y, Y = decide (isL A P kk) := ⟨_, rfl⟩
        have HREF := Lib.hid (show refAt A P kk = .tuple #[.int .i64 X, .bool Y] by unfold refAt; rw [hX, hY])
        clear hX hY
        go_wp2_with fail
        refine QAT.out.mono ?_
        rintro e w5 ⟨rfl, b5⟩
        rw [HAT.out, HREF.out]
        have HR5 := Lib.hid (HR.out.below b5)
        have HB5 := Lib.hid (HBW.out.trans (b5.mono HBW.out.size))
        have QRA := Lib.hid (RefAt10 HR5.out kk)
        clear b5
        go_wp2_with fail
        refine QRA.out.mono ?_
        rintro e w6 ⟨rfl, rfl⟩
        rw [HREF.out]
        go_wp2_with ((go_at_call 20; refine (awake_any _).mono ?_; rintro e wx ⟨rfl, hb⟩))
        go_ret
        exact ⟨rfl, HB5.out.trans (hb.mono HB5.out.size)⟩
      · have h4 : decide (k < l.length) = false := by simpa using h3
        have h5 : decide ((k : Int) < (l.length : Int)) = false := by simpa using h3
        clear hlt
        have QAT := Lib.hid (AtI_of (getI HS.out kk HKK.out))
        have HAT := Lib.hid (at_ref A P kk)
        obtain ⟨X, hX⟩ : ∃ X, X = if isL A P kk then nth A kk else 0 := ⟨_, rfl⟩
        obtain ⟨Y, hY⟩ : ∃ Y, Y = decide (isL A P kk) := ⟨_, rfl⟩
        have HREF := Lib.hid (show refAt A P kk = .tuple #[.int .i64 X, .bool Y] by unfold refAt; rw [hX, hY])
        clear hX hY
        go_wp2_with fail
        refine QAT.out.mono ?_
        rintro e w5 ⟨rfl, b5⟩
        rw [HAT.out, HREF.out]
        have HR5 := Lib.hid (HR.out.below b5)
        have HB5 := Lib.hid (HBW.out.trans (b5.mono HBW.out.size))
        have QRA := Lib.hid (RefAt10 HR5.out kk)
        clear b5
        go_wp2_with fail
        refine QRA.out.mono ?_
        rintro e w6 ⟨rfl, rfl⟩
        rw [HREF.out]
        go_wp2_with ((go_at_call 20; refine (awake_any _).mono ?_; rintro e wx ⟨rfl, hb⟩))
        go_ret
        exact ⟨rfl, HB5.out.trans (hb.mono HB5.out.size)⟩
end Go.Proofs.Ytagfehfggkehmaa.VersionPlays

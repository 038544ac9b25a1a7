/-
  P7.3, P7.4: however bytes are cut, the same messages come: the walk.
-/
import Derived.Test.YtjhmkapafhgofaaDoorAwake7
import Derived.Test.YtjhmkapafhgofaaDoorStr8W
import Derived.Test.YtjhmkapafhgofaaDoorAll7
import Derived.Test.YtjhmkapafhgofaaDoorSameF7
import Derived.Test.YtjhmkapafhgofaaDoorInts7
import Derived.Deep.QuietTactic
import Derived.BigQuiet
import Derived.Deep.RegionHeld3
namespace Go.Proofs.YtjhmkapafhgofaaDoor.FrameStreams
set_option linter.unusedVariables false
set_option linter.unusedSimpArgs false
open Go.RowKit

/-- What holds at the outer loop's head: p bytes were fed, q are left. -/
def ORel (w : World) (l : List UInt8) (zl : Nat) (v r i : Value) (wr : World) : Prop :=
  ∃ p q cq j : Nat, j ≤ zl + 1 ∧ l.length = p + q ∧ q ≤ cq ∧ cq ≤ maxLen ∧ i = .int .i64 (j : Int) ∧ (∃ Ar, r = .slice Ar q cq ∧ At w w.heap.size Ar (l.drop p)) ∧ (j = zl + 1 → q = 0) ∧ SInv w l p 0 (decide (j = zl + 1)) v wr
theorem rem_num (x : Int) (q : Nat) (hq : q ≤ 3000) : ∃ n : Nat, wrap64 ((IntKind.u64.wrap x).tmod ((q : Int) + 1)) = (n : Int) ∧ n ≤ q := by
  have h0 : 0 ≤ IntKind.u64.wrap x := by simp [IntKind.wrap, IntKind.bits, IntKind.signed]; omega
  have h1 : 0 ≤ (IntKind.u64.wrap x).tmod ((q : Int) + 1) := Int.tmod_nonneg _ h0
  have h2 : (IntKind.u64.wrap x).tmod ((q : Int) + 1) < (q : Int) + 1 := Int.tmod_lt_of_pos _ (by omega)
  refine ⟨((IntKind.u64.wrap x).tmod ((q : Int) + 1)).toNat, ?_, by omega⟩
  rw [IntWalk.wrap64_in _ ⟨by omega, by omega⟩]
  omega

set_option maxHeartbeats 12800000 in
set_option maxRecDepth 100000 in
theorem walk_few (A Az : Option Addr) (c cz : Nat) (l : List UInt8) (z : List Int) (w : World) (hc : l.length ≤ c) (hm : c ≤ maxLen) (h : Bytes w A l) (hcz : z.length ≤ cz) (hmz : cz ≤ maxLen) (hz : Ints w Az z) (hr : ∀ n ∈ z, -9223372036854775808 ≤ n ∧ n ≤ 9223372036854775807) (ht : TabL w)
    (hl : l.length ≤ 3000) (hzl : z.length ≤ 20) :
    Calls Tryd.prog 5 #[.slice A l.length c, .slice Az z.length cz] w fun e w' => e = .returned (.bool true) ∧ Below w.heap.size w w' := by
  have hlI : ¬ (3000 : Int) < (l.length : Int) := by omega
  have hzI : ¬ (20 : Int) < (z.length : Int) := by omega
  have HT := Lib.hid (fun W (hB : Below w.heap.size w W) => ht.below hB ht.lt)
  have HZ := Lib.hid (fun W (hB : Below w.heap.size w W) => hz.below hB)
  have HR := Lib.hid hr
  have HH := Lib.hid h; have HM := Lib.hid hm
  have hm1 : c ≤ 9223372036854775807 := by unfold maxLen at hm; omega
  clear ht hz hr h hm
  go_enter Tryd.func5, Tryd.ntmps5
  go_wp2_with fail
  refine (StreamNew_any w).mono ?_
  rintro e w0 ⟨rfl, rfl⟩
  go_wp2_with fail
  go_loopw [6, 7, 8] (fun v r i wr => ORel w l z.length v r i wr) (fun _ _ i _ => z.length + 1 - (intOf i).toNat)
  case atStart => exact ⟨0, l.length, c, 0, by omega, by omega, hc, HM.out, rfl, ⟨A, rfl, HH.out⟩, fun h => by omega, by
    have e : decide ((0 : Nat) = z.length + 1) = false := decide_eq_false (by omega)
    rw [e]; exact SInv.start w l⟩
  case round =>
    obtain ⟨p, q, cq, j, hj, hpq, hqc, hcq, rfl, ⟨Ar, rfl, hAr⟩, hpj, hinv⟩ := hrel
    have HINV := Lib.hid hinv; have HAR := Lib.hid hAr; have HPJ := Lib.hid hpj; have HPQ := Lib.hid hpq; have HCQ := Lib.hid hcq
    have hcq1 : cq ≤ 9223372036854775807 := by unfold maxLen at hcq; omega
    have hq3 : q ≤ 3000 := by omega
    clear hinv hAr hpj hpq hcq
    by_cases hlt : j ≤ z.length
    · by_cases hjz : j < z.length
      · obtain ⟨b, off, rfl, hb, k1⟩ := (HZ.out wr HINV.out.1).cell hjz
        have hrng := HR.out (z.getD j 0) (by simp [List.getD, hjz])
        obtain ⟨x, hx⟩ : ∃ x, x = z.getD j 0 := ⟨_, rfl⟩
        rw [← hx] at k1 hrng
        clear hx
        obtain ⟨n, hn, hnq⟩ := rem_num x q hq3
        have hXl : ((l.drop p).take n).length = n := by rw [List.length_take, List.length_drop]; have := HPQ.out; omega
        have qf := feed_step (c := cq) (n := n) (X := (l.drop p).take n) (Ar := Ar) HINV.out (by have := HPQ.out; omega) rfl (by have := HPQ.out; omega) (by omega) (((At.below HAR.out HINV.out.1 (Nat.le_refl _)).take n).bytes HINV.out.1.size)
        rw [hXl] at qf
        have QF := Lib.hid qf
        have HLF := Lib.hid hl
        clear qf hXl
        by_cases hcn : cq = n
        · subst hcn
          have HAR' := Lib.hid (show At w w.heap.size Ar (l.drop (p + cq)) from by
            have h := HAR.out.drop (k := cq) (c := cq) (by rw [List.length_drop]; have := HPQ.out; omega)
            first | rw [if_pos trivial] at h | rw [if_pos rfl] at h
            rw [List.drop_drop] at h
            exact h)
          go_wp2_with fail
          refine QF.out.mono ?_
          rintro e w1 ⟨rfl, hinv1⟩
          have HI1 := Lib.hid hinv1
          clear hinv1 QF
          skip
          go_wp2_with fail
          go_loopw [6, 10] (fun v i wr => ∃ k : Nat, k ≤ 200 ∧ i = .int .i64 (k : Int) ∧ SInv w l (p + cq) k false v wr) (fun _ i _ => 200 - (intOf i).toNat)
          case atStart => exact ⟨0, by omega, rfl, HI1.out⟩
          case round =>
            clear HI1
            obtain ⟨k, hk, rfl, hin⟩ := hrel
            have hkl := hin.few HLF.out
            have hbw := hin.1
            have QN := Lib.hid (look_step hin (by have := HPQ.out; omega) (by have := HLF.out; omega) (HT.out _ hin.1))
            clear hin
            go_wp2_with fail
            refine QN.out.mono ?_
            rintro e w2 (⟨s, rfl, hni⟩ | ⟨kd, A9, n9, c9, rfl, hsi⟩)
            · obtain ⟨hbw2, M, hkM, ho, vs, R, hs, hi, hx⟩ := hni
              obtain ⟨Av, cv, rfl, fv, gv⟩ := ho.form
              have hML : M.length ≤ 200 := by
                have h1 := hi.1
                have h2 := hi.2.1
                have h3 := HLF.out
                rw [List.length_map, List.length_append] at h1
                omega
              have hsz : (M.length + 1) * 32 ≤ 140737488355328 := by omega
              have HO := Lib.hid ho; have HS := Lib.hid hs; have HIV := Lib.hid hi; have HXX := Lib.hid hx; have HBW2 := Lib.hid hbw2; have HKM := Lib.hid hkM; have HSZ := Lib.hid hsz
              have hzz : w.heap.size + 1 ≤ w2.heap.size := hs.lt
              have HBB := Lib.hid (show Below (cutW w2 (w.heap.size + 1)).heap.size (cutW w2 (w.heap.size + 1)) w2 by rw [cutW_size hzz]; exact cutW_below hzz)
              have HSE := Lib.hid (cutW_size hzz)
              clear ho hs hi hx hbw2 hkM fv gv hML hsz QN hbw hzz
              go_wp2_with (at_builtin; refine wpList_app_one isMsg rfl (.tmp 72) (.tmp 76) rfl (cutW w2 (w.heap.size + 1)) _ M.length (flatM M) rfl w2 s.two rfl (by rw [HSE.out]; exact HO.out) rfl rfl (twoM_one s) HSZ.out HBB.out ?_)
              intro v' w3 hown3 hg3 hb3
              rw [HSE.out] at hown3
              have HFI := Lib.hid (more_step HO.out HBW2.out HKM.out HS.out HIV.out HXX.out hown3 hg3)
              clear hown3 hg3 hb3
              go_wp2_with fail
              go_roundw
              case rel => exact ⟨k + 1, by omega, by go_num, HFI.out⟩
              case measure => simp [intOf]; omega
            · have HSI := Lib.hid hsi
              clear hsi QN hbw
              go_wp2_with fail
              go_roundw
              case rel => exact ⟨p + cq, _, _, j + 1, by omega, by have := HPQ.out; omega, by have := HPQ.out; omega, by have := HCQ.out; unfold maxLen at this ⊢; omega, by go_num, ⟨_, rfl, HAR'.out⟩, (fun h => by omega), HSI.out.weak _⟩
              case measure => simp [intOf]; omega
        · have HAR' := Lib.hid (show At w w.heap.size (Ar.map (·.add n)) (l.drop (p + n)) from by
            have h := HAR.out.drop (k := n) (c := cq) (by rw [List.length_drop]; have := HPQ.out; omega)
            rw [if_neg hcn] at h
            rw [List.drop_drop] at h
            exact h)
          go_wp2_with fail
          refine QF.out.mono ?_
          rintro e w1 ⟨rfl, hinv1⟩
          have HI1 := Lib.hid hinv1
          clear hinv1 QF
          skip
          go_wp2_with fail
          go_loopw [6, 10] (fun v i wr => ∃ k : Nat, k ≤ 200 ∧ i = .int .i64 (k : Int) ∧ SInv w l (p + n) k false v wr) (fun _ i _ => 200 - (intOf i).toNat)
          case atStart => exact ⟨0, by omega, rfl, HI1.out⟩
          case round =>
            clear HI1
            obtain ⟨k, hk, rfl, hin⟩ := hrel
            have hkl := hin.few HLF.out
            have hbw := hin.1
            have QN := Lib.hid (look_step hin (by have := HPQ.out; omega) (by have := HLF.out; omega) (HT.out _ hin.1))
            clear hin
            go_wp2_with fail
            refine QN.out.mono ?_
            rintro e w2 (⟨s, rfl, hni⟩ | ⟨kd, A9, n9, c9, rfl, hsi⟩)
            · obtain ⟨hbw2, M, hkM, ho, vs, R, hs, hi, hx⟩ := hni
              obtain ⟨Av, cv, rfl, fv, gv⟩ := ho.form
              have hML : M.length ≤ 200 := by
                have h1 := hi.1
                have h2 := hi.2.1
                have h3 := HLF.out
                rw [List.length_map, List.length_append] at h1
                omega
              have hsz : (M.length + 1) * 32 ≤ 140737488355328 := by omega
              have HO := Lib.hid ho; have HS := Lib.hid hs; have HIV := Lib.hid hi; have HXX := Lib.hid hx; have HBW2 := Lib.hid hbw2; have HKM := Lib.hid hkM; have HSZ := Lib.hid hsz
              have hzz : w.heap.size + 1 ≤ w2.heap.size := hs.lt
              have HBB := Lib.hid (show Below (cutW w2 (w.heap.size + 1)).heap.size (cutW w2 (w.heap.size + 1)) w2 by rw [cutW_size hzz]; exact cutW_below hzz)
              have HSE := Lib.hid (cutW_size hzz)
              clear ho hs hi hx hbw2 hkM fv gv hML hsz QN hbw hzz
              go_wp2_with (at_builtin; refine wpList_app_one isMsg rfl (.tmp 72) (.tmp 76) rfl (cutW w2 (w.heap.size + 1)) _ M.length (flatM M) rfl w2 s.two rfl (by rw [HSE.out]; exact HO.out) rfl rfl (twoM_one s) HSZ.out HBB.out ?_)
              intro v' w3 hown3 hg3 hb3
              rw [HSE.out] at hown3
              have HFI := Lib.hid (more_step HO.out HBW2.out HKM.out HS.out HIV.out HXX.out hown3 hg3)
              clear hown3 hg3 hb3
              go_wp2_with fail
              go_roundw
              case rel => exact ⟨k + 1, by omega, by go_num, HFI.out⟩
              case measure => simp [intOf]; omega
            · have HSI := Lib.hid hsi
              clear hsi QN hbw
              go_wp2_with fail
              go_roundw
              case rel => exact ⟨p + n, _, _, j + 1, by omega, by have := HPQ.out; omega, by have := HPQ.out; omega, by have := HCQ.out; unfold maxLen at this ⊢; omega, by go_num, ⟨_, rfl, HAR'.out⟩, (fun h => by omega), HSI.out.weak _⟩
              case measure => simp [intOf]; omega
      · obtain rfl : j = z.length := by omega
        have hXl : ((l.drop p).take q).length = q := by rw [List.length_take, List.length_drop]; have := HPQ.out; omega
        have qf := feed_step (c := cq) (n := q) (X := (l.drop p).take q) (Ar := Ar) HINV.out (by have := HPQ.out; omega) rfl (by have := HPQ.out; omega) (by omega) (((At.below HAR.out HINV.out.1 (Nat.le_refl _)).take q).bytes HINV.out.1.size)
        rw [hXl] at qf
        have QF := Lib.hid qf
        have HLF := Lib.hid hl
        clear qf hXl
        by_cases hcn : cq = q
        · subst hcn
          have HAR' := Lib.hid (show At w w.heap.size Ar (l.drop (p + cq)) from by
            have h := HAR.out.drop (k := cq) (c := cq) (by rw [List.length_drop]; have := HPQ.out; omega)
            first | rw [if_pos trivial] at h | rw [if_pos rfl] at h
            rw [List.drop_drop] at h
            exact h)
          go_wp2_with fail
          refine QF.out.mono ?_
          rintro e w1 ⟨rfl, hinv1⟩
          have HI1 := Lib.hid hinv1
          clear hinv1 QF
          skip
          go_wp2_with fail
          go_loopw [6, 10] (fun v i wr => ∃ k : Nat, k ≤ 200 ∧ i = .int .i64 (k : Int) ∧ SInv w l (p + cq) k false v wr) (fun _ i _ => 200 - (intOf i).toNat)
          case atStart => exact ⟨0, by omega, rfl, HI1.out⟩
          case round =>
            clear HI1
            obtain ⟨k, hk, rfl, hin⟩ := hrel
            have hkl := hin.few HLF.out
            have hbw := hin.1
            have QN := Lib.hid (look_step hin (by have := HPQ.out; omega) (by have := HLF.out; omega) (HT.out _ hin.1))
            clear hin
            go_wp2_with fail
            refine QN.out.mono ?_
            rintro e w2 (⟨s, rfl, hni⟩ | ⟨kd, A9, n9, c9, rfl, hsi⟩)
            · obtain ⟨hbw2, M, hkM, ho, vs, R, hs, hi, hx⟩ := hni
              obtain ⟨Av, cv, rfl, fv, gv⟩ := ho.form
              have hML : M.length ≤ 200 := by
                have h1 := hi.1
                have h2 := hi.2.1
                have h3 := HLF.out
                rw [List.length_map, List.length_append] at h1
                omega
              have hsz : (M.length + 1) * 32 ≤ 140737488355328 := by omega
              have HO := Lib.hid ho; have HS := Lib.hid hs; have HIV := Lib.hid hi; have HXX := Lib.hid hx; have HBW2 := Lib.hid hbw2; have HKM := Lib.hid hkM; have HSZ := Lib.hid hsz
              have hzz : w.heap.size + 1 ≤ w2.heap.size := hs.lt
              have HBB := Lib.hid (show Below (cutW w2 (w.heap.size + 1)).heap.size (cutW w2 (w.heap.size + 1)) w2 by rw [cutW_size hzz]; exact cutW_below hzz)
              have HSE := Lib.hid (cutW_size hzz)
              clear ho hs hi hx hbw2 hkM fv gv hML hsz QN hbw hzz
              go_wp2_with (at_builtin; refine wpList_app_one isMsg rfl (.tmp 72) (.tmp 76) rfl (cutW w2 (w.heap.size + 1)) _ M.length (flatM M) rfl w2 s.two rfl (by rw [HSE.out]; exact HO.out) rfl rfl (twoM_one s) HSZ.out HBB.out ?_)
              intro v' w3 hown3 hg3 hb3
              rw [HSE.out] at hown3
              have HFI := Lib.hid (more_step HO.out HBW2.out HKM.out HS.out HIV.out HXX.out hown3 hg3)
              clear hown3 hg3 hb3
              go_wp2_with fail
              go_roundw
              case rel => exact ⟨k + 1, by omega, by go_num, HFI.out⟩
              case measure => simp [intOf]; omega
            · have HSI := Lib.hid hsi
              clear hsi QN hbw
              go_wp2_with fail
              go_roundw
              case rel => exact ⟨p + cq, _, _, z.length + 1, by omega, by have := HPQ.out; omega, by have := HPQ.out; omega, by have := HCQ.out; unfold maxLen at this ⊢; omega, by go_num, ⟨_, rfl, HAR'.out⟩, (fun h => by omega), HSI.out.weak _⟩
              case measure => simp [intOf]
        · have HAR' := Lib.hid (show At w w.heap.size (Ar.map (·.add q)) (l.drop (p + q)) from by
            have h := HAR.out.drop (k := q) (c := cq) (by rw [List.length_drop]; have := HPQ.out; omega)
            rw [if_neg hcn] at h
            rw [List.drop_drop] at h
            exact h)
          go_wp2_with fail
          refine QF.out.mono ?_
          rintro e w1 ⟨rfl, hinv1⟩
          have HI1 := Lib.hid hinv1
          clear hinv1 QF
          skip
          go_wp2_with fail
          go_loopw [6, 10] (fun v i wr => ∃ k : Nat, k ≤ 200 ∧ i = .int .i64 (k : Int) ∧ SInv w l (p + q) k false v wr) (fun _ i _ => 200 - (intOf i).toNat)
          case atStart => exact ⟨0, by omega, rfl, HI1.out⟩
          case round =>
            clear HI1
            obtain ⟨k, hk, rfl, hin⟩ := hrel
            have hkl := hin.few HLF.out
            have hbw := hin.1
            have QN := Lib.hid (look_step hin (by have := HPQ.out; omega) (by have := HLF.out; omega) (HT.out _ hin.1))
            clear hin
            go_wp2_with fail
            refine QN.out.mono ?_
            rintro e w2 (⟨s, rfl, hni⟩ | ⟨kd, A9, n9, c9, rfl, hsi⟩)
            · obtain ⟨hbw2, M, hkM, ho, vs, R, hs, hi, hx⟩ := hni
              obtain ⟨Av, cv, rfl, fv, gv⟩ := ho.form
              have hML : M.length ≤ 200 := by
                have h1 := hi.1
                have h2 := hi.2.1
                have h3 := HLF.out
                rw [List.length_map, List.length_append] at h1
                omega
              have hsz : (M.length + 1) * 32 ≤ 140737488355328 := by omega
              have HO := Lib.hid ho; have HS := Lib.hid hs; have HIV := Lib.hid hi; have HXX := Lib.hid hx; have HBW2 := Lib.hid hbw2; have HKM := Lib.hid hkM; have HSZ := Lib.hid hsz
              have hzz : w.heap.size + 1 ≤ w2.heap.size := hs.lt
              have HBB := Lib.hid (show Below (cutW w2 (w.heap.size + 1)).heap.size (cutW w2 (w.heap.size + 1)) w2 by rw [cutW_size hzz]; exact cutW_below hzz)
              have HSE := Lib.hid (cutW_size hzz)
              clear ho hs hi hx hbw2 hkM fv gv hML hsz QN hbw hzz
              go_wp2_with (at_builtin; refine wpList_app_one isMsg rfl (.tmp 72) (.tmp 76) rfl (cutW w2 (w.heap.size + 1)) _ M.length (flatM M) rfl w2 s.two rfl (by rw [HSE.out]; exact HO.out) rfl rfl (twoM_one s) HSZ.out HBB.out ?_)
              intro v' w3 hown3 hg3 hb3
              rw [HSE.out] at hown3
              have HFI := Lib.hid (more_step HO.out HBW2.out HKM.out HS.out HIV.out HXX.out hown3 hg3)
              clear hown3 hg3 hb3
              go_wp2_with fail
              go_roundw
              case rel => exact ⟨k + 1, by omega, by go_num, HFI.out⟩
              case measure => simp [intOf]; omega
            · have HSI := Lib.hid hsi
              clear hsi QN hbw
              go_wp2_with fail
              go_roundw
              case rel => exact ⟨p + q, _, _, z.length + 1, by omega, by have := HPQ.out; omega, by have := HPQ.out; omega, by have := HCQ.out; unfold maxLen at this ⊢; omega, by go_num, ⟨_, rfl, HAR'.out⟩, (fun h => by omega), HSI.out.weak _⟩
              case measure => simp [intOf]
    · obtain rfl : j = z.length + 1 := by omega
      obtain rfl : q = 0 := HPJ.out rfl
      have hpl : p = l.length := by have := HPQ.out; omega
      have hin := HINV.out
      rw [hpl, decide_eq_true (rfl : z.length + 1 = z.length + 1)] at hin
      obtain ⟨hbw, M, C, U, lf, D, ho, hbo, hall, hMl, hF, hL⟩ := inv_close hin (by omega)
      obtain ⟨Av, cv, rfl, fv, gv⟩ := ho.form
      have qa := All_any A c l wr (HH.out.below hbw) hc HM.out (by omega)
      rw [hall] at qa
      have QA := Lib.hid qa
      have HBW := Lib.hid hbw; have HO := Lib.hid ho; have HBO := Lib.hid hbo; have HF := Lib.hid hF; have HL := Lib.hid hL; have HMl := Lib.hid hMl
      clear hpl hin hbw ho hbo hall hF hL qa HINV HPJ HPQ fv gv hMl HAR HCQ
      go_wp2_with fail
      refine QA.out.mono ?_
      rintro e w2 ⟨hb2, N, A2, c2, A3, c3, rfl, hN, hoN, hbN, hy3⟩
      dsimp only at hN hy3
      dsimp only
      have hNl : N.length = M.length := by have := congrArg List.length hN; simpa using this
      rw [hNl]
      have hal := (Below.refl w2.heap.size w2).alloc (Nat.le_refl _) (.cells #[.int .i64 (C : Int), .int .i64 (U : Int), .slice A3 D.length c3] 33)
      have kF := Blk.new w2 33 [.int .i64 (C : Int), .int .i64 (U : Int), .slice A3 D.length c3]
      have HW3 := Lib.hid (hb2.trans (hal.mono hb2.size))
      have HY3 := Lib.hid (hy3.below hal)
      have hoN' := hoN
      rw [hNl] at hoN'
      have HON := Lib.hid (hoN'.below hal)
      have HBN := Lib.hid (fun s hs => (At.below (hbN s hs) (hal.mono hb2.size) (Nat.le_refl _)))
      have HNN := Lib.hid hN; have HNL := Lib.hid hNl
      have hbc := (Below.refl (w2.alloc (.cells #[.int .i64 (C : Int), .int .i64 (U : Int), .slice A3 D.length c3] 33)).heap.size (w2.alloc (.cells #[.int .i64 (C : Int), .int .i64 (U : Int), .slice A3 D.length c3] 33))).drew
      have HSF := Lib.hid (fun (w' : World) (hb : Below (w2.alloc (.cells #[.int .i64 (C : Int), .int .i64 (U : Int), .slice A3 D.length c3] 33)).heap.size (w2.alloc (.cells #[.int .i64 (C : Int), .int .i64 (U : Int), .slice A3 D.length c3] 33)) w') => cells3 (kF.below hb (by simp)))
      have QS := Lib.hid (fun W A c A' c' h h' => (show Calls Tryd.prog 16 #[.agg #[.int .i64 (C : Int), .int .i64 (U : Int), .slice A D.length c], .agg #[.int .i64 (C : Int), .int .i64 (U : Int), .slice A' D.length c']] W fun e w' => e = .returned (.bool true) ∧ Below W.heap.size W w' from by
        have h := SameFault_any (C : Int) (U : Int) (C : Int) (U : Int) A A' c c' D D W h h'
        simpa using h))
      clear hb2 hal kF hy3 hoN hoN' hbN hN hNl QA
      go_wp2_with fail
      go_region_held3 (fun w' => w'.cell? ⟨w2.heap.size, 0, none⟩ = some (.int .i64 (C : Int)) ∧ w'.cell? ⟨w2.heap.size, 1, none⟩ = some (.int .i64 (U : Int)) ∧ w'.cell? ⟨w2.heap.size, 2, none⟩ = some (.slice A3 D.length c3)) (exact HSF.out _ hbc) ((first
        | (go_at_call 21; refine (HF.out _ (HW3.out.trans (hbc.mono HW3.out.size))).mono ?_; rintro e wx ⟨hg, A4, c4, rfl, hy4⟩; replace hbc := hbc.trans (hg.mono hbc.size); have HY4 := Lib.hid hy4; clear hg hy4)
        | (go_at_call 16; refine (QS.out _ _ _ _ _ HY4.out (HY3.out.below hbc)).mono ?_; rintro e wx ⟨rfl, hg⟩; replace hbc := hbc.trans (hg.mono hbc.size); clear hg)
        | (go_at_call 22; refine (HL.out _ (HW3.out.trans (hbc.mono HW3.out.size))).mono ?_; rintro e wx ⟨rfl, rfl⟩)))
      have hbw5 := HW3.out.trans (hbc.mono HW3.out.size)
      have HB5 := Lib.hid (HBW.out.trans (hbw5.mono HBW.out.size))
      have HO5 := Lib.hid (HO.out.below hbw5)
      have HON5 := Lib.hid (HON.out.below hbc)
      have HBO5 := Lib.hid (fun s hs => (HBO.out s hs).below hbw5)
      have HBN5 := Lib.hid (fun s hs => At.bytes (At.below (HBN.out s hs) hbc HW3.out.size) hbw5.size)
      have QAW := Lib.hid (fun m => awake7_any (wx.drewN m) (HT.out _ (below_drewN HB5.out m)))
      clear hbw5 hbc HSF HY4 HF HL QS HW3 HY3 HBN HBO HO HON
      go_wp2_with fail
      go_loopw [17] (fun i wr' => ∃ j m : Nat, j ≤ M.length ∧ i = .int .i64 (j : Int) ∧ wr' = wx.drewN m) (fun i _ => M.length - (intOf i).toNat)
      case atStart => exact ⟨0, 0, Nat.zero_le _, rfl, rfl⟩
      case round =>
        obtain ⟨j, m, hjM, rfl, hwr⟩ := hrel
        have HW := Lib.hid hwr
        have hML := HMl.out
        by_cases hjl : j < M.length
        · obtain ⟨s, hs⟩ : ∃ s, M[j]? = some s := ⟨_, List.getElem?_eq_getElem hjl⟩
          obtain ⟨t, ht⟩ : ∃ t, N[j]? = some t := ⟨_, List.getElem?_eq_getElem (by rw [HNL.out]; exact hjl)⟩
          obtain ⟨g1, hA1, hg1, k1, k2⟩ := HO5.out.at hs
          obtain ⟨g2, hA2, hg2, k3, k4⟩ := HON5.out.at ht
          have hst : t.abs = s.abs := by
            have h1 := congrArg (fun (x : List (Int × List UInt8)) => x[j]?) HNN.out
            simp only [List.getElem?_map, hs, ht, Option.map_some] at h1
            exact Option.some.inj h1
          have hy1 := HBO5.out s (List.mem_of_getElem? hs)
          have hy2 := HBN5.out t (List.mem_of_getElem? ht)
          obtain ⟨sk, sa, sc, sb⟩ := s
          obtain ⟨tk, ta, tc, tb⟩ := t
          simp only [Ms.abs, Prod.mk.injEq] at hst
          obtain ⟨rfl, rfl⟩ := hst
          have hjI : (j : Int) < (M.length : Int) := by omega
          have d1 : wr.cell? ⟨g1, j * 2, none⟩ = some (.int .i64 tk) := by rw [hwr]; exact k1
          have d2 : wr.cell? ⟨g1, j * 2 + 1, none⟩ = some (.slice sa tb.length sc) := by rw [hwr]; exact k2
          have d3 : wr.cell? ⟨g2, j * 2, none⟩ = some (.int .i64 tk) := by rw [hwr]; exact k3
          have d4 : wr.cell? ⟨g2, j * 2 + 1, none⟩ = some (.slice ta tb.length tc) := by rw [hwr]; exact k4
          have QN := Lib.hid (fun n => (show Calls Tryd.prog 11 #[.slice sa tb.length sc, .slice ta tb.length tc] (wr.drewN n) fun e w'' => e = .returned (.bool true) ∧ ∃ q, w'' = wr.drewN q from
            (Same_any sa ta tb.length tb.length sc tc tb tb rfl rfl (wr.drewN n) (by rw [hwr]; exact hy1) (by rw [hwr]; exact hy2)).mono fun e w'' h => ⟨by rw [h.1]; simp, n, h.2.symm⟩))
          subst hA1; subst hA2
          clear hs ht hy1 hy2 k1 k2 k3 k4 hwr
          go_wp2_with fail
          go_quiet ((go_at_call 11; exact QN.out _))
          go_wp2_with fail
          go_roundw
          case rel => exact ⟨j + 1, _, by omega, by go_num, by rw [HW.out]; exact World.drewN_drewN _ _ _⟩
          case measure => simp [intOf]; omega
        · obtain rfl : j = M.length := by omega
          have QA7 := Lib.hid (show Calls Tryd.prog 8 #[] wr fun e w' => e = .returned (.bool true) ∧ Below wr.heap.size wr w' from by rw [hwr]; exact QAW.out m)
          have HB6 := Lib.hid (show Below w.heap.size w wr from by rw [hwr]; exact below_drewN HB5.out m)
          clear hwr
          go_wp2_with fail
          refine QA7.out.mono ?_
          rintro e w7 ⟨rfl, hb7⟩
          go_wp2_with fail
          go_ret
          exact ⟨rfl, HB6.out.trans (hb7.mono HB6.out.size)⟩

theorem walk (A Az : Option Addr) (c cz : Nat) (l : List UInt8) (z : List Int) (w : World) (hc : l.length ≤ c) (hm : c ≤ maxLen) (h : Bytes w A l) (hcz : z.length ≤ cz) (hmz : cz ≤ maxLen) (hz : Ints w Az z) (hr : ∀ n ∈ z, -9223372036854775808 ≤ n ∧ n ≤ 9223372036854775807) (ht : TabL w) :
    Calls Tryd.prog 5 #[.slice A l.length c, .slice Az z.length cz] w fun e w' => e = .returned (.bool true) ∧ Below w.heap.size w w' := by
  have QA := Lib.hid (awake7_any w ht)
  by_cases hl : l.length ≤ 3000
  · by_cases hzl : z.length ≤ 20
    · exact walk_few A Az c cz l z w hc hm h hcz hmz hz hr ht hl hzl
    · have hlI : ¬ (3000 : Int) < (l.length : Int) := by omega
      have hzI : (20 : Int) < (z.length : Int) := by omega
      clear h ht hl hz hr hzl
      go_enter Tryd.func5, Tryd.ntmps5
      go_wp2_with fail
      refine QA.out.mono ?_
      rintro e w2 ⟨rfl, hb2⟩
      go_wp2_with fail
      go_ret
      exact ⟨rfl, hb2⟩
  · have hlI : (3000 : Int) < (l.length : Int) := by omega
    clear h ht hl hz hr
    go_enter Tryd.func5, Tryd.ntmps5
    go_wp2_with fail
    refine QA.out.mono ?_
    rintro e w2 ⟨rfl, hb2⟩
    go_wp2_with fail
    go_ret
    exact ⟨rfl, hb2⟩
end Go.Proofs.YtjhmkapafhgofaaDoor.FrameStreams

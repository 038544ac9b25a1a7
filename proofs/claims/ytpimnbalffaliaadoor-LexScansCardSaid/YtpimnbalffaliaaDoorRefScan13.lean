/-
  The words of a line, as the document tells them (written by gen13r.py).
-/
import Derived.Test.YtpimnbalffaliaaDoorRefScanH13
namespace Go.Proofs.YtpimnbalffaliaaDoor
set_option linter.unusedVariables false
set_option linter.unusedSimpArgs false
open Go.RowKit Go.Lib

set_option maxHeartbeats 3200000 in
theorem RefScan_long (l : List UInt8) (w : World) (h : 200 < l.length) :
    Calls Tryd.prog 9 #[.string ⟨l.toArray⟩] w (RefScanRet w (scanL l)) := by
  have hv : scanL l = ([], 4) := by unfold scanL; rw [if_pos h]
  rw [hv]
  have hz : (200 : Int) < (l.length : Int) := by omega
  go_enter Tryd.func9, Tryd.ntmps9
  go_wp2_with fail
  go_ret2
  exact ⟨none, 0, rfl, OwnT.nil _ _, Below.refl _ _⟩
set_option maxHeartbeats 3200000 in
theorem RefScan_bad (l : List UInt8) (w : World) (h : l.length ≤ 200) (hr : rightB l = false) :
    Calls Tryd.prog 9 #[.string ⟨l.toArray⟩] w (RefScanRet w (scanL l)) := by
  have hv : scanL l = ([], 5) := by unfold scanL; rw [if_neg (by omega), hr]; rfl
  rw [hv]
  have hz : ¬ (200 : Int) < (l.length : Int) := by omega
  have q := RefRight13_any l w (by omega)
  rw [hr] at q
  have Q := Lib.hid q
  clear q hr h
  go_enter Tryd.func9, Tryd.ntmps9
  go_wp2_with fail
  refine Q.out.mono ?_
  rintro e w1 ⟨rfl, rfl⟩
  go_wp2_with fail
  go_ret2
  exact ⟨none, 0, rfl, OwnT.nil _ _, Below.refl _ _⟩
set_option maxHeartbeats 12800000 in
set_option maxRecDepth 100000 in
theorem RefScan_ok (l : List UInt8) (w : World) (h : l.length ≤ 200) (hr : rightB l = true) :
    Calls Tryd.prog 9 #[.string ⟨l.toArray⟩] w (RefScanRet w (scanL l)) := by
  have hv : scanL l = finS (scanF l) := by unfold scanL; rw [if_neg (by omega), hr]; rfl
  rw [hv]
  obtain ⟨RR, hRR⟩ : ∃ R, R = finS (scanF l) := ⟨_, rfl⟩
  rw [← hRR]
  have HRR := Lib.hid (hRR.trans (KN_start l).symm)
  have hz : ¬ (200 : Int) < (l.length : Int) := by omega
  have q := RefRight13_any l w (by omega)
  rw [hr] at q
  have Q := Lib.hid q
  clear q hr hv hRR
  go_enter Tryd.func9, Tryd.ntmps9
  go_wp2_with fail
  refine Q.out.mono ?_
  rintro e w1 ⟨rfl, rfl⟩
  clear Q
  go_wp2_with fail
  go_loopw [4, 5, 6, 7, 8, 9] (fun o i _ _ _ _ wr => Below w.heap.size w wr ∧ ∃ (j : Nat) (out : List Tok), j ≤ l.length ∧ out.length ≤ j ∧ i = .int .i64 (j : Int) ∧ OwnT wr w.heap.size o out ∧ Hid (RR = KN l ⟨out, [], 0⟩ j)) (fun _ i _ _ _ _ _ => l.length - (intOf i).toNat)
  case atStart => exact ⟨Below.refl _ _, 0, [], by omega, by simp, rfl, OwnT.nil _ _, HRR⟩
  case round =>
    obtain ⟨hbw, j, out, hj, ho, rfl, hown, HJ⟩ := hrel
    obtain ⟨Ao, co, rfl, _, _⟩ := hown.form
    have HBW := Lib.hid hbw; have HOWN := Lib.hid hown; have HO := Lib.hid ho
    clear hbw hown ho HRR
    by_cases hlt : j < l.length
    · have hjz : (j : Int) < (l.length : Int) := by omega
      have xj := index_byte l j (j : Int) rfl hlt
      by_cases b1 : byN l j = 32
      · have HN := Lib.hid (HJ.out.trans (P1 hlt b1))
        have z : ((byN l j : Int) == 32) = true := by simp [b1]
        generalize byN l j = B at xj z b1
        clear b1
        go_wp2_with fail
        go_roundw
        case rel => exact ⟨HBW.out, j + 1, out, by omega, Nat.le_succ_of_le HO.out, rfl, HOWN.out, HN⟩
        case measure => simp [intOf]; omega
      · by_cases b2 : byN l j = 34
        · have HQ0 := Lib.hid (HJ.out.trans (Q0 hlt b2))
          have z : ((byN l j : Int) == 32) = false := by simp; omega
          have z2 : ((byN l j : Int) != 34) = false := by simp; omega
          generalize byN l j = B at xj z z2 b1 b2
          clear b1 b2
          go_wp2_with fail
          go_loopw [5, 9] (fun i t wx => wr = wx ∧ ∃ (q : Nat) (T : List UInt8), j + 1 ≤ q ∧ q ≤ l.length ∧ i = .int .i64 (q : Int) ∧ t = .string ⟨T.toArray⟩ ∧ T.length ≤ q ∧ Hid (RR = KN l ⟨out, T, 2⟩ q)) (fun i _ _ => l.length - (intOf i).toNat)
          case atStart => exact ⟨rfl, j + 1, [], Nat.le_refl _, by omega, rfl, rfl, by simp, HQ0⟩
          case round =>
            obtain ⟨rfl, q, T, hq1, hq2, rfl, rfl, hT, HQ⟩ := hrel
            by_cases hl2 : q < l.length
            · have hqz : (q : Int) < (l.length : Int) := by omega
              have hqe : ((q : Int) == (l.length : Int)) = false := by simp; omega
              have xq := index_byte l q (q : Int) rfl hl2
              by_cases c2 : byN l q = 34
              · have y1 : ((byN l q : Int) != 34) = false := by simp [c2]
                by_cases hl3 : q + 1 < l.length
                · have hq3 : (q : Int) + 1 < (l.length : Int) := by omega
                  have xq1 := index_byte l (q + 1) ((q : Int) + 1) rfl hl3
                  by_cases d1 : byN l (q + 1) = 32
                  · have u1 : ((byN l (q + 1) : Int) != 32) = false := by simp [d1]
                    have HE := Lib.hid (HQ.out.trans (Q7 hl2 c2 (.inr ⟨hl3, d1⟩)))
                    have bd := build3 ⟨T.toArray⟩
                    generalize byN l (q + 1) = D at xq1 u1 d1
                    generalize byN l q = C at xq y1 c2
                    clear c2 d1
                    clear HQ0 HQ HJ
                    have HSZ := Lib.hid (show (out.length + 1) * 32 ≤ 140737488355328 by have := HO.out; omega)
                    go_wp2_with (at_builtin; refine wpList_app_one isTok rfl (.tmp 144) (.tmp 147) rfl w _ out.length (flatT out) rfl wr [.int .i64 3, .string ⟨T.toArray⟩, .int .i64 0] rfl HOWN.out rfl rfl (threeT_one ⟨3, T, 0⟩) HSZ.out HBW.out ?_)
                    intro v' w2 ho2 hg2 hb2
                    have own2 := OwnT.push (t := ⟨3, T, 0⟩) ho2
                    obtain ⟨A2, c2, hv2, _, _⟩ := own2.form
                    rw [hv2] at own2
                    rw [hv2]
                    have HOWN2 := Lib.hid own2; have HB2 := Lib.hid hb2
                    clear own2 ho2 hg2 hb2 hv2
                    go_wp2_with fail
                    go_roundw
                    case rel => exact ⟨HB2.out, q + 1, out ++ [⟨3, T, 0⟩], by omega, by have := HO.out; simp; omega, rfl, HOWN2.out, HE⟩
                    case measure => simp [intOf]; omega
                  · have E := Lib.hid (HQ.out.trans (Q6 hl3 c2 d1))
                    have u1 : ((byN l (q + 1) : Int) != 32) = true := by simp; omega
                    generalize byN l (q + 1) = D at xq1 u1 d1
                    generalize byN l q = C at xq y1 c2
                    clear c2 d1
                    go_wp2_with fail
                    go_ret2
                    exact ⟨none, 0, by rw [E.out]; rfl, by rw [E.out]; exact OwnT.nil _ _, HBW.out⟩
                · have hq3 : ¬ (q : Int) + 1 < (l.length : Int) := by omega
                  have HE := Lib.hid (HQ.out.trans (Q7 hl2 c2 (.inl (by omega))))
                  have bd := build3 ⟨T.toArray⟩
                  generalize byN l q = C at xq y1 c2
                  clear c2
                  clear HQ0 HQ HJ
                  have HSZ := Lib.hid (show (out.length + 1) * 32 ≤ 140737488355328 by have := HO.out; omega)
                  go_wp2_with (at_builtin; refine wpList_app_one isTok rfl (.tmp 144) (.tmp 147) rfl w _ out.length (flatT out) rfl wr [.int .i64 3, .string ⟨T.toArray⟩, .int .i64 0] rfl HOWN.out rfl rfl (threeT_one ⟨3, T, 0⟩) HSZ.out HBW.out ?_)
                  intro v' w2 ho2 hg2 hb2
                  have own2 := OwnT.push (t := ⟨3, T, 0⟩) ho2
                  obtain ⟨A2, c2, hv2, _, _⟩ := own2.form
                  rw [hv2] at own2
                  rw [hv2]
                  have HOWN2 := Lib.hid own2; have HB2 := Lib.hid hb2
                  clear own2 ho2 hg2 hb2 hv2
                  go_wp2_with fail
                  go_roundw
                  case rel => exact ⟨HB2.out, q + 1, out ++ [⟨3, T, 0⟩], by omega, by have := HO.out; simp; omega, rfl, HOWN2.out, HE⟩
                  case measure => simp [intOf]; omega
              · have y1 : ((byN l q : Int) != 34) = true := by simp; omega
                by_cases c3 : byN l q = 92
                · have y2 : ((byN l q : Int) == 92) = true := by simp [c3]
                  by_cases hl3 : q + 1 < l.length
                  · have hq3 : ((q : Int) + 1 == (l.length : Int)) = false := by simp; omega
                    have xq1 := index_byte l (q + 1) ((q : Int) + 1) rfl hl3
                    by_cases d : byN l (q + 1) = 34 ∨ byN l (q + 1) = 92
                    · have HN := Lib.hid (HQ.out.trans (Q3 hl3 c3 d))
                      have xs := slice_bytes l (q + 1) (q + 1 + 1) ((q : Int) + 1) ((q : Int) + 1 + 1) rfl rfl (by omega) hl3
                      rw [one_byte l (q + 1) hl3] at xs
                      have xa := cat_bytes T [l.getD (q + 1) 0] (by simp; omega)
                      generalize l.getD (q + 1) 0 = Y at xs xa HN
                      have HD := Lib.hid d
                      clear d
                      by_cases d1 : byN l (q + 1) = 34
                      · have u1 : ((byN l (q + 1) : Int) != 34) = false := by simp [d1]
                        generalize byN l (q + 1) = D at xq1 u1 d1 HD
                        generalize byN l q = C at xq y1 y2 c2 c3
                        clear c2 c3 d1 HD
                        go_wp2_with fail
                        go_roundw
                        case rel => exact ⟨trivial, q + 2, T ++ [Y], by omega, by omega, rfl, rfl, by simp; omega, HN⟩
                        case measure => simp [intOf]; omega
                      · have u1 : ((byN l (q + 1) : Int) != 34) = true := by simp; omega
                        have u2 : ((byN l (q + 1) : Int) != 92) = false := by have := HD.out; simp; omega
                        generalize byN l (q + 1) = D at xq1 u1 u2 d1 HD
                        generalize byN l q = C at xq y1 y2 c2 c3
                        clear c2 c3 d1 HD
                        go_wp2_with fail
                        go_roundw
                        case rel => exact ⟨trivial, q + 2, T ++ [Y], by omega, by omega, rfl, rfl, by simp; omega, HN⟩
                        case measure => simp [intOf]; omega
                    · have E := Lib.hid (HQ.out.trans (Q2 hl3 c3 (by omega) (by omega)))
                      have u1 : ((byN l (q + 1) : Int) != 34) = true := by simp; omega
                      have u2 : ((byN l (q + 1) : Int) != 92) = true := by simp; omega
                      generalize byN l (q + 1) = D at xq1 u1 u2 d
                      generalize byN l q = C at xq y1 y2 c2 c3
                      clear c2 c3 d
                      go_wp2_with fail
                      go_ret2
                      exact ⟨none, 0, by rw [E.out]; rfl, by rw [E.out]; exact OwnT.nil _ _, HBW.out⟩
                  · have hq3 : ((q : Int) + 1 == (l.length : Int)) = true := by simp; omega
                    have E := Lib.hid (HQ.out.trans (Q1 hl2 c3 (by omega)))
                    generalize byN l q = C at xq y1 y2 c2 c3
                    clear c2 c3
                    go_wp2_with fail
                    go_ret2
                    exact ⟨none, 0, by rw [E.out]; rfl, by rw [E.out]; exact OwnT.nil _ _, HBW.out⟩
                · have y2 : ((byN l q : Int) == 92) = false := by simp; omega
                  have HN := Lib.hid (HQ.out.trans (Q4 hl2 c2 c3))
                  have xs := slice_bytes l q (q + 1) (q : Int) ((q : Int) + 1) rfl rfl (by omega) (by omega)
                  rw [one_byte l q hl2] at xs
                  have xa := cat_bytes T [l.getD q 0] (by simp; omega)
                  generalize l.getD q 0 = Y at xs xa HN
                  generalize byN l q = C at xq y1 y2 c2 c3
                  clear c2 c3
                  go_wp2_with fail
                  go_roundw
                  case rel => exact ⟨trivial, q + 1, T ++ [Y], by omega, by omega, rfl, rfl, by simp; omega, HN⟩
                  case measure => simp [intOf]; omega
            · obtain rfl : q = l.length := by omega
              have hqz : ¬ (l.length : Int) < (l.length : Int) := by omega
              have hqe : ((l.length : Int) == (l.length : Int)) = true := by simp
              have E := Lib.hid (HQ.out.trans (Q5 rfl))
              go_wp2_with fail
              go_ret2
              exact ⟨none, 0, by rw [E.out]; rfl, by rw [E.out]; exact OwnT.nil _ _, HBW.out⟩
        · have HQ0 := Lib.hid HJ.out
          have hnb : ∀ q, j ≤ q → byN l q = 32 ∨ byN l q = 34 → j < q := fun q hq hb => by
            by_cases e : j = q
            · subst e; omega
            · omega
          have HNB := Lib.hid hnb
          have z : ((byN l j : Int) == 32) = false := by simp; omega
          have z2 : ((byN l j : Int) != 34) = true := by simp; omega
          generalize byN l j = B at xj z z2 b1 b2
          clear b1 b2 hnb
          go_wp2_with fail
          go_loopw [5] (fun i wx => wr = wx ∧ ∃ q : Nat, j ≤ q ∧ q ≤ l.length ∧ i = .int .i64 (q : Int) ∧ Hid (RR = KN l (plainS out ((l.take q).drop j)) q)) (fun i _ => l.length - (intOf i).toNat)
          case atStart => exact ⟨rfl, j, Nat.le_refl _, hj, rfl, Lib.hid (by rw [HQ0.out, List.drop_eq_nil_of_le (by rw [List.length_take]; omega), plainS_nil])⟩
          case round =>
            obtain ⟨rfl, q, hq1, hq2, rfl, HQ⟩ := hrel
            by_cases hl2 : q < l.length
            · have hqz : (q : Int) < (l.length : Int) := by omega
              have xq := index_byte l q (q : Int) rfl hl2
              by_cases c1 : byN l q = 32
              · have y1 : ((byN l q : Int) != 32) = false := by simp [c1]
                have y2 : ((byN l q : Int) == 34) = false := by simp [c1]
                have hjq : j < q := HNB.out q hq1 (.inl c1)
                have HT := Lib.hid (some_bytes l j q hq2 hjq)
                have HE := Lib.hid (HQ.out.trans (P4 (.inr ⟨hl2, c1⟩) HT.out.1))
                have xs := slice_bytes l j q (j : Int) (q : Int) rfl rfl hq1 hq2
                obtain ⟨T, hT⟩ : ∃ T, T = (l.take q).drop j := ⟨_, rfl⟩
                rw [← hT] at xs HE HT
                have qi := fun w => refInt_any T w (by rw [HT.out.2]; unfold maxLen; omega)
                skip
                unfold retInt at qi
                have hpt : plainT T = (match intSpec T with | some n => ⟨2, [], (n : Int)⟩ | none => ⟨1, T, 0⟩) := rfl
                cases hI : intSpec T with
                | some n =>
                  rw [hI] at qi hpt
                  simp only [Option.getD_some, Option.isSome_some] at qi
                  dsimp only at hpt
                  rw [hpt] at HE
                  have QI := fun w => Lib.hid (qi w)
                  have bd := build2 (n : Int)
                  clear qi hI hpt hT HQ0 HQ HJ
                  go_wp2_with fail
                  refine (QI _).out.mono ?_
                  rintro e w1 ⟨rfl, rfl⟩
                  have HSZ := Lib.hid (show (out.length + 1) * 32 ≤ 140737488355328 by have := HO.out; omega)
                  go_wp2_with (at_builtin; refine wpList_app_one isTok rfl (.tmp 68) (.tmp 71) rfl w _ out.length (flatT out) rfl wr [.int .i64 2, .string ⟨#[]⟩, .int .i64 (n : Int)] rfl HOWN.out rfl rfl (threeT_one ⟨2, [], (n : Int)⟩) HSZ.out HBW.out ?_)
                  intro v' w2 ho2 hg2 hb2
                  have own2 := OwnT.push (t := ⟨2, [], (n : Int)⟩) ho2
                  obtain ⟨A2, c2, hv2, _, _⟩ := own2.form
                  rw [hv2] at own2
                  rw [hv2]
                  have HOWN2 := Lib.hid own2; have HB2 := Lib.hid hb2
                  clear own2 ho2 hg2 hb2 hv2
                  go_wp2_with fail
                  go_roundw
                  case rel => exact ⟨HB2.out, q, out ++ [⟨2, [], (n : Int)⟩], hq2, by have := HO.out; simp; omega, rfl, HOWN2.out, HE⟩
                  case measure => simp [intOf]; omega
                | none =>
                  rw [hI] at qi hpt
                  simp only [Option.getD_none, Option.isSome_none] at qi
                  dsimp only at hpt
                  rw [hpt] at HE
                  have QI := fun w => Lib.hid (qi w)
                  have bd := build1 ⟨T.toArray⟩
                  clear qi hI hpt hT HQ0 HQ HJ
                  go_wp2_with fail
                  refine (QI _).out.mono ?_
                  rintro e w1 ⟨rfl, rfl⟩
                  have HSZ := Lib.hid (show (out.length + 1) * 32 ≤ 140737488355328 by have := HO.out; omega)
                  go_wp2_with (at_builtin; refine wpList_app_one isTok rfl (.tmp 73) (.tmp 79) rfl w _ out.length (flatT out) rfl wr [.int .i64 1, .string ⟨T.toArray⟩, .int .i64 0] rfl HOWN.out rfl rfl (threeT_one ⟨1, T, 0⟩) HSZ.out HBW.out ?_)
                  intro v' w2 ho2 hg2 hb2
                  have own2 := OwnT.push (t := ⟨1, T, 0⟩) ho2
                  obtain ⟨A2, c2, hv2, _, _⟩ := own2.form
                  rw [hv2] at own2
                  rw [hv2]
                  have HOWN2 := Lib.hid own2; have HB2 := Lib.hid hb2
                  clear own2 ho2 hg2 hb2 hv2
                  go_wp2_with fail
                  go_roundw
                  case rel => exact ⟨HB2.out, q, out ++ [⟨1, T, 0⟩], hq2, by have := HO.out; simp; omega, rfl, HOWN2.out, HE⟩
                  case measure => simp [intOf]; omega
              · by_cases c2 : byN l q = 34
                · have hjq : j < q := HNB.out q hq1 (.inr c2)
                  have E := Lib.hid (HQ.out.trans (P3 hl2 c2 (some_bytes l j q hq2 hjq).1))
                  have y1 : ((byN l q : Int) != 32) = true := by simp; omega
                  have y2 : ((byN l q : Int) != 34) = false := by simp [c2]
                  have y3 : ((byN l q : Int) == 34) = true := by simp [c2]
                  generalize byN l q = C at xq y1 y2 y3 c1 c2
                  clear c1 c2
                  go_wp2_with fail
                  go_ret2
                  exact ⟨none, 0, by rw [E.out]; rfl, by rw [E.out]; exact OwnT.nil _ _, HBW.out⟩
                · have HN := Lib.hid (HQ.out.trans (P2 hl2 c1 c2))
                  have y1 : ((byN l q : Int) != 32) = true := by simp; omega
                  have y2 : ((byN l q : Int) != 34) = true := by simp; omega
                  generalize byN l q = C at xq y1 y2 c1 c2
                  clear c1 c2
                  go_wp2_with fail
                  go_roundw
                  case rel => exact ⟨trivial, q + 1, by omega, by omega, rfl, Lib.hid (by rw [HN.out, more_bytes l j q hl2 hq1])⟩
                  case measure => simp [intOf]; omega
            · have hqe : q = l.length := by omega
              have hqz : ¬ (q : Int) < (l.length : Int) := by omega
              have hjq : j < q := by omega
              have HT := Lib.hid (some_bytes l j q hq2 hjq)
              have HE := Lib.hid (HQ.out.trans (P4 (.inl hqe) HT.out.1))
              have xs := slice_bytes l j q (j : Int) (q : Int) rfl rfl hq1 hq2
              obtain ⟨T, hT⟩ : ∃ T, T = (l.take q).drop j := ⟨_, rfl⟩
              rw [← hT] at xs HE HT
              have qi := fun w => refInt_any T w (by rw [HT.out.2]; unfold maxLen; omega)
              clear hqe
              unfold retInt at qi
              have hpt : plainT T = (match intSpec T with | some n => ⟨2, [], (n : Int)⟩ | none => ⟨1, T, 0⟩) := rfl
              cases hI : intSpec T with
              | some n =>
                rw [hI] at qi hpt
                simp only [Option.getD_some, Option.isSome_some] at qi
                dsimp only at hpt
                rw [hpt] at HE
                have QI := fun w => Lib.hid (qi w)
                have bd := build2 (n : Int)
                clear qi hI hpt hT HQ0 HQ HJ
                go_wp2_with fail
                refine (QI _).out.mono ?_
                rintro e w1 ⟨rfl, rfl⟩
                have HSZ := Lib.hid (show (out.length + 1) * 32 ≤ 140737488355328 by have := HO.out; omega)
                go_wp2_with (at_builtin; refine wpList_app_one isTok rfl (.tmp 68) (.tmp 71) rfl w _ out.length (flatT out) rfl wr [.int .i64 2, .string ⟨#[]⟩, .int .i64 (n : Int)] rfl HOWN.out rfl rfl (threeT_one ⟨2, [], (n : Int)⟩) HSZ.out HBW.out ?_)
                intro v' w2 ho2 hg2 hb2
                have own2 := OwnT.push (t := ⟨2, [], (n : Int)⟩) ho2
                obtain ⟨A2, c2, hv2, _, _⟩ := own2.form
                rw [hv2] at own2
                rw [hv2]
                have HOWN2 := Lib.hid own2; have HB2 := Lib.hid hb2
                clear own2 ho2 hg2 hb2 hv2
                go_wp2_with fail
                go_roundw
                case rel => exact ⟨HB2.out, q, out ++ [⟨2, [], (n : Int)⟩], hq2, by have := HO.out; simp; omega, rfl, HOWN2.out, HE⟩
                case measure => simp [intOf]; omega
              | none =>
                rw [hI] at qi hpt
                simp only [Option.getD_none, Option.isSome_none] at qi
                dsimp only at hpt
                rw [hpt] at HE
                have QI := fun w => Lib.hid (qi w)
                have bd := build1 ⟨T.toArray⟩
                clear qi hI hpt hT HQ0 HQ HJ
                go_wp2_with fail
                refine (QI _).out.mono ?_
                rintro e w1 ⟨rfl, rfl⟩
                have HSZ := Lib.hid (show (out.length + 1) * 32 ≤ 140737488355328 by have := HO.out; omega)
                go_wp2_with (at_builtin; refine wpList_app_one isTok rfl (.tmp 73) (.tmp 79) rfl w _ out.length (flatT out) rfl wr [.int .i64 1, .string ⟨T.toArray⟩, .int .i64 0] rfl HOWN.out rfl rfl (threeT_one ⟨1, T, 0⟩) HSZ.out HBW.out ?_)
                intro v' w2 ho2 hg2 hb2
                have own2 := OwnT.push (t := ⟨1, T, 0⟩) ho2
                obtain ⟨A2, c2, hv2, _, _⟩ := own2.form
                rw [hv2] at own2
                rw [hv2]
                have HOWN2 := Lib.hid own2; have HB2 := Lib.hid hb2
                clear own2 ho2 hg2 hb2 hv2
                go_wp2_with fail
                go_roundw
                case rel => exact ⟨HB2.out, q, out ++ [⟨1, T, 0⟩], hq2, by have := HO.out; simp; omega, rfl, HOWN2.out, HE⟩
                case measure => simp [intOf]; omega
    · obtain rfl : j = l.length := by omega
      have E := Lib.hid (HJ.out.trans (R0 rfl))
      have hjz : ¬ (l.length : Int) < (l.length : Int) := by omega
      go_wp2_with fail
      go_ret2
      exact ⟨Ao, co, by rw [E.out]; rfl, by rw [E.out]; exact HOWN.out, HBW.out⟩
theorem RefScan_any (l : List UInt8) (w : World) :
    Calls Tryd.prog 9 #[.string ⟨l.toArray⟩] w (RefScanRet w (scanL l)) := by
  by_cases h : l.length ≤ 200
  · cases hr : rightB l with
    | true => exact RefScan_ok l w h hr
    | false => exact RefScan_bad l w h hr
  · exact RefScan_long l w (by omega)
end Go.Proofs.YtpimnbalffaliaaDoor

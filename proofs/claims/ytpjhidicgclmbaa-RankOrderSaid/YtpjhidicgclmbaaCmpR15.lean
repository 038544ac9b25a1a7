/-
  Which of two candidates is taken, and at which step: the document's answer.
-/
import Derived.Test.YtpjhidicgclmbaaCmpP15
import Derived.Test.YtpjhidicgclmbaaBest15
import Derived.Test.YtpjhidicgclmbaaAgg15
namespace Go.Proofs.Ytpjhidicgclmbaa
set_option linter.unusedVariables false
set_option linter.unusedSimpArgs false
open Go.RowKit

theorem goes_self (s : Nat) (x : Rn) : goesB s x x = false := by unfold goesB; simp
theorem left_two (K : Nat → Rn) (s : Nat) : (goesB s (K 1) (K 0) = true → leftK K s [0, 1] = [0]) ∧ (goesB s (K 0) (K 1) = true → leftK K s [0, 1] = [1]) ∧ (goesB s (K 1) (K 0) = false → goesB s (K 0) (K 1) = false → leftK K s [0, 1] = [0, 1]) := by
  have ne : goesB s (K 1) (K 0) = true → goesB s (K 0) (K 1) = false := by
    intro h
    unfold goesB at h ⊢
    simp only [Bool.and_eq_true, decide_eq_true_eq] at h
    rw [decide_eq_false (by omega)]
    simp
  refine ⟨fun h => ?_, fun h => ?_, fun h h2 => ?_⟩
  · have h2 := ne h
    simp [leftK, List.filter_cons, goes_self, h, h2]
  · have h2 : goesB s (K 1) (K 0) = false := by
      cases h3 : goesB s (K 1) (K 0) with
      | false => rfl
      | true => rw [ne h3] at h; cases h
    simp [leftK, List.filter_cons, goes_self, h, h2]
  · simp [leftK, List.filter_cons, goes_self, h, h2]
theorem pair_ref {x y : Rn} {s : Nat} (h1 : 1 ≤ s) (h8 : s ≤ 8) : pairF x y (9 - s) s = if goesB s y x then (-1, (s : Int)) else if goesB s x y then (1, (s : Int)) else pairF x y (9 - (s + 1)) (s + 1) := by
  have e : 9 - s = (9 - (s + 1)) + 1 := by omega
  rw [e]
  rfl
def CmpRelR (w : World) (x y : Rn) (v i : Value) (wr : World) : Prop :=
  Below w.heap.size w wr ∧ ∃ (s : Nat) (A : Option Addr) (c : Nat), 1 ≤ s ∧ s ≤ 9 ∧ i = .int .i64 (s : Int) ∧ v = .slice A 2 c ∧ IntsAt wr wr.heap.size A (ints [0, 1]) ∧ Hid (pairF x y 8 1 = pairF x y (9 - s) s)

set_option maxRecDepth 100000 in
set_option maxHeartbeats 12800000 in
theorem RefCompare_any (a b : Cv) (w : World) (ha : a.In w w.heap.size) (hb : b.In w w.heap.size) (ka : CntOk a) (kb : CntOk b) :
    Calls Try.prog 13 #[a.agg, b.agg] w fun e w' => e = .returned (retPair (pairZ a b)) ∧ Below w.heap.size w w' := by
  have hz : pairZ a b = pairF (keyL [a, b] 0) (keyL [a, b] 1) 8 1 := (pair_z a b (0 : Int) (1 : Int) 8 1).symm
  rw [hz]
  have QP := Lib.hid (fun W => places_any 2 W (by decide))
  have hb0 := ((Below.refl w.heap.size w).alloc (Nat.le_refl _) (.cells a.row.toArray 34)).alloc (by simp <;> omega) (.cells b.row.toArray 34)
  have hbc := hb0.alloc (by simp <;> omega) (.cells (flatC [a, b]).toArray 34)
  have HCN := Lib.hid (cands_new ((w.alloc (.cells a.row.toArray 34)).alloc (.cells b.row.toArray 34)) 34 [a, b] (fun s hs => by
    rcases List.mem_cons.1 hs with rfl | hs
    · exact ha.go hb0
    · rw [List.mem_singleton.1 hs]; exact hb.go hb0))
  have HKK := Lib.hid (show ∀ t ∈ [a, b], CntOk t from fun s hs => by
    rcases List.mem_cons.1 hs with rfl | hs
    · exact ka
    · rw [List.mem_singleton.1 hs]; exact kb)
  have HT := Lib.hid (left_two (keyL [a, b]))
  have HBC := Lib.hid hbc
  have QL := Lib.hid (fun (A AI : Option Addr) (c ci s : Nat) (W : World) (h : CandsIn W W.heap.size A [a, b]) (hi : IntsAt W W.heap.size AI (ints [0, 1])) (hs : 1 ≤ s ∧ s ≤ 8) => left_any A AI c ci [a, b] [0, 1] s 2 rfl W h HKK.out hi (fun i hi => by simp at hi ⊢; omega) (by simp) (by simp) hs)
  simp only [List.length_cons, List.length_nil, Nat.zero_add, show (1 + 1 : Nat) = 2 from rfl] at QL
  obtain ⟨K, hK⟩ : ∃ K, K = keyL [a, b] := ⟨_, rfl⟩
  rw [← hK] at HT QL ⊢
  obtain ⟨L, hL⟩ : ∃ L, L = [a, b] := ⟨_, rfl⟩
  have hflat : flatC [a, b] = a.row ++ b.row := by simp [flatC]
  rw [hflat] at HBC HCN
  rw [← hL] at QL HCN
  clear ha hb ka kb hz hb0 hbc hK hL hflat HKK
  obtain ⟨peer1, ext1, near1, id1, addr1, org1, pathA1, pathC1, path1, next1, med1, pref1, atomic1, has1, aas1, aad1, commsA1, commsN1, commsC1, rawsA1, rawsN1, rawsC1⟩ := a
  obtain ⟨peer2, ext2, near2, id2, addr2, org2, pathA2, pathC2, path2, next2, med2, pref2, atomic2, has2, aas2, aad2, commsA2, commsN2, commsC2, rawsA2, rawsN2, rawsC2⟩ := b
  unfold Cv.agg Cv.row at *
  simp only [List.cons_append, List.nil_append] at HBC HCN
  dsimp only at HBC HCN ⊢
  obtain ⟨Wc, hWc⟩ : ∃ W, W = ((w.alloc (.cells #[.int .i64 peer1, .bool ext1, .int .u32 near1, .int .u32 id1, .int .u32 addr1, .int .i64 org1, .slice pathA1 path1.length pathC1, .int .u32 next1, .int .i64 med1, .int .i64 pref1, .bool atomic1, .bool has1, .int .u32 aas1, .int .u32 aad1, .slice commsA1 commsN1 commsC1, .slice rawsA1 rawsN1 rawsC1] 34)).alloc (.cells #[.int .i64 peer2, .bool ext2, .int .u32 near2, .int .u32 id2, .int .u32 addr2, .int .i64 org2, .slice pathA2 path2.length pathC2, .int .u32 next2, .int .i64 med2, .int .i64 pref2, .bool atomic2, .bool has2, .int .u32 aas2, .int .u32 aad2, .slice commsA2 commsN2 commsC2, .slice rawsA2 rawsN2 rawsC2] 34)).alloc (.cells #[.int .i64 peer1, .bool ext1, .int .u32 near1, .int .u32 id1, .int .u32 addr1, .int .i64 org1, .slice pathA1 path1.length pathC1, .int .u32 next1, .int .i64 med1, .int .i64 pref1, .bool atomic1, .bool has1, .int .u32 aas1, .int .u32 aad1, .slice commsA1 commsN1 commsC1, .slice rawsA1 rawsN1 rawsC1, .int .i64 peer2, .bool ext2, .int .u32 near2, .int .u32 id2, .int .u32 addr2, .int .i64 org2, .slice pathA2 path2.length pathC2, .int .u32 next2, .int .i64 med2, .int .i64 pref2, .bool atomic2, .bool has2, .int .u32 aas2, .int .u32 aad2, .slice commsA2 commsN2 commsC2, .slice rawsA2 rawsN2 rawsC2] 34) := ⟨_, rfl⟩
  have e2 : ((w.alloc (.cells #[.int .i64 peer1, .bool ext1, .int .u32 near1, .int .u32 id1, .int .u32 addr1, .int .i64 org1, .slice pathA1 path1.length pathC1, .int .u32 next1, .int .i64 med1, .int .i64 pref1, .bool atomic1, .bool has1, .int .u32 aas1, .int .u32 aad1, .slice commsA1 commsN1 commsC1, .slice rawsA1 rawsN1 rawsC1] 34)).alloc (.cells #[.int .i64 peer2, .bool ext2, .int .u32 near2, .int .u32 id2, .int .u32 addr2, .int .i64 org2, .slice pathA2 path2.length pathC2, .int .u32 next2, .int .i64 med2, .int .i64 pref2, .bool atomic2, .bool has2, .int .u32 aas2, .int .u32 aad2, .slice commsA2 commsN2 commsC2, .slice rawsA2 rawsN2 rawsC2] 34)).heap.size = w.heap.size + 1 + 1 := by simp
  rw [e2] at HCN
  rw [← hWc] at HBC HCN
  have HWC := Lib.hid hWc
  clear hWc e2
  go_enter Try.func13, Try.ntmps13
  go_wp2_with fail
  rw [← HWC.out]
  refine (QP.out _).mono ?_
  rintro e w1 ⟨A1, c1, rfl, _, _, ho, hb1⟩
  rw [ints_len, List.length_range]
  have HC1 := Lib.hid (HCN.out.go hb1)
  have HB1 := Lib.hid (HBC.out.trans (hb1.mono HBC.out.size))
  have HI1 := Lib.hid (show IntsAt w1 w1.heap.size A1 (ints [0, 1]) from ho.at)
  clear ho hb1 HCN HBC HWC QP
  go_wp2_with fail
  go_loopw [7, 8] (fun v i wr => CmpRelR w (K 0) (K 1) v i wr ∧ CandsIn wr wr.heap.size (some ⟨w.heap.size + 1 + 1, 0, none⟩) L) (fun _ i _ => 9 - (intOf i).toNat)
  case atStart => exact ⟨⟨HB1.out, 1, A1, c1, by omega, by omega, rfl, rfl, HI1.out, Lib.hid rfl⟩, HC1.out⟩
  case round =>
    obtain ⟨⟨hbr, s, A2, c2, hs1, hs9, rfl, rfl, hI, HP⟩, hC⟩ := hrel
    clear HC1 HB1 HI1
    have HB := Lib.hid hbr; have HI := Lib.hid hI; have HC := Lib.hid hC
    by_cases hlt : s ≤ 8
    · have hltI : (s : Int) ≤ 8 := by omega
      have HLT := Lib.hid hlt; have HS1 := Lib.hid hs1
      have Q := Lib.hid (QL.out _ A2 2 c2 s wr hC hI ⟨hs1, hlt⟩)
      have HST := Lib.hid (HP.out.trans (pair_ref hs1 hlt))
      have HT3 := Lib.hid (HT.out s)
      clear hbr hI hC HP hs9
      by_cases g1 : goesB s (K 1) (K 0) = true
      · have HE := Lib.hid (show pairF (K 0) (K 1) 8 1 = (-1, (s : Int)) by rw [HST.out, g1]; rfl)
        have e := HT3.out.1 g1
        rw [e] at Q
        clear HST HT3 e g1
        go_wp2_with fail
        refine Q.out.mono ?_
        rintro e w2 ⟨A3, c3, rfl, _, _, ho, hb2⟩
        have HB2 := Lib.hid (HB.out.trans (hb2.mono HB.out.size))
        obtain ⟨bb, oo, rfl, hbb, hint⟩ := ho.at.at (j := 0) (u := ((0 : Nat) : Int)) rfl
        have k0 := hint 0 _ rfl
        rw [Nat.add_zero] at k0
        rw [show (ints [0]).length = 1 from rfl]
        clear ho hb2 hint
        go_wp2_with fail
        go_ret2
        exact ⟨by rw [HE.out]; rfl, HB2.out⟩
      · have g1' : goesB s (K 1) (K 0) = false := by simpa using g1
        by_cases g2 : goesB s (K 0) (K 1) = true
        · have HE := Lib.hid (show pairF (K 0) (K 1) 8 1 = (1, (s : Int)) by rw [HST.out, g1', g2]; rfl)
          have e := HT3.out.2.1 g2
          rw [e] at Q
          clear HST HT3 e g1 g1' g2
          go_wp2_with fail
          refine Q.out.mono ?_
          rintro e w2 ⟨A3, c3, rfl, _, _, ho, hb2⟩
          have HB2 := Lib.hid (HB.out.trans (hb2.mono HB.out.size))
          obtain ⟨bb, oo, rfl, hbb, hint⟩ := ho.at.at (j := 0) (u := ((1 : Nat) : Int)) rfl
          have k0 := hint 0 _ rfl
          rw [Nat.add_zero] at k0
          rw [show (ints [1]).length = 1 from rfl]
          clear ho hb2 hint
          go_wp2_with fail
          go_ret2
          exact ⟨by rw [HE.out]; rfl, HB2.out⟩
        · have g2' : goesB s (K 0) (K 1) = false := by simpa using g2
          have HE := Lib.hid (show pairF (K 0) (K 1) 8 1 = pairF (K 0) (K 1) (9 - (s + 1)) (s + 1) by rw [HST.out, g1', g2']; rfl)
          have e := HT3.out.2.2 g1' g2'
          rw [e] at Q
          clear HST HT3 e g1 g1' g2 g2'
          go_wp2_with fail
          refine Q.out.mono ?_
          rintro e w2 ⟨A3, c3, rfl, _, _, ho, hb2⟩
          have HB2 := Lib.hid (HB.out.trans (hb2.mono HB.out.size))
          have HC2 := Lib.hid (HC.out.go hb2)
          have HI2 := Lib.hid ho.at
          rw [show (ints [0, 1]).length = 2 from rfl]
          clear ho hb2
          go_wp2_with fail
          go_roundw
          case rel => exact ⟨⟨HB2.out, s + 1, A3, c3, by have := HS1.out; omega, by have := HLT.out; omega, by go_num, rfl, HI2.out, HE⟩, HC2.out⟩
          case measure => have := HLT.out; simp [intOf]; omega
    · obtain rfl : s = 9 := by omega
      clear hbr hI hC
      have HE := Lib.hid HP.out
      clear HP
      go_wp2_with fail
      go_ret2
      exact ⟨by rw [HE.out]; rfl, HB.out⟩
end Go.Proofs.Ytpjhidicgclmbaa

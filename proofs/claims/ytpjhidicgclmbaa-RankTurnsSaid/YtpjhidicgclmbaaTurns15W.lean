/-
  RankTurns' walk.
-/
import Derived.Test.YtpjhidicgclmbaaOwnC15
namespace Go.Proofs.Ytpjhidicgclmbaa
set_option linter.unusedVariables false
set_option linter.unusedSimpArgs false
open Go.RowKit

def TurnRel (W : World) (L : List Cv) (f : Nat) (v u i : Value) (wr : World) : Prop :=
  Below W.heap.size W wr ∧ ∃ k : Nat, k ≤ L.length ∧ i = .int .i64 (k : Int) ∧ TwoC wr W.heap.size v u (backL L k) (onL L f k)
def PeerAt (w : World) (b off : Nat) (L : List Cv) : Prop := ∀ (j : Nat) (s : Cv), L[j]? = some s → w.cell? ⟨b, off + j * 16, none⟩ = some (.int .i64 s.peer)

set_option maxRecDepth 100000 in
set_option maxHeartbeats 25600000 in
theorem RankTurns.walk (a : Option Addr) (c : Nat) (L : List Cv) (z : Int) (W : World) (h : CandsIn W W.heap.size a L) (hw : ∀ s ∈ L, Wt reachBytes s.path) (hz : (Lit.int .i64 z).wf = true) :
    Calls Try.prog 7 #[.slice a L.length c, .int .i64 z] W fun e w' => e = .returned (.bool true) ∧ Below W.heap.size W w' := by
  have HC := Lib.hid h; have HW := Lib.hid hw
  have QF := Lib.hid (few_any a c L 30 W h (by decide))
  have QA := Lib.hid (fun W => awake15_any W)
  have e30 : ((30 : Nat) : Int) = 30 := rfl
  rw [e30] at QF
  clear h hw e30 hz
  go_enter Try.func7, Try.ntmps7
  go_wp2_with fail
  refine QF.out.mono ?_
  rintro e w1 ⟨b, rfl, hfew, hb1⟩
  have HB1 := Lib.hid hb1
  clear QF
  cases b with
  | false =>
    clear hfew hb1
    go_wp2_with fail
    refine (QA.out _).mono ?_
    rintro e w2 ⟨rfl, hb2⟩
    have HB2 := Lib.hid (HB1.out.trans (hb2.mono HB1.out.size))
    clear hb2
    go_wp2_with fail
    go_ret
    exact ⟨rfl, HB2.out⟩
  | true =>
    obtain ⟨hlen, hall⟩ := hfew rfl
    have HK := Lib.hid (cnts_ok HW.out hall)
    by_cases h0 : L.length = 0
    · have h0I : ((L.length : Int) == 0) = true := by simp [h0]
      clear hfew hb1 hlen hall h0
      go_wp2_with fail
      refine (QA.out _).mono ?_
      rintro e w2 ⟨rfl, hb2⟩
      have HB2 := Lib.hid (HB1.out.trans (hb2.mono HB1.out.size))
      clear hb2
      go_wp2_with fail
      go_ret
      exact ⟨rfl, HB2.out⟩
    · have h0I : ((L.length : Int) == 0) = false := by simpa using h0
      obtain ⟨bl, off, rfl⟩ : ∃ b off, a = some ⟨b, off, none⟩ := by
        obtain ⟨s, hs⟩ : ∃ s, L[0]? = some s := ⟨_, List.getElem?_eq_getElem (by omega)⟩
        obtain ⟨b, off, e, _⟩ := HC.out.at hs
        exact ⟨b, off, e⟩
      -- where the second list begins
      obtain ⟨K, hK⟩ : ∃ K, K = IntKind.u64.wrap z := ⟨_, rfl⟩
      have hK0 : 0 ≤ K := by rw [hK, IntKind.wrap_u64]; omega
      have eK : IntKind.u64.wrap z = K := hK.symm
      obtain ⟨n, hn⟩ : ∃ n, n = L.length := ⟨_, rfl⟩
      have hnp : 0 < n := by omega
      have hn30 : n ≤ 30 := by omega
      have hpI : 0 < (n : Int) := by omega
      have hml : K % (n : Int) < n := Int.emod_lt_of_pos K hpI
      have hm0 : 0 ≤ K % (n : Int) := Int.emod_nonneg K (by omega)
      obtain ⟨f, hf⟩ : ∃ f : Nat, K % (n : Int) = (f : Int) := Int.eq_ofNat_of_zero_le hm0
      have hfn : f < n := by omega
      have eN : IntKind.u64.wrap (n : Int) = (n : Int) := IntWalk.u64_in _ (by omega)
      have eT : K.tmod (n : Int) = (f : Int) := by rw [Int.tmod_eq_emod_of_nonneg hK0, hf]
      have eF : IntKind.u64.wrap (f : Int) = (f : Int) := IntWalk.u64_in _ (by omega)
      have eF2 : IntKind.i64.wrap (f : Int) = (f : Int) := IntWalk.i64_in _ (by omega)
      have enz : ((n : Int) == 0) = false := by simpa using (show ¬ (n : Int) = 0 by omega)
      have HN := Lib.hid hn; have HFN := Lib.hid hfn; have HNP := Lib.hid hnp; have HN30 := Lib.hid hn30
      rw [← hn] at h0I
      rw [← hn]
      clear hfew hb1 hlen hall h0 hK hn hml hm0 hf hfn hpI
      go_wp2_with fail
      go_loopw [5, 6, 9] (fun v u i wr => TurnRel W L f v u i wr) (fun _ _ i _ => n - (intOf i).toNat)
      case atStart => exact ⟨HB1.out, 0, Nat.zero_le _, rfl, ⟨OwnC.nil _ _, OwnC.nil _ _, .inl rfl⟩⟩
      case round =>
        obtain ⟨hbr, k, hk, rfl, hT⟩ := hrel
        clear HB1
        obtain ⟨w4, h4⟩ : ∃ w, w = wr := ⟨_, rfl⟩
        subst h4
        have HBR := Lib.hid hbr; have HT := Lib.hid hT
        rw [← HN.out] at hk
        clear hbr hT
        by_cases hlt : k < n
        · obtain ⟨sk, hsk⟩ : ∃ s, L[k]? = some s := ⟨_, List.getElem?_eq_getElem (by rw [← HN.out]; exact hlt)⟩
          have HSK := Lib.hid hsk
          have HROW := Lib.hid (fun (w : World) (h : Below W.heap.size W w) (j : Nat) (s : Cv) (hj : L[j]? = some s) => (HC.out.go h).row hj)
          have HLT := Lib.hid hlt
          clear hsk
          go_wp2_with fail
          go_loopw [10] (fun i wx => ∃ j m : Nat, j ≤ k ∧ i = .int .i64 (j : Int) ∧ wx = w4.drewN m) (fun i _ => k - (intOf i).toNat)
          case atStart => exact ⟨0, 0, Nat.zero_le _, rfl, rfl⟩
          case round =>
            obtain ⟨j, m, hj, rfl, hwx⟩ := hrel
            obtain ⟨w5, h5⟩ : ∃ w, w = wr := ⟨_, rfl⟩
            subst h5
            have HW5 := Lib.hid hwx
            have HB5 := Lib.hid (show Below W.heap.size W w5 by rw [hwx]; exact below_drewN HBR.out m)
            clear hwx
            by_cases hjk : j < k
            · obtain ⟨sj, hsj⟩ : ∃ s, L[j]? = some s := ⟨_, List.getElem?_eq_getElem (by rw [← HN.out]; omega)⟩
              have cj : w5.cell? ⟨bl, off + j * 16, none⟩ = some (.int .i64 sj.peer) := HROW.out w5 HB5.out j sj hsj 0 _ rfl
              have ck : w5.cell? ⟨bl, off + k * 16, none⟩ = some (.int .i64 sk.peer) := HROW.out w5 HB5.out k sk HSK.out 0 _ rfl
              have hjn : j < n := by omega
              have HJK := Lib.hid hjk
              have hj30 : j + 1 ≤ 1000 := by have := HN30.out; omega
              clear hsj
              by_cases hpe : sj.peer = sk.peer
              · have hpt : (sj.peer == sk.peer) = true := by simpa using hpe
                clear hpe
                go_wp2_with fail
                go_quiet (fail)
                go_wp2_with fail
                refine (QA.out _).mono ?_
                rintro e w6 ⟨rfl, hb6⟩
                have HB6 := Lib.hid (below_two (below_drewN HB5.out _) hb6)
                clear hb6
                go_wp2_with fail
                go_ret
                exact ⟨rfl, HB6.out⟩
              · have hpt : (sj.peer == sk.peer) = false := by simpa using hpe
                clear hpe
                go_wp2_with fail
                go_quiet (fail)
                go_wp2_with fail
                go_roundw
                case rel => exact ⟨j + 1, _, HJK.out, by go_num, by rw [HW5.out]; exact World.drewN_drewN _ _ _⟩
                case measure => have := HJK.out; simp [intOf]; omega
            · obtain rfl : j = k := by omega
              have HT5 := Lib.hid (show TwoC w5 W.heap.size _ _ (backL L j) (onL L f j) by rw [HW5.out]; exact HT.out.below (below_drewN (Below.refl _ _) m))
              obtain ⟨p, hp⟩ : ∃ p, p = n - 1 - j := ⟨_, rfl⟩
              have hpn : p < n := by omega
              have eP : (n : Int) - 1 - (j : Int) = (p : Int) := by omega
              obtain ⟨r, hr⟩ : ∃ r, r = (j + f) % n := ⟨_, rfl⟩
              have hrn : r < n := by rw [hr]; exact Nat.mod_lt _ HNP.out
              have eR : ((j : Int) + (f : Int)) % (n : Int) = (r : Int) := by rw [hr, Int.natCast_emod, Int.natCast_add]
              have eR2 : ((j : Int) + (f : Int)).tmod (n : Int) = (r : Int) := by rw [Int.tmod_eq_emod_of_nonneg (by omega)]; exact eR
              obtain ⟨s1, hs1⟩ : ∃ s, L[p]? = some s := ⟨_, List.getElem?_eq_getElem (by rw [← HN.out]; exact hpn)⟩
              obtain ⟨s2, hs2⟩ : ∃ s, L[r]? = some s := ⟨_, List.getElem?_eq_getElem (by rw [← HN.out]; exact hrn)⟩
              have HBK := Lib.hid (show backL L (j + 1) = backL L j ++ [s1] by rw [back_snoc, ← HN.out, ← hp, List.getD_eq_getElem?_getD, hs1]; rfl)
              have HON := Lib.hid (show onL L f (j + 1) = onL L f j ++ [s2] by rw [on_snoc, ← HN.out, ← hr, List.getD_eq_getElem?_getD, hs2]; rfl)
              have HS1 := Lib.hid hs1; have HS2 := Lib.hid hs2
              have HL1 := Lib.hid (show (backL L j).length ≤ 100000 by have := HN30.out; simp [backL]; omega)
              have HL2 := Lib.hid (show (onL L f j).length ≤ 100000 by have := HN30.out; simp [onL]; omega)
              have hj30 : j + 1 ≤ 1000 := by have := HN30.out; omega
              have hf30 : f ≤ 1000 := by have := HFN.out; have := HN30.out; omega
              have HRV := Lib.hid (HROW.out w5 HB5.out p s1 hs1)
              clear hp hr hs1 hs2 HT
              go_wp2_with (first
                | (refine wpList_loadC _ rfl (.tmp 59) rfl bl (off + p * 16) s1 rfl HRV.out ?_)
                | (refine wpList_build1C _ rfl (.tmp 60) rfl s1 rfl ?_)
                | (refine wpList_app1 (c := s1) _ w5 rfl rfl (.tmp 53) (.tmp 61) rfl W.heap.size _ _ _ _ rfl HT5.out HB5.out.size rfl HL1.out ?_))
              intro vb w6 hT6 hb6
              have HB6 := Lib.hid (HB5.out.trans hb6)
              have HT6 := Lib.hid hT6
              have HRW := Lib.hid (HROW.out w6 HB6.out r s2 HS2.out)
              clear hT6 hb6 HRV HT5
              go_wp2_with (first
                | (refine wpList_loadC _ rfl (.tmp 70) rfl bl (off + r * 16) s2 rfl HRW.out ?_)
                | (refine wpList_build1C _ rfl (.tmp 71) rfl s2 rfl ?_)
                | (refine wpList_app2 (c := s2) _ w6 rfl rfl (.tmp 63) (.tmp 72) rfl W.heap.size _ _ _ _ rfl HT6.out HB6.out.size rfl HL2.out ?_))
              intro vo w7 hT7 hb7
              have HB7 := Lib.hid (HB6.out.trans hb7)
              have HT7 := Lib.hid (show TwoC w7 W.heap.size vb vo (backL L (j + 1)) (onL L f (j + 1)) by rw [HBK.out, HON.out]; exact hT7)
              clear hT7 hb7 HRW HT6
              go_wp2_with fail
              go_roundw
              case rel => exact ⟨HB7.out, j + 1, by rw [← HN.out]; exact HLT.out, by go_num, HT7.out⟩
              case measure => have := HLT.out; simp [intOf]; omega
        · obtain rfl : k = n := by omega
          have HBL := Lib.hid (show (backL L k).length = k by simp [backL])
          have HOL := Lib.hid (show (onL L f k).length = k by simp [onL])
          have HIN := Lib.hid (fun (w : World) (h : Below W.heap.size W w) (s : Cv) (hs : s ∈ L) => by
            obtain ⟨q, hq, hq2⟩ := List.mem_iff_getElem.1 hs
            exact (HC.out.go h).inn (show L[q]? = some s by rw [List.getElem?_eq_getElem hq, hq2]))
          obtain ⟨Ab, cb, e1⟩ := HT.out.one.form
          obtain ⟨Ao, co, e2⟩ := HT.out.two.form
          rw [HBL.out] at e1
          rw [HOL.out] at e2
          subst e1
          subst e2
          have hbm := back_mem (L := L) (k := k) (by rw [← HN.out]; omega)
          have hom := on_mem (L := L) (f := f) (k := k) (by rw [← HN.out]; exact HNP.out)
          obtain ⟨i1, i2, x, y, p1, p2, p3, p4, p5, p6, p7⟩ := same_peer (L := L) (M := backL L k) (by rw [← HN.out]; exact HNP.out) (by rw [HBL.out]; exact HNP.out) (fun s hs => by have := back_all s hs; rw [← HN.out] at this; exact this) hbm
          obtain ⟨i1', i3, x', y', r1, r2, r3, r4, r5, r6, r7⟩ := same_peer (L := L) (M := onL L f k) (by rw [← HN.out]; exact HNP.out) (by rw [HOL.out]; exact HNP.out) (fun s hs => by have := on_all (f := f) (by rw [← HN.out]; exact HFN.out) s hs; rw [← HN.out] at this; exact this) hom
          have e3 : i1' = i1 := by rw [p1] at r1; omega
          subst e3
          have e4 : x' = x := by rw [p3] at r3; exact (Option.some.inj r3).symm
          subst e4
          have Q1 := Lib.hid (fun (w : World) (h : Below W.heap.size W w) => Best_any (some ⟨bl, off, none⟩) c L w (HC.out.go h) HK.out (by rw [← HN.out]; have := HN30.out; omega))
          have Q2 := Lib.hid (fun (w : World) (h : Below W.heap.size W w) (ht : Below w4.heap.size w4 w) => Best_any Ab cb (backL L k) w ((HT.out.one.below ht).cands (fun s hs => HIN.out w h s (hbm s hs))) (fun s hs => HK.out s (hbm s hs)) (by rw [HBL.out]; have := HN30.out; omega))
          have Q3 := Lib.hid (fun (w : World) (h : Below W.heap.size W w) (ht : Below w4.heap.size w4 w) => Best_any Ao co (onL L f k) w ((HT.out.two.below ht).cands (fun s hs => HIN.out w h s (hom s hs))) (fun s hs => HK.out s (hom s hs)) (by rw [HOL.out]; have := HN30.out; omega))
          have HCB := Lib.hid (fun (w : World) (h : Below W.heap.size W w) (ht : Below w4.heap.size w4 w) => And.intro ((HT.out.one.below ht).cands (fun s hs => HIN.out w h s (hbm s hs))) ((HT.out.two.below ht).cands (fun s hs => HIN.out w h s (hom s hs))))
          rw [p1, ← HN.out] at Q1
          rw [p4, HBL.out] at Q2
          rw [r4, HOL.out] at Q3
          have j1 : i1' < k := by rw [HN.out]; exact p2
          have j2 : i2 < k := by rw [HBL.out] at p5; exact p5
          have j3 : i3 < k := by rw [HOL.out] at r5; exact r5
          have HPX := Lib.hid p3; have HPY := Lib.hid p6; have HPY2 := Lib.hid r6
          have HE1 := Lib.hid p7.symm; have HE2 := Lib.hid r7.symm
          clear hbm hom p1 p2 p3 p4 p5 p6 p7 r1 r2 r3 r4 r5 r6 r7
          go_wp2_with fail
          refine (Q1.out _ HBR.out).mono ?_
          rintro e w5 ⟨rfl, hb5⟩
          have HB5 := Lib.hid (HBR.out.trans (hb5.mono HBR.out.size)); have HT5 := Lib.hid hb5
          clear hb5 Q1
          go_wp2_with fail
          refine (Q2.out _ HB5.out HT5.out).mono ?_
          rintro e w6 ⟨rfl, hb6⟩
          have HB6 := Lib.hid (HB5.out.trans (hb6.mono HB5.out.size)); have HT6 := Lib.hid (HT5.out.trans (hb6.mono HT5.out.size))
          clear hb6 Q2
          go_wp2_with fail
          refine (Q3.out _ HB6.out HT6.out).mono ?_
          rintro e w7 ⟨rfl, hb7⟩
          have HB7 := Lib.hid (HB6.out.trans (hb7.mono HB6.out.size)); have HT7 := Lib.hid (HT6.out.trans (hb7.mono HT6.out.size))
          clear hb7 Q3
          obtain ⟨b1, o1, rfl, hb1, _⟩ := (HCB.out w7 HB7.out HT7.out).1.at HPY.out
          obtain ⟨b2, o2, rfl, hb2, _⟩ := (HCB.out w7 HB7.out HT7.out).2.at HPY2.out
          have HS := Lib.hid (fun (w : World) (h : Below w7.heap.size w7 w) => by
            have hh := HB7.out.trans (h.mono HB7.out.size)
            have ht := HT7.out.trans (h.mono HT7.out.size)
            have s1 : w.cell? ⟨bl, off + i1' * 16, none⟩ = some (.int .i64 x'.peer) := (HC.out.go hh).row HPX.out 0 _ rfl
            have s2 : w.cell? ⟨b1, o1 + i2 * 16, none⟩ = some (.int .i64 x'.peer) := by rw [← HE1.out]; exact (HCB.out w hh ht).1.row HPY.out 0 _ rfl
            have s3 : w.cell? ⟨b2, o2 + i3 * 16, none⟩ = some (.int .i64 x'.peer) := by rw [← HE2.out]; exact (HCB.out w hh ht).2.row HPY2.out 0 _ rfl
            exact And.intro s1 (And.intro s2 s3))
          obtain ⟨pp, hpp⟩ : ∃ p, p = x'.peer := ⟨_, rfl⟩
          rw [← hpp] at HS
          have m1 : ¬ (i1' : Int) < 0 := by omega
          have m2 : ¬ (i2 : Int) < 0 := by omega
          have m3 : ¬ (i3 : Int) < 0 := by omega
          clear hb1 hb2 hpp HCB HT HBL HOL HIN HPX HPY HPY2 HE1 HE2 HT7
          go_wp2_with fail
          have hbc := (Below.refl w7.heap.size w7).drew
          go_region_held3 (fun w' => w'.cell? ⟨bl, off + i1' * 16, none⟩ = some (.int .i64 pp) ∧ w'.cell? ⟨b1, o1 + i2 * 16, none⟩ = some (.int .i64 pp) ∧ w'.cell? ⟨b2, o2 + i3 * 16, none⟩ = some (.int .i64 pp)) (first | exact HS.out _ hbc | exact HS.out _ (Below.refl _ _)) ((first
            | (go_at_call 9; refine (QA.out _).mono ?_; rintro e wx ⟨rfl, hg⟩; replace hbc := hbc.trans (hg.mono hbc.size); clear hg)))
          go_wp2_with fail
          go_ret
          exact ⟨rfl, HB7.out.trans (hbc.mono HB7.out.size)⟩
end Go.Proofs.Ytpjhidicgclmbaa

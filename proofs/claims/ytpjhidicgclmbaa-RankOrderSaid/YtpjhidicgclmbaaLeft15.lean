/-
  Those that are left behind a step, by the document.
-/
import Derived.Test.YtpjhidicgclmbaaInts15
import Derived.Deep.RegionHeld3
import Derived.Deep.DeepCutAuto
namespace Go.Proofs.Ytpjhidicgclmbaa
set_option linter.unusedVariables false
set_option linter.unusedSimpArgs false
open Go.RowKit

theorem num_z (c : Cv) (z : Int) (s : Nat) : (keyOf c z).num s = (keyOf c 0).num s := rfl
theorem keyL_at {L : List Cv} {i : Nat} {c : Cv} (h : L[i]? = some c) : keyL L i = keyOf c (i : Int) := by unfold keyL; rw [List.getD_eq_getElem?_getD, h]; rfl
/-- Does one stay at a step, as far as some others go? -/
def staysB (L : List Cv) (s : Nat) (l : List Nat) (i : Nat) : Bool := l.all fun k => !goesB s (keyL L i) (keyL L k)
theorem stays_step {L : List Cv} {s i : Nat} {l : List Nat} {k : Nat} {v : Nat} (hv : l[k]? = some v) : staysB L s (l.take (k + 1)) i = (staysB L s (l.take k) i && !goesB s (keyL L i) (keyL L v)) := by
  obtain ⟨h1, h2⟩ := List.getElem?_eq_some_iff.1 hv
  unfold staysB
  rw [List.take_succ_eq_append_getElem h1, h2, List.all_append]
  simp
def partL (L : List Cv) (s : Nat) (l : List Nat) (j : Nat) : List Nat := (l.take j).filter (staysB L s l)
theorem part_step {L : List Cv} {s j : Nat} {l : List Nat} {i : Nat} (hi : l[j]? = some i) : partL L s l (j + 1) = partL L s l j ++ if staysB L s l i then [i] else [] := by
  obtain ⟨h1, h2⟩ := List.getElem?_eq_some_iff.1 hi
  unfold partL
  rw [List.take_succ_eq_append_getElem h1, h2, List.filter_append]
  congr 1
  simp only [List.filter_cons, List.filter_nil]
theorem part_end (L : List Cv) (s : Nat) (l : List Nat) : partL L s l l.length = leftK (keyL L) s l := by unfold partL leftK; rw [List.take_length]; rfl
theorem part_len (L : List Cv) (s : Nat) (l : List Nat) (j : Nat) : (partL L s l j).length ≤ l.length := by
  unfold partL
  refine Nat.le_trans (List.length_filter_le _ _) ?_
  simp; omega
def LeftRel (w : World) (L : List Cv) (s : Nat) (l : List Nat) (v i : Value) (wr : World) : Prop :=
  Below w.heap.size w wr ∧ ∃ j : Nat, j ≤ l.length ∧ i = .int .i64 (j : Int) ∧ OwnI wr w.heap.size v (ints (partL L s l j))
def StayRel (w : World) (L : List Cv) (s : Nat) (l : List Nat) (i : Nat) (v : Value) (B : Nat) (z : List Int) (u x : Value) (wr : World) : Prop :=
  Below w.heap.size w wr ∧ OwnI wr B v z ∧ ∃ k : Nat, k ≤ l.length ∧ x = .int .i64 (k : Int) ∧ u = .bool (staysB L s (l.take k) i)
/-- A candidate's cells, where they lie. -/
theorem row_cells {W : World} {b off : Nat} {c : Cv} (h : ∀ i u, c.row[i]? = some u → W.cell? ⟨b, off + i, none⟩ = some u) :
    W.cell? ⟨b, off, none⟩ = some (.int .i64 c.peer) ∧ W.cell? ⟨b, off + 1, none⟩ = some (.bool c.ext) ∧ W.cell? ⟨b, off + 2, none⟩ = some (.int .u32 c.near) ∧ W.cell? ⟨b, off + 3, none⟩ = some (.int .u32 c.id) ∧ W.cell? ⟨b, off + 4, none⟩ = some (.int .u32 c.addr) ∧ W.cell? ⟨b, off + 5, none⟩ = some (.int .i64 c.org) ∧ W.cell? ⟨b, off + 6, none⟩ = some (.slice c.pathA c.path.length c.pathC) ∧ W.cell? ⟨b, off + 7, none⟩ = some (.int .u32 c.next) ∧ W.cell? ⟨b, off + 8, none⟩ = some (.int .i64 c.med) ∧ W.cell? ⟨b, off + 9, none⟩ = some (.int .i64 c.pref) ∧ W.cell? ⟨b, off + 10, none⟩ = some (.bool c.atomic) ∧ W.cell? ⟨b, off + 11, none⟩ = some (.bool c.has) ∧ W.cell? ⟨b, off + 12, none⟩ = some (.int .u32 c.aas) ∧ W.cell? ⟨b, off + 13, none⟩ = some (.int .u32 c.aad) ∧ W.cell? ⟨b, off + 14, none⟩ = some (.slice c.commsA c.commsN c.commsC) ∧ W.cell? ⟨b, off + 15, none⟩ = some (.slice c.rawsA c.rawsN c.rawsC) :=
  ⟨h 0 _ rfl, h 1 _ rfl, h 2 _ rfl, h 3 _ rfl, h 4 _ rfl, h 5 _ rfl, h 6 _ rfl, h 7 _ rfl, h 8 _ rfl, h 9 _ rfl, h 10 _ rfl, h 11 _ rfl, h 12 _ rfl, h 13 _ rfl, h 14 _ rfl, h 15 _ rfl⟩

set_option maxRecDepth 100000 in
set_option maxHeartbeats 25600000 in
theorem left_any (A AI : Option Addr) (c ci : Nat) (L : List Cv) (l : List Nat) (s n : Nat) (hn : n = l.length) (w : World) (h : CandsIn w w.heap.size A L) (hk : ∀ t ∈ L, CntOk t) (hI : IntsAt w w.heap.size AI (ints l)) (hlt : ∀ i ∈ l, i < L.length) (hl : L.length ≤ 1000000) (hl2 : l.length ≤ 1000000) (hs : 1 ≤ s ∧ s ≤ 8) :
    Calls Try.prog 26 #[.slice A L.length c, .slice AI n ci, .int .i64 (s : Int)] w (RetI w (ints (leftK (keyL L) s l))) := by
  subst hn
  have HC := Lib.hid h; have HK := Lib.hid hk; have HI := Lib.hid hI; have HL := Lib.hid hlt; have HSS := Lib.hid hs
  clear h hk hI hlt hs
  go_enter Try.func26, Try.ntmps26
  go_wp2_with fail
  go_loopw [7, 8] (fun v i wr => LeftRel w L s l v i wr) (fun _ i _ => l.length - (intOf i).toNat)
  case atStart => exact ⟨Below.refl _ _, 0, Nat.zero_le _, rfl, OwnI.nil _ _⟩
  case round =>
    obtain ⟨hbr, j, hj, rfl, hown⟩ := hrel
    by_cases hlj : j < l.length
    · obtain ⟨i, hi⟩ : ∃ i, l[j]? = some i := ⟨_, List.getElem?_eq_getElem hlj⟩
      have hiL := HL.out i (List.mem_of_getElem? hi)
      obtain ⟨si, hsi⟩ : ∃ t, L[i]? = some t := ⟨_, List.getElem?_eq_getElem hiL⟩
      have HPS := Lib.hid (part_step (L := L) (s := s) hi)
      have HPL := Lib.hid (part_len L s l j)
      have HII := Lib.hid hi; have HSI := Lib.hid hsi; have HLJ := Lib.hid hlj; have HIL := Lib.hid hiL
      have HO := Lib.hid hown; have HB := Lib.hid hbr
      clear hi hsi hown hbr hiL
      go_wp2_with fail
      go_loopw [9, 10] (fun u x wr => StayRel w L s l i u7 w.heap.size (ints (partL L s l j)) u x wr) (fun _ x _ => l.length - (intOf x).toNat)
      case atStart => exact ⟨HB.out, HO.out, 0, Nat.zero_le _, rfl, by simp [staysB]⟩
      case round =>
        clear HB HO
        obtain ⟨hbr, hown, k, hk, rfl, rfl⟩ := hrel
        have HO := Lib.hid hown; have HB := Lib.hid hbr
        clear hown hbr
        by_cases hlk : k < l.length
        · obtain ⟨t, ht⟩ : ∃ t, l[k]? = some t := ⟨_, List.getElem?_eq_getElem hlk⟩
          have htL := HL.out t (List.mem_of_getElem? ht)
          have hiL := HIL.out
          obtain ⟨st, hst⟩ : ∃ u, L[t]? = some u := ⟨_, List.getElem?_eq_getElem htL⟩
          have HST := Lib.hid (stays_step (L := L) (s := s) (i := i) ht)
          rw [keyL_at hst, keyL_at HSI.out] at HST
          obtain ⟨b, off, rfl, hbl, hcells⟩ : ∃ b off, A = some ⟨b, off, none⟩ ∧ b < wr.heap.size ∧ ∀ W, Below wr.heap.size wr W → ∀ (j : Nat) (s : Cv), L[j]? = some s → (∀ i u, s.row[i]? = some u → W.cell? ⟨b, off + j * 16 + i, none⟩ = some u) ∧ s.In W W.heap.size := by
            obtain ⟨b, off, e, hbl, _⟩ := (HC.out.go HB.out).at hst
            refine ⟨b, off, e, hbl, fun W hW j s hj => ?_⟩
            obtain ⟨b', off', e', _, h1, h2⟩ := ((HC.out.go HB.out).go hW).at hj
            rw [e] at e'
            injection e' with e'
            injection e' with e1 e2
            subst e1; subst e2
            exact ⟨h1, h2⟩
          obtain ⟨bi, oi, rfl, hbi, hint⟩ : ∃ b off, AI = some ⟨b, off, none⟩ ∧ b < wr.heap.size ∧ ∀ W, Below wr.heap.size wr W → ∀ (j : Nat) (u : Int), (ints l)[j]? = some u → W.cell? ⟨b, off + j, none⟩ = some (.int .i64 u) := by
            obtain ⟨b, off, e, hbl, _⟩ := (HI.out.go HB.out).at (ints_at ht)
            refine ⟨b, off, e, hbl, fun W hW j u hj => ?_⟩
            obtain ⟨b', off', e', _, h1⟩ := ((HI.out.go HB.out).go hW).at hj
            rw [e] at e'
            injection e' with e'
            injection e' with e1 e2
            subst e1; subst e2
            exact h1 j u hj
          have QK := Lib.hid (fun (W : World) (hW : Below wr.heap.size wr W) => number_any st s W (hcells W hW t st hst).2 (HK.out st (List.mem_of_getElem? hst)) HSS.out)
          have QI := Lib.hid (fun (W : World) (hW : Below wr.heap.size wr W) => number_any si s W (hcells W hW i si HSI.out).2 (HK.out si (List.mem_of_getElem? HSI.out)) HSS.out)
          have HROW := Lib.hid (fun (W : World) (hW : Below wr.heap.size wr W) => And.intro (And.intro (hint W hW k t (ints_at ht)) (hint W hW j i (ints_at HII.out))) (And.intro (row_cells (hcells W hW t st hst).1) (row_cells (hcells W hW i si HSI.out).1)))
          have HLK := Lib.hid hlk
          have HTL := Lib.hid htL
          have HSTEP : Hid (staysB L s (l.take (k + 1)) i = (staysB L s (l.take k) i && !((s != 4 || si.near == st.near) && decide ((keyOf st 0).num s < (keyOf si 0).num s)))) := HST
          obtain ⟨mk, hmk⟩ : ∃ m, m = (keyOf st 0).num s := ⟨_, rfl⟩
          obtain ⟨mi, hmi⟩ : ∃ m, m = (keyOf si 0).num s := ⟨_, rfl⟩
          rw [← hmk, ← hmi] at HSTEP
          rw [← hmk] at QK
          rw [← hmi] at QI
          obtain ⟨U, hU⟩ : ∃ U, U = staysB L s (l.take k) i := ⟨_, rfl⟩
          rw [← hU] at HSTEP ⊢
          clear HST ht hst hcells hint hmk hmi hU
          obtain ⟨peer1, ext1, near1, id1, addr1, org1, pathA1, pathC1, path1, next1, med1, pref1, atomic1, has1, aas1, aad1, commsA1, commsN1, commsC1, rawsA1, rawsN1, rawsC1⟩ := st
          obtain ⟨peer2, ext2, near2, id2, addr2, org2, pathA2, pathC2, path2, next2, med2, pref2, atomic2, has2, aas2, aad2, commsA2, commsN2, commsC2, rawsA2, rawsN2, rawsC2⟩ := si
          unfold Cv.agg Cv.row at QK QI
          dsimp only at QK QI HROW HSTEP
          obtain ⟨⟨it, ii⟩, r1, r2⟩ := HROW.out wr (Below.refl _ _)
          go_upto_region 9 with (fail)
          go_cut [11] (fun v wc => v = .bool (s != 4 || near2 == near1) ∧ ∃ n, wc = wr.drewN n)
          case first =>
            by_cases h4 : s = 4
            · by_cases hnn : near2 = near1
              · have hq : ((s : Int) != 4) = false := by simpa using (show (s : Int) = 4 by omega)
                have hnn2 : (near2 == near1) = true := by simpa using hnn
                have HV := Lib.hid (show (s != 4 || near2 == near1) = true by simp [hnn])
                clear h4 hnn
                go_wp2_with fail
                go_quiet (fail)
                go_wp2_with fail
                go_meet
                case rel => exact ⟨by rw [HV.out], _, rfl⟩
              · have hq : ((s : Int) != 4) = false := by simpa using (show (s : Int) = 4 by omega)
                have hnn2 : (near2 == near1) = false := by simpa using hnn
                have HV := Lib.hid (show (s != 4 || near2 == near1) = false by simp [h4, hnn])
                clear h4 hnn
                go_wp2_with fail
                go_quiet (fail)
                go_wp2_with fail
                go_meet
                case rel => exact ⟨by rw [HV.out], _, rfl⟩
            · have hq : ((s : Int) != 4) = true := by simpa using (show ¬ (s : Int) = 4 by omega)
              have HV := Lib.hid (show (s != 4 || near2 == near1) = true by simp [h4])
              clear h4
              go_wp2_with fail
              go_quiet (fail)
              go_wp2_with fail
              go_meet
              case rel => exact ⟨by rw [HV.out], _, rfl⟩
          case rest =>
            obtain ⟨hv, nq, hw⟩ := hcut
            obtain ⟨AL, hAL⟩ : ∃ b, b = (s != 4 || near2 == near1) := ⟨_, rfl⟩
            rw [← hAL] at hv
            have HAL : Hid ((s != 4 || near2 == near1) = AL) := Lib.hid hAL.symm
            have hb0 := fun n => below_drewN (Below.refl wr.heap.size wr) n
            subst hv
            subst hw
            clear hAL
            cases AL with
            | false =>
              have HE := Lib.hid (show staysB L s (l.take (k + 1)) i = U by rw [HSTEP.out, HAL.out]; simp)
              have HB2 := Lib.hid (fun n => HB.out.trans ((hb0 n).mono HB.out.size))
              have HO2 := Lib.hid (fun n => HO.out.below (hb0 n))
              clear HSTEP
              go_wp2_with fail
              go_quiet (fail)
              go_wp2_with fail
              go_roundw
              case rel => exact ⟨HB2.out _, HO2.out _, k + 1, HLK.out, by go_num, by rw [HE.out]⟩
              case measure => have := HLK.out; simp [intOf]; omega
            | true =>
              go_wp2_with fail
              have hbc : Below wr.heap.size wr wr := Below.refl _ _
              go_region_held3 (fun w' => (w'.cell? ⟨bi, oi + k, none⟩ = some (.int .i64 (t : Int)) ∧ w'.cell? ⟨bi, oi + j, none⟩ = some (.int .i64 (i : Int))) ∧ (w'.cell? ⟨b, off + t * 16, none⟩ = some (.int .i64 peer1) ∧ w'.cell? ⟨b, off + t * 16 + 1, none⟩ = some (.bool ext1) ∧ w'.cell? ⟨b, off + t * 16 + 2, none⟩ = some (.int .u32 near1) ∧ w'.cell? ⟨b, off + t * 16 + 3, none⟩ = some (.int .u32 id1) ∧ w'.cell? ⟨b, off + t * 16 + 4, none⟩ = some (.int .u32 addr1) ∧ w'.cell? ⟨b, off + t * 16 + 5, none⟩ = some (.int .i64 org1) ∧ w'.cell? ⟨b, off + t * 16 + 6, none⟩ = some (.slice pathA1 path1.length pathC1) ∧ w'.cell? ⟨b, off + t * 16 + 7, none⟩ = some (.int .u32 next1) ∧ w'.cell? ⟨b, off + t * 16 + 8, none⟩ = some (.int .i64 med1) ∧ w'.cell? ⟨b, off + t * 16 + 9, none⟩ = some (.int .i64 pref1) ∧ w'.cell? ⟨b, off + t * 16 + 10, none⟩ = some (.bool atomic1) ∧ w'.cell? ⟨b, off + t * 16 + 11, none⟩ = some (.bool has1) ∧ w'.cell? ⟨b, off + t * 16 + 12, none⟩ = some (.int .u32 aas1) ∧ w'.cell? ⟨b, off + t * 16 + 13, none⟩ = some (.int .u32 aad1) ∧ w'.cell? ⟨b, off + t * 16 + 14, none⟩ = some (.slice commsA1 commsN1 commsC1) ∧ w'.cell? ⟨b, off + t * 16 + 15, none⟩ = some (.slice rawsA1 rawsN1 rawsC1)) ∧ (w'.cell? ⟨b, off + i * 16, none⟩ = some (.int .i64 peer2) ∧ w'.cell? ⟨b, off + i * 16 + 1, none⟩ = some (.bool ext2) ∧ w'.cell? ⟨b, off + i * 16 + 2, none⟩ = some (.int .u32 near2) ∧ w'.cell? ⟨b, off + i * 16 + 3, none⟩ = some (.int .u32 id2) ∧ w'.cell? ⟨b, off + i * 16 + 4, none⟩ = some (.int .u32 addr2) ∧ w'.cell? ⟨b, off + i * 16 + 5, none⟩ = some (.int .i64 org2) ∧ w'.cell? ⟨b, off + i * 16 + 6, none⟩ = some (.slice pathA2 path2.length pathC2) ∧ w'.cell? ⟨b, off + i * 16 + 7, none⟩ = some (.int .u32 next2) ∧ w'.cell? ⟨b, off + i * 16 + 8, none⟩ = some (.int .i64 med2) ∧ w'.cell? ⟨b, off + i * 16 + 9, none⟩ = some (.int .i64 pref2) ∧ w'.cell? ⟨b, off + i * 16 + 10, none⟩ = some (.bool atomic2) ∧ w'.cell? ⟨b, off + i * 16 + 11, none⟩ = some (.bool has2) ∧ w'.cell? ⟨b, off + i * 16 + 12, none⟩ = some (.int .u32 aas2) ∧ w'.cell? ⟨b, off + i * 16 + 13, none⟩ = some (.int .u32 aad2) ∧ w'.cell? ⟨b, off + i * 16 + 14, none⟩ = some (.slice commsA2 commsN2 commsC2) ∧ w'.cell? ⟨b, off + i * 16 + 15, none⟩ = some (.slice rawsA2 rawsN2 rawsC2))) (first | exact HROW.out _ hbc | exact HROW.out _ (hb0 _).drew | exact HROW.out _ (hb0 _)) ((first
                  | (go_at_call_of 31 peer1; refine (QK.out _ (by first | exact hbc | exact (hb0 _).drew)).mono ?_; rintro e wx ⟨rfl, hg⟩; replace hbc := (show Below wr.heap.size wr wx from by first | exact hbc.trans (hg.mono hbc.size) | exact ((hb0 _).drew).trans (hg.mono ((hb0 _).drew).size)); clear hg)
                  | (go_at_call_of 31 peer2; refine (QI.out _ (by first | exact hbc | exact (hb0 _).drew)).mono ?_; rintro e wx ⟨rfl, hg⟩; replace hbc := (show Below wr.heap.size wr wx from by first | exact hbc.trans (hg.mono hbc.size) | exact ((hb0 _).drew).trans (hg.mono ((hb0 _).drew).size)); clear hg)))
              have HB2 := Lib.hid (HB.out.trans (hbc.mono HB.out.size))
              have HO2 := Lib.hid (HO.out.below hbc)
              clear r1 r2 it ii
              by_cases hm : mk < mi
              · have HE := Lib.hid (show staysB L s (l.take (k + 1)) i = false by rw [HSTEP.out, HAL.out]; simp [hm])
                clear HSTEP
                go_wp2_with fail
                go_roundw
                case rel => exact ⟨HB2.out, HO2.out, k + 1, HLK.out, by go_num, by rw [HE.out]⟩
                case measure => have := HLK.out; simp [intOf]; omega
              · have HE := Lib.hid (show staysB L s (l.take (k + 1)) i = U by rw [HSTEP.out]; simp [hm])
                clear HSTEP
                go_wp2_with fail
                go_roundw
                case rel => exact ⟨HB2.out, HO2.out, k + 1, HLK.out, by go_num, by rw [HE.out]⟩
                case measure => have := HLK.out; simp [intOf]; omega
        · obtain rfl : k = l.length := by omega
          rw [List.take_length]
          obtain ⟨S, hS⟩ : ∃ S, S = staysB L s l i := ⟨_, rfl⟩
          rw [← hS]
          have HPS2 := HPS.out
          rw [← hS] at HPS2
          have HPS3 := Lib.hid HPS2
          clear hS HPS2 HPS
          cases S with
          | false =>
            have HE := Lib.hid (show partL L s l (j + 1) = partL L s l j by rw [HPS3.out]; simp)
            clear HPS3
            go_wp2_with fail
            go_roundw
            case rel => exact ⟨HB.out, j + 1, HLJ.out, by go_num, by rw [HE.out]; exact HO.out⟩
            case measure => have := HLJ.out; simp [intOf]; omega
          | true =>
            have HE := Lib.hid (show partL L s l (j + 1) = partL L s l j ++ [i] by rw [HPS3.out]; simp)
            obtain ⟨bi, oi, rfl, hbi, hint⟩ := (HI.out.go HB.out).at (ints_at HII.out)
            have ii := hint j i (ints_at HII.out)
            have hlj := HLJ.out
            have HLN := Lib.hid (show ((ints (partL L s l j)).length + 1) * 8 ≤ 140737488355328 by rw [ints_len]; have := HPL.out; omega)
            clear HPS3 hint
            go_wp2_with (at_builtin; refine wpList_app_one isI64 rfl (.tmp 68) (.tmp 73) rfl w _ _ (cellsI _) rfl wr [.int .i64 (i : Int)] rfl HO.out rfl rfl (by simp [Value.oneCell']) HLN.out HB.out ?_)
            intro v1 w1 ho1 _ hb1
            have HO1 := Lib.hid (show OwnI w1 w.heap.size v1 (ints (partL L s l (j + 1))) by
              rw [HE.out, ints_snoc]
              exact OwnI.snoc ho1)
            have HB1 := Lib.hid hb1
            clear ho1 hb1 HO HB HLN ii
            go_wp2_with fail
            go_roundw
            case rel => exact ⟨HB1.out, j + 1, HLJ.out, by go_num, HO1.out⟩
            case measure => have := HLJ.out; simp [intOf]; omega
    · obtain rfl : j = l.length := by omega
      rw [part_end] at hown
      obtain ⟨A1, c1, rfl, f1, f2⟩ := hown.form
      have HF := Lib.hid (And.intro f1 f2)
      have HO := Lib.hid hown
      clear f1 f2 hown
      go_wp2_with fail
      go_ret
      exact ⟨A1, c1, rfl, HF.out.1, HF.out.2, HO.out, hbr⟩
end Go.Proofs.Ytpjhidicgclmbaa

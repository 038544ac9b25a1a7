/-
  In which order some candidates are taken, by the document.
-/
import Derived.Test.YtpjhidicgclmbaaOrder15
namespace Go.Proofs.Ytpjhidicgclmbaa
set_option linter.unusedVariables false
set_option linter.unusedSimpArgs false
open Go.RowKit

theorem IntsAt.grown {w w' : World} {A : Option Addr} {z : List Int} {row : Option Nat} (h : IntsAt w w.heap.size A z) (hg : w.grownBy w' row) (hs : ∀ b off, A = some ⟨b, off, none⟩ → row ≠ some b) : IntsAt w' w'.heap.size A z := by
  intro hl
  obtain ⟨b, off, rfl, hlt, hc⟩ := h hl
  have hb : w'.heap[b]? = w.heap[b]? := hg.block b hlt (by first | exact hs b off rfl | exact fun e => hs b off rfl e.symm)
  refine ⟨b, off, rfl, Nat.lt_of_lt_of_le hlt hg.size, fun j u hj => ?_⟩
  rw [← hc j u hj]
  simp only [World.cell?, hb]
def keepL (I : Int) (l : List Nat) (k : Nat) : List Nat := (l.take k).filter fun (q : Nat) => decide ((q : Int) ≠ I)
theorem keep_step {I : Int} {l : List Nat} {k q : Nat} (h : l[k]? = some q) : keepL I l (k + 1) = keepL I l k ++ if (q : Int) ≠ I then [q] else [] := by
  obtain ⟨h1, h2⟩ := List.getElem?_eq_some_iff.1 h
  unfold keepL
  rw [List.take_succ_eq_append_getElem h1, h2, List.filter_append]
  congr 1
  simp only [List.filter_cons, List.filter_nil, decide_eq_true_eq]
theorem keep_len (I : Int) (l : List Nat) (k : Nat) : (keepL I l k).length ≤ l.length := by
  unfold keepL
  refine Nat.le_trans (List.length_filter_le _ _) ?_
  simp; omega
def ROrdRel (w : World) (L : List Cv) (u x y : Value) (wr : World) : Prop :=
  Below w.heap.size w wr ∧ ∃ (m n : Nat) (lst : List Nat) (z : List Int) (A : Option Addr) (c : Nat), y = .int .i64 (m : Int) ∧ x = .slice A n c ∧ lst.length = n ∧ lst.Pairwise (· < ·) ∧ (∀ i ∈ lst, i < L.length) ∧ IntsAt wr wr.heap.size A (ints lst) ∧ OwnI wr w.heap.size u z ∧ (∀ b off, A = some ⟨b, off, none⟩ → u.ownBlock ≠ some b) ∧ z ++ ordL (keyL L) n lst = allO L ∧ z.length = m ∧ m + n = L.length
def FilRel (w : World) (lst : List Nat) (I : Int) (v x : Value) (wr : World) : Prop :=
  Below w.heap.size w wr ∧ ∃ k : Nat, k ≤ lst.length ∧ x = .int .i64 (k : Int) ∧ OwnI wr w.heap.size v (ints (keepL I lst k))

set_option maxRecDepth 100000 in
set_option maxHeartbeats 12800000 in
theorem RefOrder_any (A : Option Addr) (c : Nat) (L : List Cv) (w : World) (h : CandsIn w w.heap.size A L) (hk : ∀ t ∈ L, CntOk t) (hl : L.length ≤ 100000) :
    Calls Try.prog 15 #[.slice A L.length c] w (RetI w (allO L)) := by
  have HC := Lib.hid h; have HK := Lib.hid hk; have HL := Lib.hid hl
  have QP := Lib.hid (places_any L.length w (by omega))
  clear h hk hl
  go_enter Try.func15, Try.ntmps15
  go_wp2_with fail
  refine QP.out.mono ?_
  rintro e w1 ⟨A1, c1, rfl, _, _, ho, hb1⟩
  rw [ints_len, List.length_range]
  have HI1 := Lib.hid ho.at
  have HB1 := Lib.hid hb1
  clear ho hb1 QP
  go_wp2_with fail
  go_loopw [3, 4, 5] (fun u x y wr => ROrdRel w L u x y wr) (fun _ _ y _ => L.length - (intOf y).toNat)
  case atStart => exact ⟨HB1.out, 0, L.length, List.range L.length, [], A1, c1, rfl, rfl, by simp, List.pairwise_lt_range, fun i hi => range_lt hi, HI1.out, OwnI.nil _ _, (fun b off _ => by intro e; cases e), rfl, rfl, by omega⟩
  case round =>
    obtain ⟨hbr, m, n, lst, z, A1, c1, rfl, rfl, hn, hpw, hlt, hI, hown, hsep, hz, hzl, hmn⟩ := hrel
    clear HB1 HI1
    obtain ⟨w2, h2⟩ : ∃ w, w = wr := ⟨_, rfl⟩
    subst h2
    have HB := Lib.hid hbr; have HO := Lib.hid hown; have HI := Lib.hid hI; have HLT := Lib.hid hlt; have HZ := Lib.hid hz; have HPW := Lib.hid hpw; have HN := Lib.hid hn; have HS := Lib.hid hsep; have HZL := Lib.hid hzl; have HMN := Lib.hid hmn
    by_cases hm : m < L.length
    · obtain ⟨k, rfl⟩ : ∃ k, n = k + 1 := ⟨n - 1, by omega⟩
      have QA := Lib.hid (among_any A A1 c c1 (k + 1) L lst hn.symm w2 (HC.out.go hbr) HK.out hI hlt (by have := HL.out; omega) (by have := HL.out; omega))
      obtain ⟨I, hIe⟩ : ∃ I, I = amongZ (keyL L) lst := ⟨_, rfl⟩
      obtain ⟨j, i, hj, hIi⟩ : ∃ j i : Nat, lst[j]? = some i ∧ I = (i : Int) := by
        rcases among_best (keyL_z L) hpw with ⟨h1, _⟩ | ⟨i, h1, h2, _⟩
        · rw [h1] at hn; cases hn
        · obtain ⟨j, hj⟩ := List.getElem?_of_mem h1
          exact ⟨j, i, hj, hIe.trans h2⟩
      have HFL := Lib.hid (show (keepL I lst lst.length).length = k by
        have := filter_len hpw hj
        rw [← hIi] at this
        unfold keepL
        rw [List.take_length]
        omega)
      have HST := Lib.hid (show ordL (keyL L) (k + 1) lst = I :: ordL (keyL L) k (keepL I lst lst.length) by
        unfold keepL
        rw [List.take_length, hIe]
        rfl)
      have HKP := Lib.hid (show (keepL I lst lst.length).Pairwise (· < ·) by unfold keepL; rw [List.take_length]; exact hpw.sublist List.filter_sublist)
      have HKL := Lib.hid (show ∀ i ∈ keepL I lst lst.length, i < L.length by
        intro q hq
        unfold keepL at hq
        rw [List.take_length] at hq
        exact hlt q (List.mem_filter.1 hq).1)
      rw [← hIe] at QA
      have HM := Lib.hid hm
      have hm1 : m + 1 ≤ 1000000 := by have := HL.out; omega
      clear hbr hn hpw hlt hI hown hsep hz hzl hmn hIe hj hIi
      go_wp2_with fail
      refine QA.out.mono ?_
      rintro e w3 ⟨rfl, hb3⟩
      have HB3 := Lib.hid (HB.out.trans (hb3.mono HB.out.size))
      have HO3 := Lib.hid (HO.out.below hb3)
      have HI3 := Lib.hid (HI.out.go hb3)
      clear hb3 QA HB HO HI
      go_wp2_with (at_builtin; refine wpList_appI _ w3 I rfl rfl (.tmp 21) (.tmp 23) rfl w.heap.size _ z rfl HO3.out HB3.out.size rfl (by have := HL.out; have := HZL.out; have := HMN.out; omega) ?_)
      intro u4 w4 ho4 hg4 hb4 _
      have HI4 := Lib.hid (HI3.out.grown hg4 HS.out)
      have HB4 := Lib.hid (HB3.out.trans hb4)
      have HO4 := Lib.hid ho4
      clear ho4 hg4 hb4 HO3 HI3 HB3
      go_wp2_with fail
      go_loopw [7, 8] (fun v x wr => FilRel w4 lst I v x wr) (fun _ x _ => lst.length - (intOf x).toNat)
      case atStart => exact ⟨Below.refl _ _, 0, Nat.zero_le _, rfl, OwnI.nil _ _⟩
      case round =>
        obtain ⟨hbr, q, hq, rfl, hown⟩ := hrel
        obtain ⟨w5, h5⟩ : ∃ w, w = wr := ⟨_, rfl⟩
        subst h5
        have HB5 := Lib.hid hbr; have HO5 := Lib.hid hown
        have hn := HN.out
        by_cases hqk : q < k + 1
        · obtain ⟨p, hp⟩ : ∃ p, lst[q]? = some p := ⟨_, List.getElem?_eq_getElem (by omega)⟩
          have HKS := Lib.hid (keep_step (I := I) hp)
          obtain ⟨bi, oi, rfl, hbi, hint⟩ := (HI4.out.go hbr).at (ints_at hp)
          have ii := hint q (p : Int) (ints_at hp)
          have HQ := Lib.hid (show q + 1 ≤ lst.length by omega)
          have HLN := Lib.hid (show ((ints (keepL I lst q)).length + 1) * 8 ≤ 140737488355328 by
            rw [ints_len]
            have := keep_len I lst q
            have := HL.out; have := HMN.out
            omega)
          have hq1 : q + 1 ≤ 1000000 := by have := HL.out; have := HMN.out; omega
          clear hint hbr hown hn hp hq
          by_cases he : (p : Int) = I
          · have hne : ((p : Int) != I) = false := by simpa using he
            have HE := Lib.hid (show keepL I lst (q + 1) = keepL I lst q by rw [HKS.out]; simp [he])
            clear he HKS
            go_wp2_with fail
            go_roundw
            case rel => exact ⟨HB5.out, q + 1, HQ.out, by go_num, by rw [HE.out]; exact HO5.out⟩
            case measure => have := HQ.out; simp [intOf]; omega
          · have hne : ((p : Int) != I) = true := by simpa using he
            have HE := Lib.hid (show keepL I lst (q + 1) = keepL I lst q ++ [p] by rw [HKS.out]; simp [he])
            clear he HKS
            go_wp2_with (at_builtin; refine wpList_app_one isI64 rfl (.tmp 37) (.tmp 42) rfl w4 _ _ (cellsI _) rfl w5 [.int .i64 (p : Int)] rfl HO5.out rfl rfl (by simp [Value.oneCell']) HLN.out HB5.out ?_)
            intro v6 w6 ho6 _ hb6
            have HO6 := Lib.hid (show OwnI w6 w4.heap.size v6 (ints (keepL I lst (q + 1))) by
              rw [HE.out, ints_snoc]
              exact OwnI.snoc ho6)
            have HB6 := Lib.hid hb6
            clear ho6 hb6 HO5 HB5 HLN ii
            go_wp2_with fail
            go_roundw
            case rel => exact ⟨HB6.out, q + 1, HQ.out, by go_num, HO6.out⟩
            case measure => have := HQ.out; simp [intOf]; omega
        · obtain rfl : q = lst.length := by omega
          obtain ⟨A2, c2, rfl, _, _⟩ := hown.form
          have HI5 := Lib.hid hown.at
          have HSE := Lib.hid (show ∀ b off, A2 = some ⟨b, off, none⟩ → u4.ownBlock ≠ some b from fun b off e q => by
            subst e
            have h1 := (World.ownsRow.lt HO4.out b q).2
            have h2 := (World.ownsRow.lt HO5.out b rfl).1
            omega)
          have HLE := Lib.hid (show ((keepL I lst lst.length).length) = k from HFL.out)
          have HB6 := Lib.hid (HB4.out.trans (hbr.mono HB4.out.size))
          have HO6 := Lib.hid (HO4.out.below hbr)
          rw [ints_len, HFL.out]
          rw [hn] at hqk
          have hqq : ¬ ((lst.length : Int) < (k : Int) + 1) := by omega
          clear hbr hown hq
          go_wp2_with fail
          go_roundw
          case rel =>
            refine ⟨HB6.out, m + 1, k, keepL I lst lst.length, z ++ [I], A2, c2, by go_num, rfl, HFL.out, HKP.out, HKL.out, HI5.out, HO6.out, HSE.out, ?_, ?_, ?_⟩
            · rw [← HZ.out, HST.out]
              simp
            · have := HZL.out
              simp; omega
            · have := HMN.out
              omega
          case measure => have := HM.out; simp [intOf]; omega
    · obtain rfl : n = 0 := by omega
      have hzz : z = allO L := by
        have := HZ.out
        simpa [ordL] using this
      subst hzz
      obtain ⟨A2, c2, rfl, f1, f2⟩ := HO.out.form
      have HF := Lib.hid (And.intro f1 f2)
      clear f1 f2 hbr hown hI hlt hz hpw hn hsep hzl
      go_wp2_with fail
      go_ret
      exact ⟨A2, c2, rfl, HF.out.1, HF.out.2, HO.out, HB.out⟩
end Go.Proofs.Ytpjhidicgclmbaa

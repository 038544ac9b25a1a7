/-
  Which of some candidates is taken: the document's answer, and the program's.
-/
import Derived.Test.YtpjhidicgclmbaaLeft15
namespace Go.Proofs.Ytpjhidicgclmbaa
set_option linter.unusedVariables false
set_option linter.unusedSimpArgs false
open Go.RowKit

theorem among_len (K : Nat → Rn) (l : List Nat) (s : Nat) : (amongL K l s).length ≤ l.length := (among_sub s).length_le
theorem among_in {K : Nat → Rn} {l : List Nat} {s i : Nat} (h : i ∈ amongL K l s) : i ∈ l := (among_sub s).mem h
def AmongRel (w : World) (L : List Cv) (l : List Nat) (v x : Value) (wr : World) : Prop :=
  Below w.heap.size w wr ∧ ∃ (s : Nat) (A : Option Addr) (c : Nat), s ≤ 8 ∧ x = .int .i64 ((s : Int) + 1) ∧ v = .slice A (amongL (keyL L) l s).length c ∧ IntsAt wr wr.heap.size A (ints (amongL (keyL L) l s))

set_option maxHeartbeats 6400000 in
theorem among_any (A AI : Option Addr) (c ci n : Nat) (L : List Cv) (l : List Nat) (hn : n = l.length) (w : World) (h : CandsIn w w.heap.size A L) (hk : ∀ t ∈ L, CntOk t) (hI : IntsAt w w.heap.size AI (ints l)) (hlt : ∀ i ∈ l, i < L.length) (hl : L.length ≤ 1000000) (hl2 : l.length ≤ 1000000) :
    Calls Try.prog 22 #[.slice A L.length c, .slice AI n ci] w fun e w' => e = .returned (.int .i64 (amongZ (keyL L) l)) ∧ Below w.heap.size w w' := by
  subst hn
  have HC := Lib.hid h; have HK := Lib.hid hk; have HI := Lib.hid hI; have HL := Lib.hid hlt; have HL1 := Lib.hid hl; have HL2 := Lib.hid hl2
  clear h hk hI hlt hl hl2
  go_enter Try.func22, Try.ntmps22
  go_wp2_with fail
  go_loopw [1, 5] (fun v x wr => AmongRel w L l v x wr) (fun _ x _ => 9 - (intOf x).toNat)
  case atStart => exact ⟨Below.refl _ _, 0, AI, ci, by omega, rfl, rfl, HI.out⟩
  case round =>
    obtain ⟨hbr, s, A1, c1, hs, rfl, rfl, hA⟩ := hrel
    have HB := Lib.hid hbr; have HA := Lib.hid hA
    by_cases hs8 : s < 8
    · have hdec : (s : Int) + 1 ≤ 8 := by omega
      have HS := Lib.hid hs8
      have Q := Lib.hid (left_any A A1 c c1 L (amongL (keyL L) l s) (s + 1) _ rfl wr (HC.out.go HB.out) HK.out HA.out (fun i hi => HL.out i (among_in hi)) HL1.out (Nat.le_trans (among_len _ _ _) HL2.out) (by omega))
      have e : (((s + 1 : Nat)) : Int) = (s : Int) + 1 := by omega
      rw [e] at Q
      clear e hbr hA HA
      go_wp2_with fail
      refine Q.out.mono ?_
      rintro e w1 ⟨A2, c2, rfl, _, _, ho, hb1⟩
      rw [ints_len]
      have HB1 := Lib.hid (HB.out.trans (hb1.mono HB.out.size))
      have HA1 := Lib.hid ho.at
      clear ho hb1 Q HB
      go_wp2_with fail
      go_roundw
      case rel => exact ⟨HB1.out, s + 1, A2, c2, HS.out, by go_num, rfl, HA1.out⟩
      case measure => have := HS.out; simp [intOf]; omega
    · obtain rfl : s = 8 := by omega
      obtain ⟨M, hM⟩ : ∃ M, M = amongL (keyL L) l 8 := ⟨_, rfl⟩
      have HZ := Lib.hid (show amongZ (keyL L) l = headZ M by rw [hM]; rfl)
      rw [← hM] at HA ⊢
      clear hM hbr hA hs hs8
      cases M with
      | nil =>
        go_wp2_with fail
        go_ret
        exact ⟨by rw [HZ.out]; rfl, HB.out⟩
      | cons a t =>
        obtain ⟨b, off, rfl, hb, hint⟩ := HA.out.at (j := 0) (u := (a : Int)) rfl
        have k0 := hint 0 (a : Int) rfl
        have hlen : ((((a :: t).length : Nat) : Int) == 0) = false := by simp; omega
        have hpos : 0 < (a :: t).length := by simp
        rw [Nat.add_zero] at k0
        clear hint
        go_wp2_with fail
        go_ret
        exact ⟨by rw [HZ.out]; rfl, HB.out⟩

/-- Which of some is taken. -/
def bestZ (L : List Cv) : Int := amongZ (keyL L) (List.range L.length)
theorem range_lt {n i : Nat} (h : i ∈ List.range n) : i < n := List.mem_range.1 h
set_option maxHeartbeats 3200000 in
theorem RefBest_any (A : Option Addr) (c : Nat) (L : List Cv) (w : World) (h : CandsIn w w.heap.size A L) (hk : ∀ t ∈ L, CntOk t) (hl : L.length ≤ 1000000) :
    Calls Try.prog 11 #[.slice A L.length c] w fun e w' => e = .returned (.int .i64 (bestZ L)) ∧ Below w.heap.size w w' := by
  have HC := Lib.hid h; have HK := Lib.hid hk; have HL := Lib.hid hl
  have QP := Lib.hid (places_any L.length w hl)
  clear h hk hl
  go_enter Try.func11, Try.ntmps11
  go_wp2_with fail
  refine QP.out.mono ?_
  rintro e w1 ⟨A1, c1, rfl, _, _, ho, hb1⟩
  rw [ints_len, List.length_range]
  have Q := Lib.hid (among_any A A1 c c1 L.length L (List.range L.length) (by simp) w1 (HC.out.go hb1) HK.out ho.at (fun i hi => range_lt hi) HL.out (by simpa using HL.out))
  have HB := Lib.hid hb1
  clear ho hb1 QP
  go_wp2_with fail
  refine Q.out.mono ?_
  rintro e w2 ⟨rfl, hb2⟩
  have HB2 := Lib.hid (HB.out.trans (hb2.mono HB.out.size))
  clear hb2
  go_wp2_with fail
  go_ret
  exact ⟨rfl, HB2.out⟩

theorem wf_u32 {n : Int} (h : 0 ≤ n ∧ n ≤ 4294967295) : (Lit.int .u32 n).wf = true := by
  simp [Lit.wf, IntKind.min, IntKind.max, IntKind.signed, IntKind.bits]
  omega
theorem runs_wf {w : World} {B : Nat} {A : Option Addr} {L : List Cv} (h : CandsIn w B A L) (n : Nat) (hn : n ≤ L.length) : ∀ x ∈ runsL L n, (Lit.int .u32 x.near).wf = true := by
  intro x hx
  obtain ⟨i, hi, rfl⟩ := List.mem_map.1 hx
  have hiL : i < L.length := Nat.lt_of_lt_of_le (range_lt hi) hn
  obtain ⟨t, ht⟩ : ∃ t, L[i]? = some t := ⟨_, List.getElem?_eq_getElem hiL⟩
  obtain ⟨b, off, _, _, _, hin⟩ := h.at ht
  rw [keyL_at ht]
  exact wf_u32 hin.near
set_option maxHeartbeats 3200000 in
theorem Best_any (A : Option Addr) (c : Nat) (L : List Cv) (w : World) (h : CandsIn w w.heap.size A L) (hk : ∀ t ∈ L, CntOk t) (hl : L.length ≤ 1000000) :
    Calls Try.prog 10 #[.slice A L.length c] w fun e w' => e = .returned (.int .i64 (bestZ L)) ∧ Below w.heap.size w w' := by
  have HW := Lib.hid (runs_wf h L.length (Nat.le_refl _)); have HL := Lib.hid hl
  have QP := Lib.hid (runners_any A c L w h hk hl)
  clear h hk hl
  go_enter Try.func10, Try.ntmps10
  go_wp2_with fail
  refine QP.out.mono ?_
  rintro e w1 ⟨rfl, hR, hb1⟩
  have hlen : (runsL L L.length).length = L.length := by simp [runsL]
  have Q := Lib.hid (taken_any (some ⟨w.heap.size, 0, none⟩) L.length (runsL L L.length) w1 (hR.runs _ ⟨_, (List.take_length).symm⟩) HW.out (by rw [hlen]; exact HL.out))
  rw [hlen] at Q
  have HB := Lib.hid hb1
  clear hR hb1 QP hlen
  go_wp2_with fail
  refine Q.out.mono ?_
  rintro e w2 ⟨⟨best, rfl, hT⟩, hb2⟩
  have HB2 := Lib.hid (HB.out.trans (hb2.mono HB.out.size))
  obtain rfl : best = bestZ L := by
    rcases taken_is (keyL_z L) List.pairwise_lt_range hT with ⟨_, h1, h2⟩ | ⟨j, i, h1, h2, h3, _⟩
    · rw [h1]; exact h2.symm
    · have : j = i := by
        obtain ⟨q1, q2⟩ := List.getElem?_eq_some_iff.1 h2
        simpa using q2
      rw [h1, this]; exact h3.symm
  clear hb2 hT
  go_wp2_with fail
  go_ret
  exact ⟨rfl, HB2.out⟩
end Go.Proofs.Ytpjhidicgclmbaa

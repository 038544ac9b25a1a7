/-
  Whether deeds are few and small.
-/
import Derived.Test.YtgaoonnokhlgjaaActs26
namespace Go.Proofs.Ytgaoonnokhlgjaa
set_option linter.unusedVariables false
set_option linter.unusedSimpArgs false
open Go.RowKit

set_option maxHeartbeats 1600000 in
theorem Few25_any (c : Cu) (w : World) :
    Calls Try.prog 27 #[aggS c.qrow] w fun e w' => e = .returned (.bool (decide (c.regex.size ≤ 300) && decide (c.comms.length ≤ 20))) ∧ Below w.heap.size w w' := by
  by_cases h1 : c.regex.size ≤ 300
  · by_cases h2 : c.comms.length ≤ 20
    · have HE := Lib.hid (show (decide (c.regex.size ≤ 300) && decide (c.comms.length ≤ 20)) = true by simp [h1, h2])
      have g1 : (c.regex.size : Int) ≤ 300 := by omega
      have g2 : (c.comms.length : Int) ≤ 20 := by omega
      rw [HE.out]
      go_enter Try.func27, Try.ntmps27
      go_wp2_with (refine wpList_boxS _ rfl (.tmp 0) rfl (run_boxQ26 _ c) rfl ?_)
      intro w1 k1 hb1 hz1
      have q6 : w1.cell? ⟨w.heap.size, 6, none⟩ = some (.string c.regex) := k1.cell 6
      have q7 : w1.cell? ⟨w.heap.size, 7, none⟩ = some (.slice c.commsA c.comms.length c.commsC) := k1.cell 7
      have HB := Lib.hid hb1
      clear k1 hb1 hz1
      go_wp2_with fail
      go_ret
      exact ⟨by first | rfl | simp [*], HB.out⟩
    · have HE := Lib.hid (show (decide (c.regex.size ≤ 300) && decide (c.comms.length ≤ 20)) = false by simp [h2])
      have g1 : (c.regex.size : Int) ≤ 300 := by omega
      have g2 : ¬ (c.comms.length : Int) ≤ 20 := by omega
      rw [HE.out]
      go_enter Try.func27, Try.ntmps27
      go_wp2_with (refine wpList_boxS _ rfl (.tmp 0) rfl (run_boxQ26 _ c) rfl ?_)
      intro w1 k1 hb1 hz1
      have q6 : w1.cell? ⟨w.heap.size, 6, none⟩ = some (.string c.regex) := k1.cell 6
      have q7 : w1.cell? ⟨w.heap.size, 7, none⟩ = some (.slice c.commsA c.comms.length c.commsC) := k1.cell 7
      have HB := Lib.hid hb1
      clear k1 hb1 hz1
      go_wp2_with fail
      go_ret
      exact ⟨by first | rfl | simp [*], HB.out⟩
  · have HE := Lib.hid (show (decide (c.regex.size ≤ 300) && decide (c.comms.length ≤ 20)) = false by simp [h1])
    have g1 : ¬ (c.regex.size : Int) ≤ 300 := by omega
    rw [HE.out]
    go_enter Try.func27, Try.ntmps27
    go_wp2_with (refine wpList_boxS _ rfl (.tmp 0) rfl (run_boxQ26 _ c) rfl ?_)
    intro w1 k1 hb1 hz1
    have q6 : w1.cell? ⟨w.heap.size, 6, none⟩ = some (.string c.regex) := k1.cell 6
    have q7 : w1.cell? ⟨w.heap.size, 7, none⟩ = some (.slice c.commsA c.comms.length c.commsC) := k1.cell 7
    have HB := Lib.hid hb1
    clear k1 hb1 hz1
    go_wp2_with fail
    go_ret
    exact ⟨by first | rfl | simp [*], HB.out⟩
set_option maxRecDepth 100000 in
set_option maxHeartbeats 3200000 in
theorem few26_any (A : Option Addr) (d : Nat) (L : List A26) (w : World) (h : ActsIn26 w A L) :
    Calls Try.prog 7 #[.slice A L.length d] w fun e w' => ∃ b, e = .returned (.bool b) ∧ (b = true → L.length ≤ 60 ∧ ∀ s ∈ L, s.c.comms.length ≤ 20) ∧ Below w.heap.size w w' := by
  have HS := Lib.hid h
  clear h
  by_cases hl : (60 : Int) < (L.length : Int)
  · go_enter Try.func7, Try.ntmps7
    go_wp2_with fail
    go_ret
    exact ⟨false, rfl, (fun h => by cases h), Below.refl _ _⟩
  · have HL := Lib.hid (show L.length ≤ 60 by omega)
    go_enter Try.func7, Try.ntmps7
    go_wp2_with fail
    go_loopw [3] (fun i wr => Below w.heap.size w wr ∧ ∃ j : Nat, j ≤ L.length ∧ i = .int .i64 (j : Int) ∧ Hid (∀ s ∈ L.take j, s.c.comms.length ≤ 20)) (fun i _ => L.length - (intOf i).toNat)
    case atStart => exact ⟨Below.refl _ _, 0, Nat.zero_le _, rfl, Lib.hid (fun s hs => by simp at hs)⟩
    case round =>
      obtain ⟨hbr, j, hj, rfl, hok⟩ := hrel
      by_cases hlt : j < L.length
      · obtain ⟨s, hs⟩ : ∃ s, L[j]? = some s := ⟨_, List.getElem?_eq_getElem hlt⟩
        obtain ⟨b, off, rfl, hb, hr⟩ := HS.out.at hbr hs
        have HQ := Lib.hid (A26.query hr)
        have QF := Lib.hid (Few25_any s.c wr)
        have HBR := Lib.hid hbr; have HLT := Lib.hid hlt
        have HN := Lib.hid (show s.c.comms.length ≤ 20 → ∀ x ∈ L.take (j + 1), x.c.comms.length ≤ 20 from fun h => by
          obtain ⟨hj2, rfl⟩ := List.getElem?_eq_some_iff.1 hs
          intro x hx
          rw [List.take_succ_eq_append_getElem hj2] at hx
          rcases List.mem_append.1 hx with hx | hx
          · exact hok.out x hx
          · rw [List.mem_singleton.1 hx]; exact h)
        have hjb : (j : Int) ≤ 60 := by have := HL.out; omega
        have hi0 : (0 : Int) ≤ (j : Int) := by omega
        have hi1 : (j : Int) < (L.length : Int) := by omega
        obtain ⟨q, hq⟩ : ∃ q, q = (decide (s.c.regex.size ≤ 300) && decide (s.c.comms.length ≤ 20)) := ⟨_, rfl⟩
        have HQE := Lib.hid (show q = true → s.c.comms.length ≤ 20 from fun h => by rw [hq] at h; simp at h; exact h.2)
        rw [← hq] at QF
        clear hr hb hbr hj hs hok hq
        cases q with
        | true =>
          have HK := Lib.hid (HN.out (HQE.out rfl))
          go_wp2_with (refine wpList_loadS _ (isQ26 s.c) rfl (.tmp 17) rfl b (off + j * 21 + 4) rfl HQ.out ?_)
          refine QF.out.mono ?_
          rintro e w2 ⟨rfl, hb2⟩
          have HB2 := Lib.hid (HBR.out.trans (hb2.mono HBR.out.size))
          clear hb2
          go_wp2_with fail
          go_roundw
          case rel => exact ⟨HB2.out, j + 1, HLT.out, by go_num, HK⟩
          case measure => have hm := HLT.out; simp [intOf] at hm ⊢; try omega
        | false =>
          go_wp2_with (refine wpList_loadS _ (isQ26 s.c) rfl (.tmp 17) rfl b (off + j * 21 + 4) rfl HQ.out ?_)
          refine QF.out.mono ?_
          rintro e w2 ⟨rfl, hb2⟩
          have HB2 := Lib.hid (HBR.out.trans (hb2.mono HBR.out.size))
          clear hb2
          go_wp2_with fail
          go_ret
          exact ⟨false, rfl, (fun h => by cases h), HB2.out⟩
      · obtain rfl : j = L.length := by omega
        have hok2 := hok.out
        rw [List.take_length] at hok2
        have HOK := Lib.hid hok2
        clear hok hok2 hj
        go_wp2_with fail
        go_ret
        exact ⟨true, rfl, fun _ => ⟨HL.out, HOK.out⟩, hbr⟩
end Go.Proofs.Ytgaoonnokhlgjaa

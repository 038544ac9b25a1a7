/-
  P7.3: of no stream there is nothing; one that no call made is without bytes: the walk.
-/
import Derived.Test.YtjhmkapafhgofaaDoorAwake7
import Derived.Test.YtjhmkapafhgofaaDoorStream7
import Derived.Test.YtjhmkapafhgofaaDoorAll7
namespace Go.Proofs.YtjhmkapafhgofaaDoor.FrameNobody
set_option linter.unusedVariables false
open Go.RowKit

theorem all_none {n : Nat} {l : List UInt8} (h : (nextF l).code ≠ 0 ∨ (nextF l).size = 0) : (allF (n + 1) l).1 = [] := by
  by_cases hc : (nextF l).code = 0
  · rw [allF_stop hc (by omega)]
  · rw [allF_fault hc]
theorem all_some {n : Nat} {l : List UInt8} (h : (nextF l).size ≠ 0) : 0 < (allF (n + 1) l).1.length := by
  rw [allF_more h]; simp

set_option maxHeartbeats 6400000 in
theorem walk (A : Option Addr) (c : Nat) (l : List UInt8) (w : World) (hc : l.length ≤ c) (hm : c ≤ maxLen) (h : Bytes w A l) (ht : TabL w) :
    Calls Tryd.prog 7 #[.slice A l.length c] w fun e w' => e = .returned (.bool true) ∧ Below w.heap.size w w' := by
  by_cases hl : l.length ≤ 1000
  · have hlI : ¬ (1000 : Int) < (l.length : Int) := by omega
    have hb0 := (Below.refl w.heap.size w).alloc (Nat.le_refl _) (.cells #[.slice none 0 0, .int .i64 0, .int .i64 0, .slice none 0 0] 55)
    have HT := Lib.hid (fun W (hB : Below w.heap.size w W) => ht.below hB ht.lt)
    have HY := Lib.hid (fun W (hB : Below w.heap.size w W) => h.below hB)
    have hs0 : StOk (w.alloc (.cells #[.slice none 0 0, .int .i64 0, .int .i64 0, .slice none 0 0] 55)) w.heap.size (.slice none 0 0) [] := ⟨Blk.new w _ _, Tl.nil _ _⟩
    have QF := Lib.hid (Feed_any w.heap.size _ [] A c l _ hs0 (h.below hb0) (by simp; omega))
    have HB0 := Lib.hid hb0
    have HAL0 := Lib.hid (fun hx => all_none (n := l.length) (l := l) hx)
    have HAL1 := Lib.hid (fun hx => all_some (n := l.length) (l := l) hx)
    have HM := Lib.hid hm; have HC := Lib.hid hc; have HL := Lib.hid hl
    have hfd : ∀ w : World, (Instr.field 33 (.agg #[.int .i64 0, .int .i64 0, .slice none 0 0]) 0).run Tryd.prog w = .ok (.int .i64 0) w := fun _ => by kernel_rfl
    clear h ht hl hb0 hs0 hm hc
    go_enter Tryd.func7, Tryd.ntmps7
    go_wp2_with fail
    refine (FeedNil_any A l.length c w).mono ?_
    rintro e w0 ⟨rfl, rfl⟩
    go_wp2_with fail
    refine (NextNil_any w).mono ?_
    rintro e w0 ⟨rfl, rfl⟩
    go_wp2_with fail
    refine QF.out.mono ?_
    rintro e w1 ⟨rfl, v1, hs1, hk1⟩
    rw [List.nil_append] at hs1
    have hb1 : Below w.heap.size w w1 := HB0.out.trans (hk1.below (Nat.le_refl _) (fun k hk => by cases hk) HB0.out.size)
    have HS1 := Lib.hid hs1; have HB1 := Lib.hid hb1
    clear hs1 hk1 hb1 QF
    have QA := Lib.hid (All_any A c l w1 (HY.out _ HB1.out) HC.out HM.out (by have := HL.out; omega))
    go_wp2_with fail
    refine QA.out.mono ?_
    rintro e w2 ⟨hb2, M, A2, c2, A3, c3, rfl, hM, _, _, _⟩
    obtain ⟨fc, hfc⟩ : ∃ x, x = (allF (l.length + 1) l).2.1.1 := ⟨_, rfl⟩
    obtain ⟨fu, hfu⟩ : ∃ x, x = (allF (l.length + 1) l).2.1.2.1 := ⟨_, rfl⟩
    obtain ⟨fd, hfd⟩ : ∃ x, x = (allF (l.length + 1) l).2.1.2.2 := ⟨_, rfl⟩
    obtain ⟨fl, hfl⟩ : ∃ x, x = (allF (l.length + 1) l).2.2 := ⟨_, rfl⟩
    simp only [← hfc, ← hfu, ← hfd, ← hfl]
    have hal := (Below.refl w2.heap.size w2).alloc (Nat.le_refl _) (.cells #[.int .i64 (fc : Int), .int .i64 (fu : Int), .slice A3 fd.length c3] 33)
    have hb2' := hb2.trans (hal.mono hb2.size)
    have hB2 := HB1.out.trans (hb2'.mono HB1.out.size)
    have hs2 := HS1.out.below hb2'
    have QS := Lib.hid (SNext_any w.heap.size v1 l _ hs2 (by have := HL.out; omega) (HT.out _ hB2))
    have HB2 := Lib.hid hB2; have HM2 := Lib.hid hM
    have HOW := Lib.hid (fun k (hk : v1.ownBlock = some k) => (hs2.own hk).1)
    clear hfc hfu hfd hfl hal hb2 hb2' hB2 hs2 hM QA
    go_wp2_with fail
    refine QS.out.mono ?_
    have hcd := nextF_code l
    obtain ⟨x, hx⟩ : ∃ x, x = nextF l := ⟨_, rfl⟩
    rw [← hx] at HAL0 HAL1 hcd ⊢
    clear hx QS
    obtain ⟨K, Bd, S, C, U, D⟩ := x
    have QL := Lib.hid (fun W => LeftNil_any W)
    have QFN := Lib.hid (fun W => FaultNil_any W)
    have QAW := Lib.hid (fun W (hB : Below w.heap.size w W) => awake7_any W (HT.out _ hB))
    dsimp only at hcd
    rintro e w3 (⟨hC, v3, A4, c4, rfl, hs3, hk3, f4, g4, ho4, hv4⟩ | ⟨hC, rfl, hs3, hk3⟩)
    · dsimp only at hC; subst hC
      have HB3 := Lib.hid (HB2.out.trans (hk3.below (Nat.le_refl _) (fun k hk => Nat.le_of_lt (HOW.out k hk)) HB2.out.size))
      clear hs3 hk3 f4 g4 ho4 hv4 hcd
      dsimp only
      by_cases hS : S = 0
      · subst hS
        have hM0 : M.length = 0 := by
          have h1 := congrArg List.length HM2.out
          rw [HAL0.out (.inr rfl), List.length_map] at h1
          simpa using h1
        rw [hM0]
        clear hM0
        go_wp2_with fail
        refine (QL.out _).mono ?_
        rintro e w4 ⟨rfl, rfl⟩
        go_wp2_with fail
        refine (QFN.out _).mono ?_
        rintro e w4 ⟨rfl, hb4⟩
        have HB4 := Lib.hid (HB3.out.trans (hb4.mono HB3.out.size)); clear hb4
        go_wp2_with fail
        refine (QAW.out _ HB4.out).mono ?_
        rintro e w5 ⟨rfl, hb5⟩
        go_wp2_with fail
        go_ret
        exact ⟨rfl, HB4.out.trans (hb5.mono HB4.out.size)⟩
      · have hM1 : 0 < M.length := by
          have h1 := congrArg List.length HM2.out
          rw [List.length_map] at h1
          rw [h1]; exact HAL1.out hS
        have hM2 : (0 : Int) < (M.length : Int) := by omega
        have hS1 : 0 < S := by omega
        clear hS
        go_wp2_with fail
        refine (QL.out _).mono ?_
        rintro e w4 ⟨rfl, rfl⟩
        go_wp2_with fail
        refine (QFN.out _).mono ?_
        rintro e w4 ⟨rfl, hb4⟩
        have HB4 := Lib.hid (HB3.out.trans (hb4.mono HB3.out.size)); clear hb4
        go_wp2_with fail
        refine (QAW.out _ HB4.out).mono ?_
        rintro e w5 ⟨rfl, hb5⟩
        go_wp2_with fail
        go_ret
        exact ⟨rfl, HB4.out.trans (hb5.mono HB4.out.size)⟩
    · dsimp only at hC; subst hC
      have HB3 := Lib.hid (HB2.out.trans (hk3.below (Nat.le_refl _) (fun k hk => Nat.le_of_lt (HOW.out k hk)) HB2.out.size))
      clear hs3 hk3 hcd
      have hM0 : M.length = 0 := by
        have h1 := congrArg List.length HM2.out
        rw [HAL0.out (.inl (by simp)), List.length_map] at h1
        simpa using h1
      rw [hM0]
      clear hM0
      go_wp2_with fail
      refine (QL.out _).mono ?_
      rintro e w4 ⟨rfl, rfl⟩
      go_wp2_with fail
      refine (QFN.out _).mono ?_
      rintro e w4 ⟨rfl, hb4⟩
      have HB4 := Lib.hid (HB3.out.trans (hb4.mono HB3.out.size)); clear hb4
      go_wp2_with fail
      refine (QAW.out _ HB4.out).mono ?_
      rintro e w5 ⟨rfl, hb5⟩
      go_wp2_with fail
      go_ret
      exact ⟨rfl, HB4.out.trans (hb5.mono HB4.out.size)⟩
  · have hlI : (1000 : Int) < (l.length : Int) := by omega
    have QA := Lib.hid (awake7_any w ht)
    clear h ht hl
    go_enter Tryd.func7, Tryd.ntmps7
    go_wp2_with fail
    refine QA.out.mono ?_
    rintro e w2 ⟨rfl, hb2⟩
    go_wp2_with fail
    go_ret
    exact ⟨rfl, hb2⟩
end Go.Proofs.YtjhmkapafhgofaaDoor.FrameNobody

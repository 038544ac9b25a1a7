/-
  P21.2: what a NOTIFICATION says, of any event: the walk.
-/
import Derived.Test.YthjnbjhdepfclaaDoorFault21
import Derived.Deep.RegionHeld3
namespace Go.Proofs.YthjnbjhdepfclaaDoor.FsmFaults
set_option linter.unusedVariables false
set_option linter.unusedSimpArgs false
open Go.RowKit

theorem same_self (C S : Int) (l : List UInt8) : sameF C S l C S l = true := by unfold sameF; simp
set_option maxRecDepth 100000 in
set_option maxHeartbeats 6400000 in
theorem walk (e C S : Int) (A : Option Addr) (c : Nat) (l : List UInt8) (w : World) (h : Bytes w A l) (hl : l.length ≤ c) (hm : c ≤ maxLen) (ht : TabF w) :
    Calls Tryd.prog 4 #[.int .i64 e, .agg #[.int .i64 C, .int .i64 S, .slice A l.length c]] w fun r w' => r = .returned (.bool true) ∧ Below w.heap.size w w' := by
  have k0 := Blk.new w 29 [.int .i64 C, .int .i64 S, .slice A l.length c]
  obtain ⟨W0, hW0⟩ : ∃ W0, W0 = w.alloc (.cells #[.int .i64 C, .int .i64 S, .slice A l.length c] 29) := ⟨_, rfl⟩
  have hb0 : Below w.heap.size w W0 := by rw [hW0]; exact (Below.refl _ _).alloc (Nat.le_refl _) _
  have hk : Blk W0 w.heap.size 29 [.int .i64 C, .int .i64 S, .slice A l.length c] := by rw [hW0]; exact k0
  have HW := Lib.hid hW0
  have HB0 := Lib.hid hb0
  have HT0 := Lib.hid (ht.go hb0)
  have HY0 := Lib.hid (show Bytes W0 A l from At.lift (At.below h hb0 (Nat.le_refl _)) hb0.size)
  have c0 := cells3 k0
  have HC := Lib.hid (fun W (q : Below W0.heap.size W0 W) => cells3 (hk.below q hk.lt))
  clear hb0 hk k0 h ht hW0
  by_cases h5 : (500 : Int) < (l.length : Int)
  · have QW := Lib.hid (awake21_any W0 HT0.out)
    rw [HW.out] at QW
    go_enter Tryd.func4, Tryd.ntmps4
    go_wp2_with fail
    refine QW.out.mono ?_
    rintro r w2 ⟨rfl, hb2⟩
    have HB2 := Lib.hid (show Below w.heap.size w w2 from (by have q := HB0.out; rw [HW.out] at q; exact q.trans (hb2.mono q.size)))
    clear hb2
    go_wp2_with fail
    go_ret
    exact ⟨rfl, HB2.out⟩
  · have Q1 := Lib.hid (fun W (q : Below W0.heap.size W0 W) => Fault_any e C S A c l W ((HY0.out.below q)) (by omega))
    have Q2 := Lib.hid (fun W (q : Below W0.heap.size W0 W) => RefFault_any e C S A c l W ((HY0.out.below q)) hl hm)
    have QA := Lib.hid (fun W (q : Below W0.heap.size W0 W) => awake21_any W (HT0.out.go q))
    obtain ⟨C1, hC1⟩ : ∃ n, n = fC e C := ⟨_, rfl⟩
    obtain ⟨S1, hS1⟩ : ∃ n, n = fS e S := ⟨_, rfl⟩
    obtain ⟨l1, hl1⟩ : ∃ n, n = fL e l := ⟨_, rfl⟩
    rw [← hC1, ← hS1, ← hl1] at Q1 Q2
    have HSM := Lib.hid (same_self C1 S1 l1)
    have hbc : Below W0.heap.size W0 W0.drew := (Below.refl _ _).drew
    have HBW := Lib.hid (fun W (q : Below W0.heap.size W0 W) => HB0.out.trans (q.mono HB0.out.size))
    have HM := Lib.hid hm
    clear hC1 hS1 hl1 hm
    go_enter Tryd.func4, Tryd.ntmps4
    go_wp2_with fail
    rw [← HW.out]
    rw [← HW.out] at c0
    go_region_held3 (fun w' => w'.cell? ⟨w.heap.size, 0, none⟩ = some (.int .i64 C) ∧ w'.cell? ⟨w.heap.size, 1, none⟩ = some (.int .i64 S) ∧ w'.cell? ⟨w.heap.size, 2, none⟩ = some (.slice A l.length c)) (exact HC.out _ hbc) ((first
      | (go_at_call 13; refine (Q1.out _ hbc).mono ?_; rintro r wx ⟨hg, A1, c1, rfl, f1, g1, hy⟩; have HY1 := Lib.hid hy; replace hbc := hbc.trans (hg.mono hbc.size); clear hg f1 g1 hy)
      | (go_at_call 14; refine (Q2.out _ hbc).mono ?_; rintro r wx ⟨hg, A2, c2, rfl, f1, g1, hy⟩; have HY2 := Lib.hid hy; have HY3 := Lib.hid (HY1.out.below hg); replace hbc := hbc.trans (hg.mono hbc.size); clear hg f1 g1 hy HY1)
      | (go_at_call 12; refine (RSame_any C1 S1 C1 S1 A1 A2 c1 c2 l1 l1 _ HY3.out HY2.out).mono ?_; rintro r wx ⟨rfl, hg⟩; rw [HSM.out]; replace hbc := hbc.trans (hg.mono hbc.size); clear hg)
      | (go_at_call 11; refine (QA.out _ hbc).mono ?_; rintro r wx ⟨rfl, hg⟩; replace hbc := hbc.trans (hg.mono hbc.size); clear hg)))
    go_wp2_with fail
    go_ret
    exact ⟨rfl, HBW.out _ hbc⟩
end Go.Proofs.YthjnbjhdepfclaaDoor.FsmFaults

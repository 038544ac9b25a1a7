/-
  The example that each statement of this layer asks for.
-/
import Derived.Test.YtjhmkapafhgofaaDoorPut7
import Derived.Test.YtjhmkapafhgofaaDoorNext7
namespace Go.Proofs.YtjhmkapafhgofaaDoor
set_option linter.unusedVariables false
set_option linter.unusedSimpArgs false
open Go.RowKit

theorem StreamNew_any (w : World) : Calls Tryd.prog 17 #[] w fun e w' => e = .returned (.pointer (some ⟨w.heap.size, 0, none⟩)) ∧ w' = w.alloc (.cells #[.slice none 0 0, .int .i64 0, .int .i64 0, .slice none 0 0] 55) := by
  go_enter Tryd.func17, Tryd.ntmps17
  go_wp2_with fail
  go_ret
  exact ⟨rfl, rfl⟩
theorem StreamLeft_any (g n c : Nat) (A : Option Addr) (w : World) (h : w.cell? ⟨g, 0, none⟩ = some (.slice A n c)) :
    Calls Tryd.prog 22 #[.pointer (some ⟨g, 0, none⟩)] w fun e w' => e = .returned (.int .i64 (n : Int)) ∧ w = w' := by
  go_enter Tryd.func22, Tryd.ntmps22
  go_wp2_with fail
  go_ret
  exact ⟨rfl, rfl⟩
theorem ex_next : nextF (msgL 4 []) = ⟨4, [], 19, 0, 0, []⟩ := by kernel_rfl
theorem ex_18 : (msgL 4 []).getD 18 0 = 4 := by decide +kernel
theorem four_pos : leastN 4 ≠ 0 := by decide

set_option maxHeartbeats 3200000 in
theorem awake7_any (w : World) (ht : TabL w) : Calls Tryd.prog 8 #[] w fun e w' => e = .returned (.bool true) ∧ Below w.heap.size w w' := by
  have Q1 := Lib.hid (Put7_any 4 none 0 [] w (Bytes.nil _ _) (by simp) ht)
  have HT := Lib.hid (fun W (hB : Below w.heap.size w W) => ht.below hB ht.lt)
  clear ht
  go_enter Tryd.func8, Tryd.ntmps8
  go_wp2_with fail
  refine Q1.out.mono ?_
  rintro e w1 ⟨hb1, hv⟩
  obtain ⟨A1, c1, he, f1, g1, ho1⟩ : ∃ A c, e = .returned (.tuple #[.slice A (msgL 4 []).length c, .int .i64 0]) ∧ (msgL 4 []).length ≤ c ∧ c ≤ maxLen ∧ Own w1 w.heap.size 5 (.slice A (msgL 4 []).length c) (msgL 4 []) := by
    rcases hv with ⟨h0, _⟩ | ⟨_, h0, _⟩ | ⟨_, _, h⟩
    · exact absurd h0 four_pos
    · simp at h0
    · exact h
  subst he
  have hl : (msgL 4 []).length = 19 := by rw [msgL_len]; rfl
  have hN := ex_next
  have h18 := ex_18
  obtain ⟨M, hM⟩ : ∃ M, M = msgL 4 [] := ⟨_, rfl⟩
  rw [← hM] at f1 ho1 hl hN h18
  simp only [← hM]
  clear hM
  have q2 := Next_any A1 c1 M w1 ho1.bytes f1 g1 (by omega) (HT.out _ hb1)
  rw [hN] at q2
  obtain ⟨b1, off1, rfl, hb, hc⟩ := ho1.bytes (by intro e; subst e; simp at hl)
  have hc18 := hc 18 (by omega)
  rw [h18] at hc18
  have hc18' : w1.cell? ⟨b1, off1 + 18, none⟩ = some (.int .u8 4) := hc18
  rw [hl] at q2 ⊢
  have Q2 := Lib.hid q2; have HB1 := Lib.hid hb1; have HC := Lib.hid hc18'
  clear hv q2 hb1 ho1 hc hc18 hc18' hN h18 hl f1
  go_wp2_with fail
  refine Q2.out.mono ?_
  rintro e w2 ⟨hb2, A2, c2, A3, c3, rfl, _, _⟩
  have hc2 := (hb2.cell (p := ⟨b1, off1 + 18, none⟩) hb).trans HC.out
  have hal := (Below.refl w2.heap.size w2).alloc (Nat.le_refl _) (.cells #[.int .i64 0, .int .i64 0, .slice A3 0 c3] 33)
  have hc3 := (hal.cell (p := ⟨b1, off1 + 18, none⟩) (World.block_lt_of_cell? _ _ hc2)).trans hc2
  have HB2 := Lib.hid ((HB1.out.trans (hb2.mono HB1.out.size)).trans (hal.mono (HB1.out.trans (hb2.mono HB1.out.size)).size))
  clear hb2 Q2 hal hc2
  go_wp2_with fail
  refine (StreamNew_any _).mono ?_
  rintro e w3 ⟨rfl, rfl⟩
  go_wp2_with fail
  have hcs := (Blk.new (w2.alloc (.cells #[.int .i64 0, .int .i64 0, .slice A3 0 c3] 33)) 55 [.slice none 0 0, .int .i64 0, .int .i64 0, .slice none 0 0]).cell 0
  have hz : (w2.alloc (.cells #[.int .i64 0, .int .i64 0, .slice A3 0 c3] 33)).heap.size = w2.heap.size + 1 := by simp
  rw [hz] at hcs
  refine (StreamLeft_any _ _ _ _ _ hcs).mono ?_
  rintro e w4 ⟨rfl, rfl⟩
  go_wp2_with fail
  go_ret
  exact ⟨rfl, HB2.out.alloc HB2.out.size _⟩
end Go.Proofs.YtjhmkapafhgofaaDoor

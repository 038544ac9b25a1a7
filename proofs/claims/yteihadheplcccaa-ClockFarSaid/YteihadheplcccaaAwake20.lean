/-
  The example of layer 20.
-/
import Derived.Test.YteihadheplcccaaTick20
namespace Go.Proofs.Yteihadheplcccaa
set_option linter.unusedVariables false
set_option linter.unusedSimpArgs false
open Go.RowKit

theorem field20 (x y z : Value) (w : World) : (Instr.field 24 (.agg #[x, y, z]) 0).run Try.prog w = .ok (.agg #[x, y, z]) w := by kernel_rfl
theorem pass_of {w : World} {t t' : Tri} {z z' : List Int} {e : Ending} {w' : World} (h : PassPost w t z e w') (h1 : t = t') (h2 : z = z') : PassPost w t' z' e w' := by subst h1; subst h2; exact h
theorem end_200 : endN 1 ⟨0, 2, 0⟩ 3 = [] := by decide +kernel
theorem end_100 : endN 1 ⟨0, 1, 0⟩ 3 = [1] := by decide +kernel
theorem pass_200 : passN 1 ⟨0, 2, 0⟩ 3 = ⟨0, 1, 0⟩ := by kernel_rfl
theorem pass_100 : passN 1 ⟨0, 1, 0⟩ 3 = ⟨0, 0, 0⟩ := by kernel_rfl
set_option maxHeartbeats 3200000 in
theorem awake20_any (w : World) :
    Calls Try.prog 10 #[] w fun e w' => e = .returned (.bool true) ∧ Below w.heap.size w w' := by
  have Q1 := Lib.hid (fun W => Set_1pos 0 0 0 2 W (by omega))
  have Q2 := Lib.hid (fun W => Tick_any 0 2 0 W ⟨⟨by simp, by simp⟩, ⟨by simp, by simp⟩, ⟨by simp, by simp⟩⟩)
  have Q3 := Lib.hid (fun W => Tick_any 0 1 0 W ⟨⟨by simp, by simp⟩, ⟨by simp, by simp⟩, ⟨by simp, by simp⟩⟩)
  have Q4 := Lib.hid (fun W => Runs_1f 0 0 0 W (by omega))
  rw [end_200, pass_200] at Q2
  rw [end_100, pass_100] at Q3
  go_enter Try.func10, Try.ntmps10
  go_wp2_with fail
  refine (Q1.out _).mono ?_
  rintro e w1 ⟨rfl, hb1⟩
  have HB1 := Lib.hid hb1
  clear hb1
  go_wp2_with fail
  refine (Q2.out _).mono ?_
  rintro e w2 ⟨A2, c2, rfl, ho2, hb2⟩
  have HB2 := Lib.hid (HB1.out.trans (hb2.mono HB1.out.size))
  clear hb2 ho2
  go_wp2_with fail
  refine (Q3.out _).mono ?_
  rintro e w3 ⟨A3, c3, rfl, ho3, hb3⟩
  have k1 := (Blk.new w2 24 [.int .i64 0, .int .i64 1, .int .i64 0]).below hb3 (by simp)
  have e1 := cells3 k1
  have HB3 := Lib.hid ((HB2.out.alloc HB2.out.size (.cells #[.int .i64 0, .int .i64 1, .int .i64 0] 24)).trans (hb3.mono (Nat.le_trans HB2.out.size (by simp))))
  obtain ⟨b, off, rfl, hlt, hc⟩ := ho3.at (by simp)
  have HC := Lib.hid (fun W (h : Below w3.heap.size w3 W) => (h.cell (p := ⟨b, off + 0, none⟩) hlt).trans (hc 0 1 rfl))
  have HC0 := HC.out (w3.alloc (.cells #[.int .i64 0, .int .i64 0, .int .i64 0] 24)) ((Below.refl _ _).alloc (Nat.le_refl _) _)
  have l1 : w2.heap.size < w3.heap.size := by have := hb3.size; simp at this; omega
  have l2 : b < w3.heap.size := hlt
  have hc0 : w3.cell? ⟨b, off, none⟩ = some (.int .i64 1) := hc 0 1 rfl
  clear hb3 ho3 k1 hlt hc HC0
  go_wp2_with fail
  refine (Q4.out _).mono ?_
  rintro e w4 ⟨rfl, hb4⟩
  have HB4 := Lib.hid ((HB3.out.alloc HB3.out.size (.cells #[.int .i64 0, .int .i64 0, .int .i64 0] 24)).trans (hb4.mono (Nat.le_trans HB3.out.size (by simp))))
  clear hb4
  go_wp2_with fail
  go_ret
  exact ⟨rfl, HB4.out⟩
end Go.Proofs.Yteihadheplcccaa

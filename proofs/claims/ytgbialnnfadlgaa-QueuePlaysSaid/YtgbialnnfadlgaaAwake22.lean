/-
  The example of layer 22.
-/
import Derived.Test.YtgbialnnfadlgaaPut22
import Derived.Lib.SlBytesConst
namespace Go.Proofs.Ytgbialnnfadlgaa
set_option linter.unusedVariables false
set_option linter.unusedSimpArgs false
open Go.RowKit

theorem bytes_mark (w : World) (e : TypeId) (m : List UInt8) (fr : Nat × Nat) : Bytes (w.alloc (.cells (m.map fun b => Value.int .u8 (b.toNat : Int)).toArray e fr)) (some ⟨w.heap.size, 0, none⟩) m := by
  intro _
  refine ⟨w.heap.size, 0, rfl, by simp, fun j hj => ?_⟩
  have hk := heap_alloc_new w (.cells (m.map fun b => Value.int .u8 (b.toNat : Int)).toArray e fr)
  rw [cell_of_row _ _ _ _ e fr hk]
  simp [List.getD, hj]
theorem most9 : mostN 9 = 9 := by decide
theorem eol_ex : eolN [97, 98, 10, 99] = ((2 : Nat) : Int) := by decide +kernel
set_option maxHeartbeats 3200000 in
theorem awake22_any (w : World) :
    Calls Try.prog 8 #[] w fun e w' => e = .returned (.bool true) ∧ Below w.heap.size w w' := by
  have N := Lib.hid (New22_any 9 w)
  rw [most9] at N
  have hq0 := Que.new 9 w
  rw [most9] at hq0
  obtain ⟨W1, hW1⟩ : ∃ W, W = w.alloc (.cells #[.int .i64 9, .slice none 0 0, .bool false] 48) := ⟨_, rfl⟩
  rw [← hW1] at N hq0
  have hb1 : Below w.heap.size w W1 := by rw [hW1]; exact (Below.refl _ _).alloc (Nat.le_refl _) _
  clear hW1
  have HQ := Lib.hid hq0; have HB := Lib.hid hb1
  clear hq0 hb1
  have hcv := Lib.run_convert_bytes_const (P := Try.prog) W1 29 5 #[.int .u8 97, .int .u8 98, .int .u8 10, .int .u8 99] 4 4 Try.underlying29 Try.underlying5
  go_enter Try.func8, Try.ntmps8
  go_wp2_with fail
  refine N.out.mono ?_
  rintro e w1 ⟨rfl, rfl⟩
  go_wp2_with fail
  have hq2 := HQ.out.below ((Below.refl w1.heap.size w1).alloc (Nat.le_refl _) (.cells #[.int .u8 97, .int .u8 98, .int .u8 10, .int .u8 99] 5 (4, 5)))
  have HY := Lib.hid (bytes_mark w1 5 [97, 98, 10, 99] (4, 5))
  refine (Put22_k w.heap.size 9 _ [] _ 4 4 [97, 98, 10, 99] _ hq2 HY.out (by simp) (by unfold maxLen; omega) (by decide)).mono ?_
  rintro e w2 ⟨rfl, v2, hq3, hk3⟩
  have HQ3 := Lib.hid hq3
  have HB3 := Lib.hid (Below.trans (HB.out.alloc HB.out.size (.cells #[.int .u8 97, .int .u8 98, .int .u8 10, .int .u8 99] 5 (4, 5))) (hk3.below (Nat.le_refl _) (fun k hk => by cases hk) (by simp; have := HB.out.size; omega)))
  have T := Lib.hid (Line_in_pos w.heap.size 9 v2 [97, 98, 10, 99] false 5 w2 hq3 (by decide) 2 eol_ex (by decide))
  clear hq2 hq3 hk3
  go_wp2_with fail
  refine T.out.mono ?_
  rintro e w3 ⟨A1, n1, v3, rfl, p1, p2, ho, hq, hk⟩
  have hcb : (convert 29 9 (.slice A1 2 n1)).run Try.prog w3 = .ok (.string ⟨#[97, 98]⟩) w3 := conv_bytes isBytes (d := 9) (by kernel_rfl) (Own.bytes ho) n1
  have HQ4 := Lib.hid hq; have HK4 := Lib.hid hk
  clear ho hq hk p1 p2
  go_wp2_with fail
  refine (Len22_any _ _ _ _ _ _ HQ4.out).mono ?_
  rintro e w5 ⟨rfl, rfl⟩
  go_wp2_with fail
  refine (Room22_any _ _ _ _ _ _ HQ4.out).mono ?_
  rintro e w6 ⟨rfl, hb6⟩
  have HB6 := Lib.hid (Below.trans (Below.trans HB3.out (HK4.out.below (Nat.le_refl _) (fun k hk => Nat.le_of_lt (HQ3.out.2.1.lt hk).1) HB3.out.size)) (hb6.mono (Nat.le_trans HB3.out.size HK4.out.size)))
  clear hb6
  go_wp2_with fail
  go_ret
  exact ⟨rfl, HB6.out⟩
end Go.Proofs.Ytgbialnnfadlgaa

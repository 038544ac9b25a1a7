/-
  The document's Holds (written by gen02.py).
-/
import Derived.Test.YtcjeifpdikojlaaDoorRefRight
namespace Go.Proofs.YtcjeifpdikojlaaDoor
set_option linter.unusedVariables false
set_option linter.unusedSimpArgs false
open Go.RowKit

set_option maxHeartbeats 1600000 in
theorem RefHolds_any (a : Nat) (n : Int) (x : Nat) (w : World) (ha : a < 4294967296) (hx : x < 4294967296) :
    Calls Tryd.prog 54 #[.agg #[.int .u32 (a : Int), .int .i64 n], .int .u32 (x : Int)] w (RetBool w (holdsB (a : Int) n x)) := by
  have QR := fun w => Lib.hid (RefRight_any a n w ha)
  have HS := Lib.hid (fun w' hb => box_cells w (.int .u32 (a : Int)) (.int .i64 n) (w' := w') hb)
  have hb0 : Below (w.alloc (.cells #[.int .u32 (a : Int), .int .i64 n] 33)).heap.size (w.alloc (.cells #[.int .u32 (a : Int), .int .i64 n] 33)) (w.alloc (.cells #[.int .u32 (a : Int), .int .i64 n] 33)).drew := (Below.refl _ _).drew
  cases hok : okP (a : Int) n with
  | false =>
    rw [hok] at QR
    have e1 := Lib.hid (show holdsB (a : Int) n x = false by unfold holdsB; rw [hok]; rfl)
    clear hok
    go_enter Tryd.func54, Tryd.ntmps54
    go_wp2_with fail
    refine wp_region_held_drew (S := fun w' => w'.cell? ⟨w.heap.size, 0, none⟩ = some (.int .u32 (a : Int)) ∧ w'.cell? ⟨w.heap.size, 1, none⟩ = some (.int .i64 n)) (by kernel_rfl) (HS.out _ hb0) (fun hHeld => ?_)
    refine wpAnyH_take (i := 0) (v := ?_) rfl (by kernel_rfl) (by kernel_rfl) (by kernel_rfl) (fun _ _ _ h => h) (Or.inl ⟨by rfl, ?_⟩) (by assumption) ?_
    rotate_left
    · intro w hSw; (try dsimp only at hSw); go_simp; (try with_reducible rfl)
    try simp only [List.getElem_toArray, List.getElem_cons_zero, List.getElem_cons_succ, Act.put, List.setIfInBounds_toArray, List.set_cons_zero, List.set_cons_succ]
    refine wpAnyH_ready (rs := [1]) (by kernel_rfl) (by simp) ?_
    refine AllReadyH.cons (o := _) rfl (fun K hK => ?_) AllReadyH.nil
    go_simp
    go_at_call 44
    refine (QR _).out.mono ?_
    rintro e w1 ⟨rfl, hb1'⟩
    have hb1 := hb0.trans hb1'
    go_wp2_with fail
    refine hK.out _ _ (HS.out _ hb1) (fun hHeld2 => ?_)
    clear hK K hHeld
    try simp only [List.getElem_toArray, List.getElem_cons_zero, List.getElem_cons_succ, Act.put, List.setIfInBounds_toArray, List.set_cons_zero, List.set_cons_succ]
    refine wpAnyH_take (i := 2) (v := ?_) rfl (by kernel_rfl) (by kernel_rfl) (by kernel_rfl) (fun _ _ _ h => h) (Or.inl ⟨by rfl, ?_⟩) (by assumption) ?_
    rotate_left
    · intro w hSw; (try dsimp only at hSw); go_simp; (try with_reducible rfl)
    try simp only [List.getElem_toArray, List.getElem_cons_zero, List.getElem_cons_succ, Act.put, List.setIfInBounds_toArray, List.set_cons_zero, List.set_cons_succ]
    refine skipH (i := 3) rfl (by kernel_rfl) (by kernel_rfl) (by kernel_rfl) (fun _ _ _ h => h) (by rfl) (by assumption) ?_
    try simp only [List.getElem_toArray, List.getElem_cons_zero, List.getElem_cons_succ, Act.put, List.setIfInBounds_toArray, List.set_cons_zero, List.set_cons_succ]
    refine skipH (i := 4) rfl (by kernel_rfl) (by kernel_rfl) (by kernel_rfl) (fun _ _ _ h => h) (by rfl) (by assumption) ?_
    try simp only [List.getElem_toArray, List.getElem_cons_zero, List.getElem_cons_succ, Act.put, List.setIfInBounds_toArray, List.set_cons_zero, List.set_cons_succ]
    refine skipH (i := 5) rfl (by kernel_rfl) (by kernel_rfl) (by kernel_rfl) (fun _ _ _ h => h) (by rfl) (by assumption) ?_
    try simp only [List.getElem_toArray, List.getElem_cons_zero, List.getElem_cons_succ, Act.put, List.setIfInBounds_toArray, List.set_cons_zero, List.set_cons_succ]
    refine skipH (i := 6) rfl (by kernel_rfl) (by kernel_rfl) (by kernel_rfl) (fun _ _ _ h => h) (by rfl) (by assumption) ?_
    try simp only [List.getElem_toArray, List.getElem_cons_zero, List.getElem_cons_succ, Act.put, List.setIfInBounds_toArray, List.set_cons_zero, List.set_cons_succ]
    refine skipH (i := 7) rfl (by kernel_rfl) (by kernel_rfl) (by kernel_rfl) (fun _ _ _ h => h) (by rfl) (by assumption) ?_
    try simp only [List.getElem_toArray, List.getElem_cons_zero, List.getElem_cons_succ, Act.put, List.setIfInBounds_toArray, List.set_cons_zero, List.set_cons_succ]
    refine skipH (i := 8) rfl (by kernel_rfl) (by kernel_rfl) (by kernel_rfl) (fun _ _ _ h => h) (by rfl) (by assumption) ?_
    try simp only [List.getElem_toArray, List.getElem_cons_zero, List.getElem_cons_succ, Act.put, List.setIfInBounds_toArray, List.set_cons_zero, List.set_cons_succ]
    refine wpAnyH_take (i := 9) (v := ?_) rfl (by kernel_rfl) (by kernel_rfl) (by kernel_rfl) (fun _ _ _ h => h) (Or.inl ⟨by rfl, ?_⟩) (by assumption) ?_
    rotate_left
    · intro w hSw; (try dsimp only at hSw); go_simp; (try with_reducible rfl)
    try simp only [List.getElem_toArray, List.getElem_cons_zero, List.getElem_cons_succ, Act.put, List.setIfInBounds_toArray, List.set_cons_zero, List.set_cons_succ]
    refine wpAnyH_take (i := 10) (v := ?_) rfl (by kernel_rfl) (by kernel_rfl) (by kernel_rfl) (fun _ _ _ h => h) (Or.inl ⟨by rfl, ?_⟩) (by assumption) ?_
    rotate_left
    · intro w hSw; (try dsimp only at hSw); go_simp; (try with_reducible rfl)
    try simp only [List.getElem_toArray, List.getElem_cons_zero, List.getElem_cons_succ, Act.put, List.setIfInBounds_toArray, List.set_cons_zero, List.set_cons_succ]
    refine wpAnyH_done (by kernel_rfl) ?_ _
    go_wp2_with fail
    go_ret
    exact ⟨by rw [e1.out]; rfl, below_box hb1⟩
  | true =>
    rw [hok] at QR
    obtain ⟨k, rfl⟩ := Int.eq_ofNat_of_zero_le (okP_range hok).1
    have hk : k ≤ 32 := by have := (okP_range hok).2; omega
    have e0 : holdsB (a : Int) (k : Int) x = (((hi x k : Nat) : Int) == (a : Int)) := by unfold holdsB; rw [hok]; rfl
    have QN := fun w => Lib.hid (RefNorm_any x (k : Int) w hx)
    rw [cl_nat hk] at QN
    clear hok
    by_cases hA : hi x k = a
    · rw [hA] at QN
      have e1 := Lib.hid (show holdsB (a : Int) (k : Int) x = true by rw [e0, hA]; simp)
      clear e0 hA
      go_enter Tryd.func54, Tryd.ntmps54
      go_wp2_with fail
      go_region_held3 (fun w' => w'.cell? ⟨w.heap.size, 0, none⟩ = some (.int .u32 (a : Int)) ∧ w'.cell? ⟨w.heap.size, 1, none⟩ = some (.int .i64 (k : Int))) (first | exact HS.out _ hb0 | exact HS.out _ hb1 | exact HS.out _ hb2) ((first
        | (go_at_call 44; refine (QR _).out.mono ?_; rintro e w1 ⟨rfl, hb1'⟩; have hb1 := hb0.trans hb1')
        | (go_at_call 60; refine (QN _).out.mono ?_; rintro e w2 ⟨rfl, hb2'⟩; have hb2 := hb1.trans (hb2'.mono hb1.size))))
      go_wp2_with fail
      go_ret
      exact ⟨by rw [e1.out]; rfl, below_box hb2⟩
    · have hA2 : ¬ ((hi x k : Nat) : Int) = (a : Int) := by omega
      have e1 := Lib.hid (show holdsB (a : Int) (k : Int) x = false by rw [e0]; simpa using hA2)
      obtain ⟨H, hH⟩ : ∃ H : Nat, H = hi x k := ⟨_, rfl⟩
      rw [← hH] at hA hA2 QN
      have hH2 := Lib.hid hH
      clear e0 hH
      go_enter Tryd.func54, Tryd.ntmps54
      go_wp2_with fail
      go_region_held3 (fun w' => w'.cell? ⟨w.heap.size, 0, none⟩ = some (.int .u32 (a : Int)) ∧ w'.cell? ⟨w.heap.size, 1, none⟩ = some (.int .i64 (k : Int))) (first | exact HS.out _ hb0 | exact HS.out _ hb1 | exact HS.out _ hb2) ((first
        | (go_at_call 44; refine (QR _).out.mono ?_; rintro e w1 ⟨rfl, hb1'⟩; have hb1 := hb0.trans hb1')
        | (go_at_call 60; refine (QN _).out.mono ?_; rintro e w2 ⟨rfl, hb2'⟩; have hb2 := hb1.trans (hb2'.mono hb1.size))))
      go_wp2_with fail
      go_ret
      exact ⟨by rw [e1.out]; rfl, below_box hb2⟩
end Go.Proofs.YtcjeifpdikojlaaDoor

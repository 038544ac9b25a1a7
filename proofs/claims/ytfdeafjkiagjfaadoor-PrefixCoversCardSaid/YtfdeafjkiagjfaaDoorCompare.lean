/-
  The program's Compare.
-/
import Derived.Test.YtfdeafjkiagjfaaDoorCmp
import Derived.Deep.RegionHeld3
namespace Go.Proofs.YtfdeafjkiagjfaaDoor
set_option linter.unusedVariables false
set_option linter.unusedSimpArgs false
open Go.RowKit

theorem fresh2 (W : World) (u v : Value) (T : TypeId) {k : Nat} (hk : k = W.heap.size) : (W.alloc (.cells #[u, v] T)).cell? ⟨k, 0, none⟩ = some u ∧ (W.alloc (.cells #[u, v] T)).cell? ⟨k, 1, none⟩ = some v := by
  subst hk
  have h := Blk.new W T [u, v]
  exact ⟨h.cell 0, h.cell 1⟩

set_option maxHeartbeats 1600000 in
theorem Compare_any (a b : Nat) (n m : Int) (w : World) (ha : a < 4294967296) (hb : b < 4294967296) :
    Calls Tryd.prog 22 #[.agg #[.int .u32 (a : Int), .int .i64 n], .agg #[.int .u32 (b : Int), .int .i64 m]] w (RetI w (cmpP (a : Int) n (b : Int) m)) := by
  have q42 := fun w => Lib.hid (CmpU_any a b w)
  have q43 := fun w => Lib.hid (CmpI_any n m w)
  have HS := Lib.hid (fun w' hb => box2_cells w (.int .u32 (a : Int)) (.int .i64 n) (.int .u32 (b : Int)) (.int .i64 m) (w' := w') hb)
  have q41 := fun (k : Nat) w h0 h1 => Lib.hid (show Calls Tryd.prog 41 #[.slice (some ⟨k, 0, none⟩) 2 2] w (fun e w' => e = .returned (.int .i64 (cmpP (a : Int) n (b : Int) m)) ∧ w = w') from Or_any k (cmpI (a : Int) (b : Int)) (cmpI n m) w h0 h1)
  have HK := Lib.hid (show w.heap.size + 1 + 1 = (((w.alloc (.cells #[.int .u32 (a : Int), .int .i64 n] 24)).alloc (.cells #[.int .u32 (b : Int), .int .i64 m] 24)).drew).heap.size by simp)
  have hb0 : Below ((w.alloc (.cells #[.int .u32 (a : Int), .int .i64 n] 24)).alloc (.cells #[.int .u32 (b : Int), .int .i64 m] 24)).heap.size ((w.alloc (.cells #[.int .u32 (a : Int), .int .i64 n] 24)).alloc (.cells #[.int .u32 (b : Int), .int .i64 m] 24)) ((w.alloc (.cells #[.int .u32 (a : Int), .int .i64 n] 24)).alloc (.cells #[.int .u32 (b : Int), .int .i64 m] 24)).drew := (Below.refl _ _).drew
  go_enter Tryd.func22, Tryd.ntmps22
  go_wp2_with fail
  go_region_held3 (fun w' => (w'.cell? ⟨w.heap.size, 0, none⟩ = some (.int .u32 (a : Int)) ∧ w'.cell? ⟨w.heap.size, 1, none⟩ = some (.int .i64 n)) ∧ w'.cell? ⟨w.heap.size + 1, 0, none⟩ = some (.int .u32 (b : Int)) ∧ w'.cell? ⟨w.heap.size + 1, 1, none⟩ = some (.int .i64 m)) (first | exact HS.out _ hb0 | exact HS.out _ (hb0.alloc hb0.size _)) ((first
    | (go_at_call 42; refine (q42 _).out.mono ?_; rintro e w1 ⟨rfl, rfl⟩)
    | (go_at_call 43; refine (q43 _).out.mono ?_; rintro e w1 ⟨rfl, rfl⟩)
    | (go_at_call 41; refine (q41 _ _ (fresh2 _ _ _ _ HK.out).1 (fresh2 _ _ _ _ HK.out).2).out.mono ?_; rintro e w1 ⟨rfl, rfl⟩)))
  all_goals (go_wp2_with fail)
  all_goals go_ret
  all_goals exact ⟨rfl, below_box (below_box (hb0.alloc hb0.size _))⟩
end Go.Proofs.YtfdeafjkiagjfaaDoor

/-
  A right prefix's bytes.
-/
import Derived.Test.YtfdeafjkiagjfaaDoorPPut
import Derived.Deep.RegionHeld3
namespace Go.Proofs.YtfdeafjkiagjfaaDoor
set_option linter.unusedVariables false
set_option linter.unusedSimpArgs false
open Go.RowKit

theorem size_alloc (w : World) (o : Obj) : w.heap.size + 1 = (w.alloc o).heap.size := by simp
theorem Blk.at_new {W : World} {g : Nat} (t : Nat) (cs : List Value) (e : g = W.heap.size) : Blk (W.alloc (.cells cs.toArray t)) g t cs := by
  subst e
  exact Blk.new W t cs
theorem wrap8 {k : Nat} (h : k ≤ 32) : IntKind.u8.wrap (k : Int) = (k : Int) := by
  simp [IntKind.wrap, IntKind.bits, IntKind.signed]
  omega

set_option maxHeartbeats 6400000 in
theorem PPut_ok (A : Option Addr) (c : Nat) (l : List UInt8) (a k : Nat) (w : World) (ha : a < 4294967296) (hk : k ≤ 32) (hok : okP (a : Int) (k : Int) = true) (hl : l.length ≤ 35184372088832) (hb : Bytes w A l) :
    Calls Tryd.prog 34 #[.slice A l.length c, .agg #[.int .u32 (a : Int), .int .i64 (k : Int)]] w fun e w' => ∃ A' c', e = .returned (retPut (.slice A' (l ++ bytesP a k).length c') 0) ∧ (l ++ bytesP a k).length ≤ c' ∧ c' ≤ maxLen ∧ Own w' w.heap.size 5 (.slice A' (l ++ bytesP a k).length c') (l ++ bytesP a k) ∧ Below w.heap.size w w' := by
  have QR := fun w => Lib.hid (Right_any a (k : Int) w ha (by omega) (by omega))
  rw [hok] at QR
  clear hok
  have Q50 := fun W => Lib.hid (Put32_any none 0 0 [] rfl (a : Int) W (by simp) (Bytes.nil _ _) (by omega) (by omega))
  have Q51 := fun W => Lib.hid (room_any k W hk)
  have HS := Lib.hid (fun w' hb => box_cells w (.int .u32 (a : Int)) (.int .i64 (k : Int)) (w' := w') hb)
  have hb0 : Below (w.alloc (.cells #[.int .u32 (a : Int), .int .i64 (k : Int)] 24)).heap.size (w.alloc (.cells #[.int .u32 (a : Int), .int .i64 (k : Int)] 24)) (w.alloc (.cells #[.int .u32 (a : Int), .int .i64 (k : Int)] 24)) := Below.refl _ _
  have HBy := Lib.hid (fun (w' : World) (h : Below (w.alloc (.cells #[.int .u32 (a : Int), .int .i64 (k : Int)] 24)).heap.size (w.alloc (.cells #[.int .u32 (a : Int), .int .i64 (k : Int)] 24)) w') => hb.below (below_box h))
  clear hb
  obtain ⟨r, hr⟩ : ∃ r, r = (k + 7) / 8 := ⟨_, rfl⟩
  have hr4 : r ≤ 4 := by omega
  rw [← hr] at Q51
  have HRr := Lib.hid hr; clear hr
  have hr0 : (0 : Int) ≤ (r : Int) := by omega
  have hw8 := wrap8 hk
  have hEq : (l ++ [UInt8.ofNat ((k : Int)).toNat]) ++ (be32 (a : Int)).take r = l ++ bytesP a k := by rw [HRr.out, List.append_assoc]; rfl
  have he2 : r = ((be32 (a : Int)).take r).length := by rw [List.length_take]; show r = min r 4; omega
  have QC := fun (W : World) (g g1 : Nat) (A2 : Option Addr) (c2 : Nat) (h0 : Blk W g 45 [.slice A l.length c, .slice (some ⟨g1, 0, none⟩) 1 1, .slice A2 r c2]) h1 h2 h3 => Lib.hid (show Calls Tryd.prog 49 #[.slice (some ⟨g, 0, none⟩) 3 3] W (RetBytes W (l ++ bytesP a k)) from hEq ▸ Concat3_at l [UInt8.ofNat ((k : Int)).toNat] ((be32 (a : Int)).take r) rfl rfl he2 h0 h1 h2 h3 (by rw [← he2]; simp only [List.length_singleton]; omega))
  have hk0 : (0 : Int) ≤ (k : Int) := by omega
  have hk1 : (k : Int) < 256 := by omega
  have HK0 := Lib.hid hk0; have HK1 := Lib.hid hk1
  clear hEq he2 hk0 hk1
  go_enter Tryd.func34, Tryd.ntmps34
  go_wp2_with fail
  refine (QR _).out.mono ?_
  rintro e w1 ⟨rfl, hb1'⟩
  have hb1 := (hb0.trans (hb1'.mono hb0.size)).drew
  clear hb1'
  have HC := HS.out _ hb1
  go_wp2_with fail
  go_region_held3 (fun w' => w'.cell? ⟨w.heap.size, 0, none⟩ = some (.int .u32 (a : Int)) ∧ w'.cell? ⟨w.heap.size, 1, none⟩ = some (.int .i64 (k : Int))) (first | exact HS.out _ hb4 | exact HS.out _ hb1 | exact HS.out _ (hb1.alloc hb1.size _) | exact HS.out _ hb2 | exact HS.out _ (hb2.alloc hb2.size _) | exact HS.out _ ((hb2.alloc hb2.size _).alloc (hb2.alloc hb2.size _).size _)) ((first
    | (go_at_call 50; refine (Q50 _).out.mono ?_; rintro e w2 ⟨A2, c2, rfl, hc1, hc2, hown, hb2'⟩; have hb2 : Below (w.alloc (.cells #[.int .u32 (a : Int), .int .i64 (k : Int)] 24)).heap.size (w.alloc (.cells #[.int .u32 (a : Int), .int .i64 (k : Int)] 24)) w2 := (by first | exact hb1.trans (hb2'.mono hb1.size) | exact (hb1.alloc hb1.size _).trans (hb2'.mono (hb1.alloc hb1.size _).size)); have hrc : (r : Int) ≤ (c2 : Int) := (by have h4 : ([] ++ be32 (a : Int)).length = 4 := rfl; omega); have HO := Lib.hid hown; have HB2 := Lib.hid hb2'; clear hown hb2')
    | (go_at_call 51; refine (Q51 _).out.mono ?_; rintro e w3 ⟨rfl, rfl⟩)
    | (go_at_call 49; refine (QC _ _ _ _ _ (Blk.at_new _ _ rfl) (HBy.out _ (hb2.alloc hb2.size _)) (((bytes_one w1 5 HK0.out HK1.out).drew.below HB2.out).alloc _) ((HO.out.bytes.take r).alloc _)).out.mono ?_; rintro e w4 ⟨A4, c4, rfl, hd1, hd2, hown4, hb4'⟩; have hb4 := (hb2.alloc hb2.size _).trans (hb4'.mono (hb2.alloc hb2.size _).size); have HO4 := Lib.hid (hown4.lower (below_box (hb2.alloc hb2.size _)).size); clear hown4)
    | (go_at_call 49; refine (QC _ _ _ _ _ (Blk.at_new _ _ (size_alloc _ _)) (HBy.out _ ((hb2.alloc hb2.size _).alloc (hb2.alloc hb2.size _).size _)) ((bytes_one w2 5 HK0.out HK1.out).alloc _) (((HO.out.bytes.take r).alloc _).alloc _)).out.mono ?_; rintro e w4 ⟨A4, c4, rfl, hd1, hd2, hown4, hb4'⟩; have hb4 := ((hb2.alloc hb2.size _).alloc (hb2.alloc hb2.size _).size _).trans (hb4'.mono ((hb2.alloc hb2.size _).alloc (hb2.alloc hb2.size _).size _).size); have HO4 := Lib.hid (hown4.lower (below_box ((hb2.alloc hb2.size _).alloc (hb2.alloc hb2.size _).size _)).size); clear hown4)))
  all_goals go_wp2_with fail
  all_goals exact bodyPost_ret (v := retPut (.slice A4 (l ++ bytesP a k).length c4) 0) (by simp [results, Tryd.results34, go_sem, retPut]) rfl ⟨A4, c4, rfl, hd1, hd2, HO4.out, below_box hb4⟩
end Go.Proofs.YtfdeafjkiagjfaaDoor

/-
  PrefixTexts, one of its ways.
-/
import Derived.Test.YtfdeafjkiagjfaaDoorTexts
import Derived.Test.YtfdeafjkiagjfaaDoorRefPText
import Derived.Test.YtfdeafjkiagjfaaDoorPAwake
import Derived.Deep.RegionHeld3
namespace Go.Proofs.YtfdeafjkiagjfaaDoor
set_option linter.unusedVariables false
set_option linter.unusedSimpArgs false
open Go.RowKit

set_option maxHeartbeats 6400000 in
theorem text_ok (a p : Nat) (k : Nat) (w : World) (ha : a < 4294967296) (hp : p < 4294967296) (hok : okP (p : Int) (k : Int) = true) (hk : k ≤ 32) (ht : Tab w) :
    Calls Tryd.prog 6 #[.int .u32 (a : Int), .agg #[.int .u32 (p : Int), .int .i64 (k : Int)]] w fun e w' => e = .returned (.bool true) ∧ Below w.heap.size w w' := by
  have HS := Lib.hid (fun w' hb => box_cells w (.int .u32 (p : Int)) (.int .i64 (k : Int)) (w' := w') hb)
  have hbc : Below (w.alloc (.cells #[.int .u32 (p : Int), .int .i64 (k : Int)] 24)).heap.size (w.alloc (.cells #[.int .u32 (p : Int), .int .i64 (k : Int)] 24)) (w.alloc (.cells #[.int .u32 (p : Int), .int .i64 (k : Int)] 24)).drew := (Below.refl _ _).drew
  have HT := Lib.hid (fun (w' : World) (hb : Below (w.alloc (.cells #[.int .u32 (p : Int), .int .i64 (k : Int)] 24)).heap.size (w.alloc (.cells #[.int .u32 (p : Int), .int .i64 (k : Int)] 24)) w') => ht.below (below_box hb) ht.lt)
  have Q1 := fun W ht => Lib.hid (Addr_any a W ha ht)
  have Q2 := fun W ht => Lib.hid (PText_any p (k : Int) W hp (by omega) (by omega) ht)
  have ha1 := addrP_len ha 3
  have Q3 := fun W ht => Lib.hid (ParseAddr_any (addrL a) W (by unfold maxLen addrL; omega) ht)
  rw [addrOf_addrL ha] at Q3
  have ha2 : (textP (p : Int) (k : Int)).length ≤ 20 := textP_len hp
  have Q4 := fun W ht => Lib.hid (Parse_any (textP (p : Int) (k : Int)) W (by unfold maxLen; omega) ht)
  rw [parseP_textP p (k : Int) hp, hok] at Q4
  have Q5 := fun W => Lib.hid (RefAddr_any a W ha)
  have Q6 := fun W => Lib.hid (RefPText_any p (k : Int) W hp)
  have Q7 := fun W => Lib.hid (Right_any p (k : Int) W hp (by omega) (by omega))
  rw [hok] at Q7
  have e0 : ((k : Int)).toNat = k := rfl
  rw [e0] at Q4
  clear e0
  obtain ⟨A, hA⟩ : ∃ A, A = addrL a := ⟨_, rfl⟩
  obtain ⟨T, hT⟩ : ∃ T, T = textP (p : Int) (k : Int) := ⟨_, rfl⟩
  rw [← hA] at Q5 Q3
  rw [← hT] at Q6 Q4 Q2
  have Q1 := fun W ht => Lib.hid (show Calls Tryd.prog 26 #[.int .u32 (a : Int)] W (RetL W A) by rw [hA]; exact (Q1 W ht).out)
  clear hA hT ha1 ha2 hok ht
  simp only [retAddr, Option.getD_some, Option.isSome_some, if_true, retParse] at Q3 Q4
  go_enter Tryd.func6, Tryd.ntmps6
  go_wp2_with fail
  refine wp_region_held_drew (S := fun w' => w'.cell? ⟨w.heap.size, 0, none⟩ = some (.int .u32 (p : Int)) ∧ w'.cell? ⟨w.heap.size, 1, none⟩ = some (.int .i64 (k : Int))) (by kernel_rfl) (HS.out _ hbc) (fun hHeld => ?_)
  refine wpAnyH_take (i := 0) (v := ?_) rfl (by kernel_rfl) (by kernel_rfl) (by kernel_rfl) (fun _ _ _ h => h) (Or.inl ⟨by rfl, ?_⟩) (by assumption) ?_
  rotate_left
  · intro w hSw; (try dsimp only at hSw); go_simp; (try with_reducible rfl)
  try simp only [List.getElem_toArray, List.getElem_cons_zero, List.getElem_cons_succ, Act.put, List.setIfInBounds_toArray, List.set_cons_zero, List.set_cons_succ]
  refine wpAnyH_take (i := 2) (v := ?_) rfl (by kernel_rfl) (by kernel_rfl) (by kernel_rfl) (fun _ _ _ h => h) (Or.inl ⟨by rfl, ?_⟩) (by assumption) ?_
  rotate_left
  · intro w hSw; (try dsimp only at hSw); go_simp; (try with_reducible rfl)
  try simp only [List.getElem_toArray, List.getElem_cons_zero, List.getElem_cons_succ, Act.put, List.setIfInBounds_toArray, List.set_cons_zero, List.set_cons_succ]
  refine wpAnyH_ready (rs := [1]) (by kernel_rfl) (by simp) ?_
  refine AllReadyH.cons (o := _) rfl (fun K hK => ?_) AllReadyH.nil
  rw [if_pos (by rfl)]
  go_simp
  go_at_call 26
  refine (Q1 _ (HT.out _ hbc)).out.mono ?_
  rintro e wx ⟨rfl, hg⟩
  replace hbc := hbc.trans (hg.mono hbc.size)
  clear hg
  go_wp2_with fail
  refine hK.out _ _ (HS.out _ hbc) (fun hHeld2 => ?_)
  clear hK K hHeld
  have hHeld := hHeld2
  clear hHeld2
  try simp only [List.getElem_toArray, List.getElem_cons_zero, List.getElem_cons_succ, Act.put, List.setIfInBounds_toArray, List.set_cons_zero, List.set_cons_succ]
  refine wpAnyH_ready (rs := [3]) (by kernel_rfl) (by simp) ?_
  refine AllReadyH.cons (o := _) rfl (fun K hK => ?_) AllReadyH.nil
  rw [if_pos (by rfl)]
  go_simp
  go_at_call 27
  refine (Q2 _ (HT.out _ hbc)).out.mono ?_
  rintro e wx ⟨rfl, hg⟩
  replace hbc := hbc.trans (hg.mono hbc.size)
  clear hg
  go_wp2_with fail
  refine hK.out _ _ (HS.out _ hbc) (fun hHeld2 => ?_)
  clear hK K hHeld
  have hHeld := hHeld2
  clear hHeld2
  try simp only [List.getElem_toArray, List.getElem_cons_zero, List.getElem_cons_succ, Act.put, List.setIfInBounds_toArray, List.set_cons_zero, List.set_cons_succ]
  refine wpAnyH_take (i := 4) (v := ?_) rfl (by kernel_rfl) (by kernel_rfl) (by kernel_rfl) (fun _ _ _ h => h) (Or.inl ⟨by rfl, ?_⟩) (by assumption) ?_
  rotate_left
  · intro w hSw; (try dsimp only at hSw); go_simp; (try with_reducible rfl)
  try simp only [List.getElem_toArray, List.getElem_cons_zero, List.getElem_cons_succ, Act.put, List.setIfInBounds_toArray, List.set_cons_zero, List.set_cons_succ]
  refine wpAnyH_take (i := 5) (v := ?_) rfl (by kernel_rfl) (by kernel_rfl) (by kernel_rfl) (fun _ _ _ h => h) (Or.inl ⟨by rfl, ?_⟩) (by assumption) ?_
  rotate_left
  · intro w hSw; (try dsimp only at hSw); go_simp; (try with_reducible rfl)
  try simp only [List.getElem_toArray, List.getElem_cons_zero, List.getElem_cons_succ, Act.put, List.setIfInBounds_toArray, List.set_cons_zero, List.set_cons_succ]
  refine wpAnyH_done (by kernel_rfl) ?_ _
  go_wp2_with fail
  refine (Q3 _ (HT.out _ hbc)).out.mono ?_
  rintro e wx ⟨rfl, hg⟩
  replace hbc := hbc.trans (hg.mono hbc.size)
  clear hg
  go_wp2_with fail
  refine (Q4 _ (HT.out _ hbc)).out.mono ?_
  rintro e wx ⟨rfl, hg⟩
  replace hbc := hbc.trans (hg.mono hbc.size)
  clear hg
  have hY := Blk.new wx 24 [.int .u32 (p : Int), .int .i64 (k : Int)]
  have hyb := Below.refl (wx.alloc (.cells #[.int .u32 (p : Int), .int .i64 (k : Int)] 24)).heap.size (wx.alloc (.cells #[.int .u32 (p : Int), .int .i64 (k : Int)] 24))
  have HY := Lib.hid hY; clear hY
  have hys : wx.heap.size < (wx.alloc (.cells #[.int .u32 (p : Int), .int .i64 (k : Int)] 24)).heap.size := by simp
  replace hbc := hbc.alloc hbc.size (.cells #[.int .u32 (p : Int), .int .i64 (k : Int)] 24)
  have HC := HS.out _ hbc
  go_wp2_with fail
  refine (Q5 _).out.mono ?_
  rintro e w5 ⟨rfl, rfl⟩
  go_wp2_with fail
  refine (Q6 _).out.mono ?_
  rintro e wx2 ⟨rfl, hg⟩
  replace hbc := hbc.trans (hg.mono hbc.size)
  replace hyb := hyb.trans (hg.mono hyb.size)
  clear hg HC
  have HC := HS.out _ hbc
  go_wp2_with fail
  refine (Q7 _).out.mono ?_
  rintro e wx2 ⟨rfl, hg⟩
  replace hbc := hbc.trans (hg.mono hbc.size)
  replace hyb := hyb.trans (hg.mono hyb.size)
  clear hg HC
  have HC := HS.out _ hbc
  have hy2 := HY.out.below hyb hys
  have y0 : World.cell? _ ⟨wx.heap.size, 0, none⟩ = some _ := hy2.cell 0
  have y1 : World.cell? _ ⟨wx.heap.size, 1, none⟩ = some _ := hy2.cell 1
  clear hy2
  go_wp2_with fail
  refine (awake_any _ (HT.out _ hbc)).mono ?_
  rintro e w6 ⟨rfl, hg⟩
  replace hbc := hbc.trans (hg.mono hbc.size)
  go_wp2_with fail
  go_ret
  exact ⟨rfl, below_box hbc⟩

end Go.Proofs.YtfdeafjkiagjfaaDoor

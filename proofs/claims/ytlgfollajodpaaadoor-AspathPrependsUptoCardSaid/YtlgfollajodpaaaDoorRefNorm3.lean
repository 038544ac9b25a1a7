/-
  A path whose sequences that follow one another are one, by the document.
-/
import Derived.Test.YtlgfollajodpaaaDoorNorm
import Derived.Test.YtlgfollajodpaaaDoorTextParse3
namespace Go.Proofs.YtlgfollajodpaaaDoor
set_option linter.unusedVariables false
set_option linter.unusedSimpArgs false
open Go.RowKit

/-- What the loop over the segments holds: what is made so far, and the next segment begins a new one. -/
def RNormRel (w : World) (L : List Sg) (v i : Value) (wr : World) : Prop :=
  Below w.heap.size w wr ∧ ∃ (M : List Sg) (H j : Nat), j ≤ L.length ∧ i = .int .i64 (j : Int) ∧ OwnSegs wr w.heap.size H v M ∧ w.heap.size ≤ H ∧ H ≤ wr.heap.size ∧ M.length ≤ j ∧ totN M ≤ totN (L.take j) ∧ Hid (M.map Sg.abs = normL ((L.take j).map Sg.abs)) ∧ Hid (∀ s, L[j]? = some s → s.kind = 2 → ∀ t, M.getLast? = some t → ¬ t.kind = 2)
/-- What the loop over a segment's followers holds: W2 is the world ahead of its block h. -/
def RNormIn (W2 : World) (h : Nat) (L M : List Sg) (K : Int) (j : Nat) (i : Value) (wr : World) : Prop :=
  Below h W2 wr ∧ ∃ (v : Value) (z : List Nat) (k : Nat), j < k ∧ k ≤ L.length ∧ i = .int .i64 (k : Int) ∧ Blk wr h 39 [.int .i64 K, v] ∧ Own32 wr (h + 1) v z ∧ Hid (∀ x ∈ z, x < 4294967296) ∧ totN (L.take j) + z.length ≤ totN (L.take k) ∧ Hid (normL ((L.take k).map Sg.abs) = M.map Sg.abs ++ [(K, z)])
theorem rnorm_first {L M : List Sg} {j : Nat} {s : Sg} (hs : L[j]? = some s) (h : M.map Sg.abs = normL ((L.take j).map Sg.abs)) (hc : ∀ s, L[j]? = some s → s.kind = 2 → ∀ t, M.getLast? = some t → ¬ t.kind = 2) :
    normL ((L.take (j + 1)).map Sg.abs) = M.map Sg.abs ++ [s.abs] := by
  rw [normL_take hs, ← h]
  rcases List.eq_nil_or_concat M with rfl | ⟨M0, t, rfl⟩
  · rfl
  · rw [List.concat_eq_append, List.map_append]
    refine step_push _ _ _ (fun e => ?_)
    exact hc s hs e.2 t (by rw [List.concat_eq_append, List.getLast?_concat]) e.1
theorem rnorm_more {L M : List Sg} {k : Nat} {s : Sg} {z : List Nat} (hs : L[k]? = some s) (hk : s.kind = 2) (h : normL ((L.take k).map Sg.abs) = M.map Sg.abs ++ [((2 : Int), z)]) :
    normL ((L.take (k + 1)).map Sg.abs) = M.map Sg.abs ++ [((2 : Int), z ++ s.nums)] := by
  rw [normL_take hs, h]
  exact step_more _ _ _ rfl hk

set_option maxHeartbeats 12800000 in
theorem RefNorm3_any (A : Option Addr) (c : Nat) (L : List Sg) (w : World) (h : Segs w w.heap.size A L) (ht : totN L ≤ 1000000000) (hL : L.length ≤ 2000000) :
    Calls Tryd.prog 10 #[.slice A L.length c] w (RetSegs w (normL (L.map Sg.abs))) := by
  have HL := Lib.hid h; clear h
  go_enter Tryd.func10, Tryd.ntmps10
  go_wp2_with fail
  go_loopw [3, 4] (fun v i wr => RNormRel w L v i wr) (fun _ i _ => L.length - (intOf i).toNat)
  case atStart => exact ⟨Below.refl _ _, [], w.heap.size, 0, by omega, rfl, OwnSegs.nil _ _ _, Nat.le_refl _, Nat.le_refl _, by simp, by simp [totN], Lib.hid rfl, Lib.hid (fun s _ _ t ht => by simp at ht)⟩
  case round =>
    obtain ⟨hbr, M, H, j, hj, rfl, hown, hH, hH2, hMl, hMt, hab, hcl⟩ := hrel
    obtain ⟨wo, rfl⟩ : ∃ x : World, x = wr := ⟨wr, rfl⟩
    by_cases hlt : j < L.length
    · obtain ⟨s, hs⟩ : ∃ s, L[j]? = some s := ⟨_, List.getElem?_eq_getElem hlt⟩
      obtain ⟨b, off, rfl, hb, k1, k2, hok⟩ := (HL.out.below hbr (Nat.le_refl _)).at hs
      have HF1 := Lib.hid (rnorm_first hs hab.out hcl.out)
      have HLT := Lib.hid hlt
      have htk : totN (L.take (j + 1)) = totN (L.take j) + s.nums.length := sum_take hs
      have htk2 : totN (L.take (j + 1)) ≤ totN L := sum_take_le (fun s => s.nums.length) L (j + 1)
      have HTK := Lib.hid (And.intro htk htk2)
      have HFIT := Lib.hid (show Sg.Fit s from hok.2.2.2)
      have hbA := (Below.refl wo.heap.size wo).alloc (Nat.le_refl _) (.cells #[.int .i64 s.kind, .slice none 0 0] 39)
      have hblk := Blk.new wo 39 [.int .i64 s.kind, .slice none 0 0]
      have c1 : (wo.alloc (.cells #[.int .i64 s.kind, .slice none 0 0] 39)).cell? ⟨wo.heap.size, 1, none⟩ = some (.slice none 0 0) := hblk.cell 1
      have c2 : (wo.alloc (.cells #[.int .i64 s.kind, .slice none 0 0] 39)).cell? ⟨b, off + j * 2 + 1, none⟩ = some (.slice s.adr s.nums.length s.cap) := (hbA.cell (p := ⟨b, off + j * 2 + 1, none⟩) (Nat.lt_of_lt_of_le hb hbr.size)).trans k2
      have HBK := Lib.hid hblk
      have HAT := Lib.hid (show At32 (wo.alloc (.cells #[.int .i64 s.kind, .slice none 0 0] 39)).drew w.heap.size s.adr s.nums from hok.2.2.1.below hbA.drew hbr.size)
      have HOWN := Lib.hid (Own32.nil (wo.alloc (.cells #[.int .i64 s.kind, .slice none 0 0] 39)).drew (wo.heap.size + 1))
      have HSZ := Lib.hid (show ([] : List Nat).length + s.nums.length ≤ 100000000000 by simp; omega)
      have HHB := Lib.hid (show wo.heap.size + 1 ≤ (wo.alloc (.cells #[.int .i64 s.kind, .slice none 0 0] 39)).drew.heap.size from by show _ ≤ (wo.alloc _).heap.size; simp)
      have HBD := Lib.hid hbA.drew
      have HBR := Lib.hid hbr; have HOW := Lib.hid hown; have HML := Lib.hid hMl; have HMT := Lib.hid hMt
      have hi0 : (0 : Int) ≤ (j : Int) := by omega
      have hi1 : (j : Int) < (L.length : Int) := by omega
      have hjb : (j : Int) ≤ 2000000 := by omega
      clear htk htk2 hok hbA hblk hbr hown hMl hMt hs hab hcl hlt
      go_wp2_with fail
      go_region_law ((refine step_app32 (by rfl) (.tmp 17) (.tmp 22) (by rfl) (wo.heap.size + 1) (.slice none 0 0) [] (by rfl) HOWN.out s.adr s.nums.length s.cap _ s.nums (by rfl) rfl HAT.out HSZ.out HHB.out ?_; intro v3 w3 ho3 hg3; obtain ⟨A3, d3, rfl, q1, q2⟩ := ho3.form; rw [List.nil_append] at ho3 q1; have hk3 := (hg3.block wo.heap.size HHB.out (fun e => by cases e)).trans HBK.out; have c3 : w3.cell? ⟨wo.heap.size, 1, none⟩ = some (.slice none 0 0) := Blk.cell hk3 1; have f3 : w3.frozen? ⟨wo.heap.size, 1, none⟩ = false := Blk.free hk3 1; have HK3 := Lib.hid hk3; have HO3 := Lib.hid ho3; have HG3 := Lib.hid hg3; clear hk3 ho3 hg3))
      all_goals
        have hk4 := Lib.hid (Blk.set (show Blk w3 wo.heap.size 39 [.int .i64 s.kind, .slice none 0 0] from HK3.out) 1 (.slice A3 s.nums.length d3))
        have hb4 := Lib.hid ((HBD.out.grown HG3.out (Nat.le_of_succ_le HHB.out) (fun k hk => by cases hk)).setCell (p := ⟨wo.heap.size, 1, none⟩) (Nat.le_refl _) (.slice A3 s.nums.length d3))
        have ho4 := Lib.hid (own32_apart HO3.out (grown_setCell (grown_refl w3 (some wo.heap.size)) 1 (.slice A3 s.nums.length d3)) (Nat.lt_succ_self _))
        clear c1 c2 c3 f3 k1 k2
        go_wp2_with fail
        go_loopw [4] (fun i wr' => RNormIn wo wo.heap.size L M s.kind j i wr') (fun i _ => L.length - (intOf i).toNat)
        case atStart => exact ⟨hb4.out, _, _, j + 1, by omega, HLT.out, by go_num, hk4.out, ho4.out, Lib.hid HFIT.out.1, Nat.le_of_eq HTK.out.1.symm, Lib.hid HF1.out⟩
        case round =>
          clear hk4 hb4 ho4
          obtain ⟨hbi, v, z, k, hjk, hkl, rfl, hblk, hown, hzf, hzt, hnm⟩ := hrel
          obtain ⟨A5, d5, rfl, e1, e2⟩ := hown.form
          have c0 : wr.cell? ⟨wo.heap.size, 0, none⟩ = some (.int .i64 s.kind) := hblk.cell 0
          have c1 : wr.cell? ⟨wo.heap.size, 1, none⟩ = some (.slice A5 z.length d5) := hblk.cell 1
          by_cases hs2 : s.kind = 2
          · have es : (s.kind == 2) = true := by simpa using hs2
            have HS2 := Lib.hid hs2
            by_cases hk2 : k < L.length
            · obtain ⟨t, ht⟩ : ∃ t, L[k]? = some t := ⟨_, List.getElem?_eq_getElem hk2⟩
              obtain ⟨b2, off2, hAe, hb2, k3, k4, hok⟩ := (HL.out.below (HBR.out.trans (hbi.mono HBR.out.size)) (Nat.le_refl _)).at ht
              cases hAe
              have hj0 : (0 : Int) ≤ (k : Int) := by omega
              have hj1 : (k : Int) < (L.length : Int) := by omega
              by_cases ht2 : t.kind = 2
              · have et : (t.kind == 2) = true := by simpa using ht2
                have htk : totN (L.take (k + 1)) = totN (L.take k) + t.nums.length := sum_take ht
                have htk2 : totN (L.take (k + 1)) ≤ totN L := sum_take_le (fun s => s.nums.length) L (k + 1)
                have HNM := Lib.hid (show normL ((L.take (k + 1)).map Sg.abs) = M.map Sg.abs ++ [(s.kind, z ++ t.nums)] from by
                  have h0 := hnm.out
                  rw [HS2.out] at h0 ⊢
                  exact rnorm_more ht ht2 h0)
                have HZT := Lib.hid (show totN (L.take j) + (z ++ t.nums).length ≤ totN (L.take (k + 1)) by rw [List.length_append]; omega)
                have HZF := Lib.hid (show ∀ x ∈ z ++ t.nums, x < 4294967296 from fun x hx => by
                  rcases List.mem_append.1 hx with h | h
                  · exact hzf.out x h
                  · exact hok.2.2.2.1 x h)
                have HSZ := Lib.hid (show z.length + t.nums.length ≤ 100000000000 by omega)
                have HOWN := Lib.hid (show Own32 wr.drew (wo.heap.size + 1) (.slice A5 z.length d5) z from World.ownsRow.drew hown)
                have HAT := Lib.hid (show At32 wr.drew w.heap.size t.adr t.nums from hok.2.2.1.below ((Below.refl w.heap.size wr).drew) (Nat.le_refl _))
                have HHB := Lib.hid (show wo.heap.size + 1 ≤ wr.drew.heap.size from hblk.lt)
                have HNE := Lib.hid (show some wo.heap.size ≠ (Value.slice A5 z.length d5).ownBlock from fun e => by
                  have := (World.ownsRow.lt hown _ e.symm).1
                  omega)
                have HOL := Lib.hid (fun (q : Nat) (hq : (Value.slice A5 z.length d5).ownBlock = some q) => (show wo.heap.size ≤ q from by
                  have := (World.ownsRow.lt hown q hq).1
                  omega))
                have HBK := Lib.hid hblk; have HBD := Lib.hid hbi.drew; have HKL := Lib.hid hk2; have HJK := Lib.hid hjk
                have hkb : (k : Int) ≤ 2000000 := by omega
                clear hs2 hk2 ht2 htk htk2 hblk hown hbi hzf hzt hnm hjk hok ht hkl
                go_wp2_with fail
                go_region_law ((refine step_app32 (by rfl) (.tmp 45) (.tmp 50) (by rfl) (wo.heap.size + 1) (.slice A5 z.length d5) z (by rfl) HOWN.out t.adr t.nums.length t.cap _ t.nums (by rfl) rfl HAT.out HSZ.out HHB.out ?_; intro v5 w5 ho5 hg5; obtain ⟨A6, d6, rfl, q3, q4⟩ := ho5.form; have el : (z ++ t.nums).length = z.length + t.nums.length := List.length_append; rw [el] at ho5 q3; have hk5 := (hg5.block wo.heap.size HHB.out HNE.out).trans HBK.out; have c5 : w5.cell? ⟨wo.heap.size, 1, none⟩ = some (.slice A5 z.length d5) := Blk.cell hk5 1; have f5 : w5.frozen? ⟨wo.heap.size, 1, none⟩ = false := Blk.free hk5 1; have HK5 := Lib.hid hk5; have HO5 := Lib.hid ho5; have HG5 := Lib.hid hg5; clear hk5 ho5 hg5))
                all_goals
                  have hk6 := Lib.hid (Blk.set (show Blk w5 wo.heap.size 39 [.int .i64 s.kind, .slice A5 z.length d5] from HK5.out) 1 (.slice A6 (z.length + t.nums.length) d6))
                  have hb6 := Lib.hid ((HBD.out.grown HG5.out (Nat.le_of_succ_le HHB.out) (fun q hq => HOL.out q hq)).setCell (p := ⟨wo.heap.size, 1, none⟩) (Nat.le_refl _) (.slice A6 (z.length + t.nums.length) d6))
                  have ho6 := Lib.hid (own32_apart HO5.out (grown_setCell (grown_refl w5 (some wo.heap.size)) 1 (.slice A6 (z.length + t.nums.length) d6)) (Nat.lt_succ_self _))
                  clear c0 c1 c5 f5 k3 k4
                  go_wp2_with fail
                  go_roundw
                  case rel => exact ⟨hb6.out, _, _, k + 1, by have := HJK.out; omega, HKL.out, by go_num, hk6.out, ho6.out, HZF, HZT.out, HNM⟩
                  case measure => have := HKL.out; simp [intOf]; omega
              · have et : (t.kind == 2) = false := by simpa using ht2
                have HCL := Lib.hid (show ∀ s', L[k]? = some s' → s'.kind = 2 → ¬ s.kind = 2 from fun s' h1 h2 => by
                  rw [ht] at h1
                  cases h1
                  exact absurd h2 ht2)
                clear hs2 ht2 ht hok k4
                have HS7 := Lib.hid (HOW.out.below hbi)
                have HB7 := Lib.hid HOW.out.blocks
                have HO7 := Lib.hid (show Own32 wr (wo.heap.size + 1) (Sg.sl ⟨s.kind, A5, d5, z⟩) z from hown)
                have c7 := cells2 hblk
                have HBW := Lib.hid (HBR.out.trans (hbi.mono HBR.out.size))
                have HZ7 := Lib.hid hblk.lt
                have HZF := Lib.hid hzf.out; have HZT := Lib.hid hzt; have HNM := Lib.hid hnm.out; have HJK := Lib.hid hjk
                have hkb : (k : Int) ≤ 2000000 := by omega
                have HKL := Lib.hid hkl
                clear hblk hown hbi hzf hzt hnm hjk c0 c1 hkl
                go_wp2_with (at_builtin; refine wpList_app_one' isSeg rfl (.tmp 55) (.tmp 57) rfl w.heap.size _ _ _ rfl wr (Sg.two ⟨s.kind, A5, d5, z⟩) rfl HS7.out.row rfl rfl (two_one _) ?sz HBW.out.size ?_)
                case sz => have h1 := HML.out; have h2 := HLT.out; omega
                intro v8 w8 hown8 hg8
                have HP := Lib.hid (OwnSegs.push (s := ⟨s.kind, A5, d5, z⟩) HS7.out HO7.out (by have := HBR.out.size; omega) (fun x hx j hj => Nat.lt_succ_of_lt (HB7.out x hx j hj)) ⟨HZF.out, HFIT.out.2⟩ hown8 hg8)
                have HB9 := Lib.hid (HBW.out.grown hg8 HBW.out.size (fun j hj => (World.ownsRow.lt HS7.out.row j hj).1))
                have HZ8 := Lib.hid (show wo.heap.size + 1 ≤ w8.heap.size from Nat.le_trans HZ7.out hg8.size)
                clear c7 hown8 hg8
                go_wp2_with fail
                go_roundw
                case rel =>
                  refine ⟨HB9.out, _, wo.heap.size + 1, k, HKL.out, rfl, HP.out, (by have := HBR.out.size; omega), HZ8.out, ?_, ?_, Lib.hid ?_, Lib.hid ?_⟩
                  · have h1 := HML.out
                    have h2 := HJK.out
                    rw [List.length_append]
                    simp only [List.length_cons, List.length_nil]
                    omega
                  · rw [totN_snoc]
                    have h1 := HMT.out
                    have h2 := HZT.out
                    show totN M + z.length ≤ _
                    omega
                  · rw [List.map_append]
                    exact HNM.out.symm
                  · intro s' hs' hk' t' ht'
                    rw [List.getLast?_concat] at ht'
                    cases ht'
                    exact HCL.out s' hs' hk'
                case measure =>
                  have h1 := HJK.out
                  have h2 := HKL.out
                  simp [intOf]
                  omega
            · have hj1 : ¬ (k : Int) < (L.length : Int) := by omega
              have HCL := Lib.hid (show ∀ s', L[k]? = some s' → s'.kind = 2 → ¬ s.kind = 2 from fun s' h1 h2 => by
                rw [List.getElem?_eq_none (by omega)] at h1
                cases h1)
              clear hs2 hk2
              have HS7 := Lib.hid (HOW.out.below hbi)
              have HB7 := Lib.hid HOW.out.blocks
              have HO7 := Lib.hid (show Own32 wr (wo.heap.size + 1) (Sg.sl ⟨s.kind, A5, d5, z⟩) z from hown)
              have c7 := cells2 hblk
              have HBW := Lib.hid (HBR.out.trans (hbi.mono HBR.out.size))
              have HZ7 := Lib.hid hblk.lt
              have HZF := Lib.hid hzf.out; have HZT := Lib.hid hzt; have HNM := Lib.hid hnm.out; have HJK := Lib.hid hjk
              have hkb : (k : Int) ≤ 2000000 := by omega
              have HKL := Lib.hid hkl
              clear hblk hown hbi hzf hzt hnm hjk c0 c1 hkl
              go_wp2_with (at_builtin; refine wpList_app_one' isSeg rfl (.tmp 55) (.tmp 57) rfl w.heap.size _ _ _ rfl wr (Sg.two ⟨s.kind, A5, d5, z⟩) rfl HS7.out.row rfl rfl (two_one _) ?sz HBW.out.size ?_)
              case sz => have h1 := HML.out; have h2 := HLT.out; omega
              intro v8 w8 hown8 hg8
              have HP := Lib.hid (OwnSegs.push (s := ⟨s.kind, A5, d5, z⟩) HS7.out HO7.out (by have := HBR.out.size; omega) (fun x hx j hj => Nat.lt_succ_of_lt (HB7.out x hx j hj)) ⟨HZF.out, HFIT.out.2⟩ hown8 hg8)
              have HB9 := Lib.hid (HBW.out.grown hg8 HBW.out.size (fun j hj => (World.ownsRow.lt HS7.out.row j hj).1))
              have HZ8 := Lib.hid (show wo.heap.size + 1 ≤ w8.heap.size from Nat.le_trans HZ7.out hg8.size)
              clear c7 hown8 hg8
              go_wp2_with fail
              go_roundw
              case rel =>
                refine ⟨HB9.out, _, wo.heap.size + 1, k, HKL.out, rfl, HP.out, (by have := HBR.out.size; omega), HZ8.out, ?_, ?_, Lib.hid ?_, Lib.hid ?_⟩
                · have h1 := HML.out
                  have h2 := HJK.out
                  rw [List.length_append]
                  simp only [List.length_cons, List.length_nil]
                  omega
                · rw [totN_snoc]
                  have h1 := HMT.out
                  have h2 := HZT.out
                  show totN M + z.length ≤ _
                  omega
                · rw [List.map_append]
                  exact HNM.out.symm
                · intro s' hs' hk' t' ht'
                  rw [List.getLast?_concat] at ht'
                  cases ht'
                  exact HCL.out s' hs' hk'
              case measure =>
                have h1 := HJK.out
                have h2 := HKL.out
                simp [intOf]
                omega
          · have es : (s.kind == 2) = false := by simpa using hs2
            have HCL := Lib.hid (show ∀ s', L[k]? = some s' → s'.kind = 2 → ¬ s.kind = 2 from fun s' h1 h2 => hs2)
            clear hs2
            have HS7 := Lib.hid (HOW.out.below hbi)
            have HB7 := Lib.hid HOW.out.blocks
            have HO7 := Lib.hid (show Own32 wr (wo.heap.size + 1) (Sg.sl ⟨s.kind, A5, d5, z⟩) z from hown)
            have c7 := cells2 hblk
            have HBW := Lib.hid (HBR.out.trans (hbi.mono HBR.out.size))
            have HZ7 := Lib.hid hblk.lt
            have HZF := Lib.hid hzf.out; have HZT := Lib.hid hzt; have HNM := Lib.hid hnm.out; have HJK := Lib.hid hjk
            have hkb : (k : Int) ≤ 2000000 := by omega
            have HKL := Lib.hid hkl
            clear hblk hown hbi hzf hzt hnm hjk c0 c1 hkl
            go_wp2_with (at_builtin; refine wpList_app_one' isSeg rfl (.tmp 55) (.tmp 57) rfl w.heap.size _ _ _ rfl wr (Sg.two ⟨s.kind, A5, d5, z⟩) rfl HS7.out.row rfl rfl (two_one _) ?sz HBW.out.size ?_)
            case sz => have h1 := HML.out; have h2 := HLT.out; omega
            intro v8 w8 hown8 hg8
            have HP := Lib.hid (OwnSegs.push (s := ⟨s.kind, A5, d5, z⟩) HS7.out HO7.out (by have := HBR.out.size; omega) (fun x hx j hj => Nat.lt_succ_of_lt (HB7.out x hx j hj)) ⟨HZF.out, HFIT.out.2⟩ hown8 hg8)
            have HB9 := Lib.hid (HBW.out.grown hg8 HBW.out.size (fun j hj => (World.ownsRow.lt HS7.out.row j hj).1))
            have HZ8 := Lib.hid (show wo.heap.size + 1 ≤ w8.heap.size from Nat.le_trans HZ7.out hg8.size)
            clear c7 hown8 hg8
            go_wp2_with fail
            go_roundw
            case rel =>
              refine ⟨HB9.out, _, wo.heap.size + 1, k, HKL.out, rfl, HP.out, (by have := HBR.out.size; omega), HZ8.out, ?_, ?_, Lib.hid ?_, Lib.hid ?_⟩
              · have h1 := HML.out
                have h2 := HJK.out
                rw [List.length_append]
                simp only [List.length_cons, List.length_nil]
                omega
              · rw [totN_snoc]
                have h1 := HMT.out
                have h2 := HZT.out
                show totN M + z.length ≤ _
                omega
              · rw [List.map_append]
                exact HNM.out.symm
              · intro s' hs' hk' t' ht'
                rw [List.getLast?_concat] at ht'
                cases ht'
                exact HCL.out s' hs' hk'
            case measure =>
              have h1 := HJK.out
              have h2 := HKL.out
              simp [intOf]
              omega
    · obtain rfl : j = L.length := by omega
      have hab2 := hab.out
      rw [List.take_length] at hab2
      obtain ⟨A0, c0, rfl, g1, g2⟩ := hown.form
      have HR := Lib.hid (show RetSegs w (normL (L.map Sg.abs)) (.returned (.slice A0 M.length c0)) wo from ⟨M, A0, c0, rfl, hab2, g1, g2, hown.segs, hbr⟩)
      clear hown hab hab2 g1 g2 hMl hMt
      go_wp2_with fail
      go_ret
      exact HR.out
end Go.Proofs.YtlgfollajodpaaaDoor

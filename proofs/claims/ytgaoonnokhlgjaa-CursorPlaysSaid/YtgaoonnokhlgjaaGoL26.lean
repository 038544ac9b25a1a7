/-
  letGo, as (*speculum/cursor.Table).Leave$1 says.
-/
import Derived.Test.YtgaoonnokhlgjaaGoR26
namespace Go.Proofs.Ytgaoonnokhlgjaa
set_option linter.unusedVariables false
set_option linter.unusedSimpArgs false
open Go.RowKit

set_option maxRecDepth 100000 in
set_option maxHeartbeats 6400000 in
theorem letGoL_any (x : Nat) (p : Cu → Bool) (g : Nat) (mo li la : Int) (v : Value) (L : List Cu) (w : World) (h : Tab w g mo li la v L)
    (hq : ∀ (W : World), Below w.heap.size w W → ∀ c : Cu, Calls Try.prog 34 #[aggS c.row, .pointer (some ⟨x, 0, none⟩)] W fun e W' => e = .returned (.bool (p c)) ∧ Below W.heap.size W W') :
    Calls Try.prog 28 #[.pointer (some ⟨g, 0, none⟩), .func (.func 34) #[] #[.pointer (some ⟨x, 0, none⟩)]] w (RetGo w g mo li la p L) := by
  obtain ⟨A, d, rfl, h1, h2⟩ := h.own.form
  have HA := Lib.hid h.own.rows; have HB := Lib.hid h.blk; have HFew := Lib.hid h.few; have QH := Lib.hid hq
  obtain ⟨c0, c1, c2, c3⟩ := cells4 h.blk
  clear h hq h1 h2
  go_enter Try.func28, Try.ntmps28
  go_wp2_with fail
  clear c0 c1 c2 c3
  go_loopw [5, 6, 14] (fun s t i wr => GoRel w p L s t i wr) (fun _ _ i _ => L.length - (intOf i).toNat)
  case atStart => exact GoRel.init w p L
  case round =>
    obtain ⟨hbr, j, hj, rfl, ht⟩ := hrel
    replace hbr := Lib.hid hbr
    by_cases hlt : j < L.length
    · obtain ⟨c, hc⟩ : ∃ c, L[j]? = some c := ⟨_, List.getElem?_eq_getElem hlt⟩
      obtain ⟨b, off, rfl, hb, hr⟩ := (HA.out.below hbr.out).at hc
      have HR := Lib.hid hr; have HT := Lib.hid ht; have HLT := Lib.hid hlt
      have QF := Lib.hid (fun (W : World) (hW : Below w.heap.size w W) => QH.out W hW c)
      have hjb : (j : Int) ≤ 100 := by have := HFew.out; omega
      have hi0 : (0 : Int) ≤ (j : Int) := by omega
      have hi1 : (j : Int) < (L.length : Int) := by omega
      clear hr ht hj hb
      cases hp : p c with
      | true =>
        rw [hp] at QF
        have HF := Lib.hid (filter_yes hc hp)
        clear hp hc
        go_wp2_with (first
          | (refine wpList_loadS _ (isP c) rfl (.tmp 16) rfl b (off + j * 16) rfl HR.out ?_)
          | (refine wpList_storeNewS _ wr zerosU 36 rfl (isP c) c.one rfl rfl (.tmp 8) (.tmp 17) rfl rfl rfl rfl ?_))
        intro w2 k2 hb2 hz2
        have B2 := Lib.hid (hbr.out.trans (hb2.mono hbr.out.size))
        have K2 := Lib.hid k2
        have T2 := Lib.hid (HT.out.below hb2)
        have Q2 := Lib.hid (QF.out w2 B2.out)
        clear k2 hb2 HT
        go_wp2_with (refine wpList_loadS _ (isP c) rfl (.tmp 8) rfl wr.heap.size 0 rfl K2.out.rowAt ?_)
        refine Q2.out.mono ?_
        rintro e w3 ⟨rfl, hb3⟩
        have K3 := Lib.hid (K2.out.below hb3 K2.out.lt)
        have T3 := Lib.hid (T2.out.below hb3)
        have B3 := Lib.hid (B2.out.trans (hb3.mono B2.out.size))
        clear hb3 T2 B2 K2 Q2
        go_wp2_with (first
          | (refine wpList_loadS _ (isP c) rfl (.tmp 8) rfl wr.heap.size 0 rfl K3.out.rowAt ?_)
          | (refine wpList_build1S _ 39 rfl (.tmp 22) rfl (run_build1P _ c) rfl ?_)
          | (at_builtin; refine wpList_appU undP infoP26 _ rfl (.tmp 21) (.tmp 23) rfl w.heap.size _ _ _ _ [c] rfl (T3.out.below ((Below.refl _ _).alloc (Nat.le_refl _) _)) (Nat.le_trans B3.out.size (by simp)) ⟨w3.heap.size, 0, none⟩ 1 1 rfl rfl (cu_one w3 _ c) (by have := filter_short p L j; have := filter_short (fun c => !p c) L j; have := HFew.out; omega) ?_))
        intro v4 w4 h4 hg4 hl4
        have B4 := Lib.hid ((B3.out.alloc B3.out.size _).grown hg4 (Nat.le_trans B3.out.size (by simp)) (fun k hk => (T3.out.one.lt k hk).1))
        have T4 := Lib.hid h4
        clear h4 hg4 hl4 T3 B3
        go_wp2_with fail
        go_roundw
        case rel => exact ⟨B4.out, j + 1, HLT.out, by go_num, by rw [HF.out.1, HF.out.2]; exact T4.out⟩
        case measure => have hm := HLT.out; simp [intOf] at hm ⊢; try omega
      | false =>
        rw [hp] at QF
        have HF := Lib.hid (filter_no hc hp)
        clear hp hc
        go_wp2_with (first
          | (refine wpList_loadS _ (isP c) rfl (.tmp 16) rfl b (off + j * 16) rfl HR.out ?_)
          | (refine wpList_storeNewS _ wr zerosU 36 rfl (isP c) c.one rfl rfl (.tmp 8) (.tmp 17) rfl rfl rfl rfl ?_))
        intro w2 k2 hb2 hz2
        have B2 := Lib.hid (hbr.out.trans (hb2.mono hbr.out.size))
        have K2 := Lib.hid k2
        have T2 := Lib.hid (HT.out.below hb2)
        have Q2 := Lib.hid (QF.out w2 B2.out)
        clear k2 hb2 HT
        go_wp2_with (refine wpList_loadS _ (isP c) rfl (.tmp 8) rfl wr.heap.size 0 rfl K2.out.rowAt ?_)
        refine Q2.out.mono ?_
        rintro e w3 ⟨rfl, hb3⟩
        have K3 := Lib.hid (K2.out.below hb3 K2.out.lt)
        have T3 := Lib.hid (T2.out.below hb3)
        have B3 := Lib.hid (B2.out.trans (hb3.mono B2.out.size))
        clear hb3 T2 B2 K2 Q2
        go_wp2_with (first
          | (refine wpList_loadS _ (isP c) rfl (.tmp 8) rfl wr.heap.size 0 rfl K3.out.rowAt ?_)
          | (refine wpList_build1S _ 39 rfl (.tmp 26) rfl (run_build1P _ c) rfl ?_)
          | (at_builtin; refine wpList_appU undP infoP26 _ rfl (.tmp 25) (.tmp 27) rfl w.heap.size _ _ _ _ [c] rfl (T3.out.turn.below ((Below.refl _ _).alloc (Nat.le_refl _) _)) (Nat.le_trans B3.out.size (by simp)) ⟨w3.heap.size, 0, none⟩ 1 1 rfl rfl (cu_one w3 _ c) (by have := filter_short p L j; have := filter_short (fun c => !p c) L j; have := HFew.out; omega) ?_))
        intro v4 w4 h4 hg4 hl4
        have B4 := Lib.hid ((B3.out.alloc B3.out.size _).grown hg4 (Nat.le_trans B3.out.size (by simp)) (fun k hk => (T3.out.turn.one.lt k hk).1))
        have T4 := Lib.hid h4.turn
        clear h4 hg4 hl4 T3 B3
        go_wp2_with fail
        go_roundw
        case rel => exact ⟨B4.out, j + 1, HLT.out, by go_num, by rw [HF.out.1, HF.out.2]; exact T4.out⟩
        case measure => have hm := HLT.out; simp [intOf] at hm ⊢; try omega
    · obtain rfl : j = L.length := by omega
      rw [List.take_length] at ht
      obtain ⟨A1, d1, rfl, _, _⟩ := ht.one.form
      obtain ⟨A2, d2, rfl, _, _⟩ := ht.two.form
      have hk := HB.out.below hbr.out HB.out.lt
      have HK := Lib.hid hk; have HT := Lib.hid ht
      obtain ⟨c0, c1, c2, c3⟩ := cells4 hk
      obtain ⟨f0, f1, f2, f3⟩ := free4 hk
      clear hk ht hj
      go_wp2_with fail
      go_ret
      have hlt := HB.out.lt
      have hg := grown_setCell (grown_refl wr (some g)) 3 (.slice A2 (L.filter fun c => !p c).length d2)
      refine ⟨.slice A1 (L.filter p).length d1, .slice A2 (L.filter fun c => !p c).length d2, rfl, ⟨HK.out.set 3 _, ?_, Nat.le_trans (List.length_filter_le _ _) HFew.out⟩, OwnU.sl (World.ownsRow.kept HT.out.one hg ?_), grown_setCell (grown_of_below hbr.out (some g)) 3 _, fun k hk => (HT.out.two.lt k hk).1⟩
      · exact OwnU.lower (World.ownsRow.kept HT.out.two hg (ne_blk26 (fun k hk => (HT.out.two.lt k hk).1) hlt)) hlt
      · exact ne_blk26 (fun k hk => (HT.out.one.lt k hk).1) hlt
end Go.Proofs.Ytgaoonnokhlgjaa

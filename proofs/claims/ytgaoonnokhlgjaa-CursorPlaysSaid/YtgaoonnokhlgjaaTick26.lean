/-
  Tick: all are a tick older; some go.
-/
import Derived.Test.YtgaoonnokhlgjaaSet26
import Derived.Test.YtgaoonnokhlgjaaGoT26
namespace Go.Proofs.Ytgaoonnokhlgjaa
set_option linter.unusedVariables false
set_option linter.unusedSimpArgs false
open Go.RowKit

structure TickRel (w : World) (g : Nat) (mo li la : Int) (v : Value) (L : List Cu) (i : Value) (wr : World) (j : Nat) : Prop where
  le : j ≤ L.length
  i : i = .int .i64 (j : Int)
  tab : Tab wr g mo li la v (ageU L j)
  keep : KeepA w wr g v v
  box : Blk wr w.heap.size 25 [.pointer (some ⟨g, 0, none⟩)]
theorem TickNil26 (w : World) :
    Calls Try.prog 24 #[.pointer none] w fun e w' => e = .returned (.slice none 0 0) ∧ Below w.heap.size w w' := by
  go_enter Try.func24, Try.ntmps24
  go_wp2_with fail
  go_ret
  exact ⟨rfl, (Below.refl _ _).alloc (Nat.le_refl _) _⟩
set_option maxRecDepth 100000 in
set_option maxHeartbeats 6400000 in
theorem Tick26_any (g : Nat) (mo li la : Int) (v : Value) (L : List Cu) (w : World) (h : Tab w g mo li la v L) (ha : ∀ c ∈ L, 0 ≤ c.age ∧ c.age ≤ 9223372036854775806) :
    Calls Try.prog 24 #[.pointer (some ⟨g, 0, none⟩)] w (RetTab w g mo li la v ((L.map older).filter fun c => !(c.age == li)) ((L.map older).filter fun c => c.age == li)) := by
  have hb1 := (Below.refl w.heap.size w).alloc (Nat.le_refl _) (.cells #[.pointer (some ⟨g, 0, none⟩)] 25)
  have HTR := Lib.hid (show TickRel w g mo li la v L (.int .i64 0) (w.alloc (.cells #[.pointer (some ⟨g, 0, none⟩)] 25)) 0 from ⟨Nat.zero_le _, rfl, by rw [ageU_zero]; exact h.below hb1, KeepA.of_below hb1, Blk.new w _ _⟩)
  obtain ⟨A, d, rfl, hd1, hd2⟩ := h.own.form
  have HA := Lib.hid ha; have HFew := Lib.hid h.few; have HGL := Lib.hid h.lt; have HO := Lib.hid h.own
  obtain ⟨c0, c1, c2, c3⟩ := cells4 (h.below hb1).blk
  clear h ha hb1 hd1 hd2
  go_enter Try.func24, Try.ntmps24
  go_wp2_with fail
  clear c0 c1 c2 c3
  go_loopw [11] (fun i wr => ∃ j, TickRel w g mo li la (.slice A L.length d) L i wr j) (fun i _ => L.length - (intOf i).toNat)
  case atStart => exact ⟨0, HTR.out⟩
  case round =>
    obtain ⟨j, hj, rfl, ht, hk, hx⟩ := hrel
    have HT := Lib.hid ht; have HK := Lib.hid hk; have HX := Lib.hid hx
    have b0 : wr.cell? ⟨w.heap.size, 0, none⟩ = some (.pointer (some ⟨g, 0, none⟩)) := hx.cell 0
    obtain ⟨c0, c1, c2, c3⟩ := cells4 ht.blk
    by_cases hlt : j < L.length
    · obtain ⟨c, hc⟩ : ∃ c, L[j]? = some c := ⟨_, List.getElem?_eq_getElem hlt⟩
      have hc2 := ageU_at hc
      obtain ⟨b, d', hv, _, hgb, hbl, _, hr, hf⟩ := ht.own.at hc2
      injection hv with hA hn hd
      subst hA
      obtain ⟨b', d'', hv', _, _, hbl', _⟩ := HO.out.at hc
      obtain rfl : b = b' := by injection hv' with hA; injection hA with hA; injection hA
      have hage := HA.out c (List.mem_of_getElem? hc)
      have r15 : wr.cell? ⟨b, j * 16 + 15, none⟩ = some (.int .i64 c.age) := hr 15 _ rfl
      have f15 : wr.frozen? ⟨b, j * 16 + 15, none⟩ = false := hf _
      have hw : wrap64 (c.age + 1) = c.age + 1 := by unfold wrap64; omega
      have hi0 : (0 : Int) ≤ (j : Int) := by omega
      have hi1 : (j : Int) < (L.length : Int) := by omega
      have hjb : (j : Int) ≤ 100 := by have := HFew.out; omega
      have HT2 := Lib.hid (show Tab (wr.setCell ⟨b, j * 16 + 15, none⟩ (.int .i64 (c.age + 1))) g mo li la (.slice (some ⟨b, 0, none⟩) L.length d) (ageU L (j + 1)) from
        ⟨ht.blk.grown (grown_setCell (grown_refl _ _) _ _) (by omega), by rw [← ageU_step hc]; exact ht.own.put hc2 rfl (by decide), by rw [ageU_len]; exact HFew.out⟩)
      have HK2 := Lib.hid (hk.setOwn (b := b) rfl (j * 16 + 15) (.int .i64 (c.age + 1)))
      have HX2 := Lib.hid (hx.grown (grown_setCell (grown_refl wr (some b)) (j * 16 + 15) (.int .i64 (c.age + 1))) (by omega))
      have HLT := Lib.hid hlt
      clear ht hk hx hc hc2 hr hf hage hj hv' hgb hbl hbl' hd
      go_wp2_with fail
      go_roundw
      case rel => exact ⟨j + 1, HLT.out, by go_num, HT2.out, HK2.out, HX2.out⟩
      case measure => have hm := HLT.out; simp [intOf] at hm ⊢; try omega
    · obtain rfl : j = L.length := by omega
      rw [ageU_all] at HT
      have Q := Lib.hid (letGoT_any w.heap.size (fun c => c.age == li) g mo li la (.slice A L.length d) _ wr HT.out (fun W hW c => Tick1_any c w.heap.size g mo li la (.slice A L.length d) W (Nat.lt_of_lt_of_le HX.out.lt hW.size) ((HX.out.below hW HX.out.lt).cell 0) (HT.out.blk.below hW HT.out.blk.lt)))
      clear ht hk hx hj
      go_wp2_with fail
      refine Q.out.mono ?_
      rintro e w2 ⟨u, v', rfl, ht, hs, hg, hv⟩
      have HT2 := Lib.hid ht; have HS := Lib.hid (hs.lower HK.out.size)
      have HK2 := Lib.hid (HK.out.trans (KeepA.of_grown hg (.inr hv)))
      clear ht hs hg hv b0 c0 c1 c2 c3
      obtain ⟨A2, d2, rfl, _⟩ := id HS.out
      go_wp2_with fail
      go_ret
      exact ⟨_, v', rfl, HT2.out, HS.out, HK2.out⟩
end Go.Proofs.Ytgaoonnokhlgjaa

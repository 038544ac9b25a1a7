/-
  A path's bytes, by the document.
-/
import Derived.Test.YtiegfellgnfiiaaDoorPut3
import Derived.Test.YtiegfellgnfiiaaDoorRefPutA
namespace Go.Proofs.YtiegfellgnfiiaaDoor
set_option linter.unusedVariables false
set_option linter.unusedSimpArgs false
open Go.RowKit

/-- What one number adds, whatever bytes stand ahead of it. -/
theorem refNum_own {w wr w' : World} {A : Option Addr} {c : Nat} {l m : List UInt8} (hb : Below w.heap.size w wr) (ho : Own w' wr.heap.size 5 (.slice A (l ++ m).length c) (l ++ m)) (hb' : Below wr.heap.size wr w') :
    Own w' w.heap.size 5 (.slice A (l ++ m).length c) (l ++ m) ∧ Below w.heap.size w w' := ⟨ho.lower hb.size, hb.trans (hb'.mono hb.size)⟩

set_option maxHeartbeats 6400000 in
theorem RefPut3_any (A : Option Addr) (c : Nat) (L : List Sg) (wide : Bool) (w : World) (h : Segs w w.heap.size A L) (hl : L.length ≤ 12) (ht : totN L ≤ 35184372087808) :
    Calls Tryd.prog 36 #[.slice A L.length c, .bool wide] w (RetBytes w (putB wide L)) := by
  have HS := Lib.hid h; clear h
  go_enter Tryd.func36, Tryd.ntmps36
  go_wp2_with fail
  go_loopw [5, 6] (fun v i wr => PutRelA w wide L v i wr) (fun _ i _ => L.length - (intOf i).toNat)
  case atStart => exact ⟨Below.refl _ _, 0, Nat.zero_le _, rfl, Own.nil _ _ _⟩
  case round =>
    obtain ⟨hbr, j, hj, rfl, hown⟩ := hrel
    by_cases hlt : j < L.length
    · obtain ⟨s, hs⟩ : ∃ s, L[j]? = some s := ⟨_, List.getElem?_eq_getElem hlt⟩
      have hs2 := HS.out.at hs
      have hs1 := (HS.out.below hbr (Nat.le_refl _)).at hs
      obtain ⟨b, off, rfl, hb, k1, k2, hok⟩ := hs1
      have h1 := putB_len wide (L.take j)
      have h2 : totN (L.take (j + 1)) = totN (L.take j) + s.nums.length := sum_take (f := fun s => s.nums.length) hs
      have h3 : totN (L.take (j + 1)) ≤ totN L := sum_take_le (fun s => s.nums.length) L (j + 1)
      have h4 : (L.take j).length ≤ j := by simp; omega
      have HLEN := Lib.hid (show (putB wide (L.take j)).length + 2 + 4 * s.nums.length ≤ 140737488355296 by omega)
      have hsn : s.nums.length ≤ 35184372087808 := by omega
      have hpl : (putB wide (L.take j)).length + 1 < 140737488355328 := by omega
      clear h1 h2 h3 h4
      have HST := Lib.hid (putB_step (wide := wide) hs)
      have HOW := Lib.hid hown
      have HFIT := Lib.hid hok.2.2.2.1
      have HSS := Lib.hid hs
      have HBR := Lib.hid hbr
      have HJ := Lib.hid hlt
      clear hok hown hs hbr hs2
      go_wp2_with (at_builtin; go_loud (refine wpList_append_byte isBytes rfl (.tmp 15) (.tmp 22) rfl w _ _ rfl wr _ rfl HOW.out rfl ?_ ?_ ?_ HBR.out ?_))
      · omega
      · omega
      · omega
      intro v1 w1 hown1 hg1 hb1
      obtain ⟨b', off', hAe, hb', k3, k4, _⟩ := (HS.out.below hb1 (Nat.le_refl _)).at HSS.out
      cases hAe
      have HO1 := Lib.hid hown1; have HB1 := Lib.hid hb1
      clear hown1 hg1 hb1 k1 k2
      go_wp2_with (at_builtin; go_loud (refine wpList_append_byte isBytes rfl (.tmp 24) (.tmp 32) rfl w _ _ rfl w1 _ rfl HO1.out rfl ?_ ?_ ?_ HB1.out ?_))
      · omega
      · omega
      · rw [List.length_append, List.length_singleton]; omega
      intro v2 w2 hown2 hg2 hb2
      have HO2 := Lib.hid (show Own w2 w.heap.size 5 v2 (putB wide (L.take j) ++ headB s) from by first | exact hown2 | (rw [List.append_assoc] at hown2; exact hown2))
      have HB2 := Lib.hid hb2
      clear hown2 hg2 hb2 k3 k4
      go_wp2_with fail
      go_loopw [5, 7] (fun v i wr => PutRelB w wide (putB wide (L.take j) ++ headB s) s.nums v i wr) (fun _ i _ => s.nums.length - (intOf i).toNat)
      case atStart => exact ⟨HB2.out, 0, Nat.zero_le _, rfl, by simpa [numsB] using HO2.out⟩
      case round =>
        obtain ⟨hbr, k, hk, rfl, hown⟩ := hrel
        obtain ⟨b3, off3, hAe, hb3, k1, k2, hok⟩ := (HS.out.below hbr (Nat.le_refl _)).at HSS.out
        cases hAe
        by_cases hlt2 : k < s.nums.length
        · obtain ⟨b2, off2, hA2, hb2, k3⟩ := hok.2.2.1.cell hlt2
          have hx : s.nums.getD k 0 < 4294967296 := HFIT.out _ (by rw [show s.nums.getD k 0 = s.nums[k] by simp [List.getD, hlt2]]; exact List.getElem_mem hlt2)
          have HNS := Lib.hid (numsB_step (wide := wide) hlt2)
          have hnl := numsB_len wide (s.nums.take k)
          have htk : (s.nums.take k).length ≤ k := by simp; omega
          obtain ⟨x, hxe⟩ : ∃ x, x = s.nums.getD k 0 := ⟨_, rfl⟩
          rw [← hxe] at hx k3 HNS
          obtain ⟨A1, c1, rfl, f1, f2⟩ := hown.form
          have hll : (putB wide (L.take j) ++ headB s ++ numsB wide (s.nums.take k)).length ≤ 140737488355296 := by
            have h1 := HLEN.out
            simp only [List.length_append, headB, List.length_cons, List.length_nil] at *
            omega
          obtain ⟨l, hl9⟩ : ∃ l, l = putB wide (L.take j) ++ headB s ++ numsB wide (s.nums.take k) := ⟨_, rfl⟩
          have HE := Lib.hid (show putB wide (L.take j) ++ headB s ++ numsB wide (s.nums.take (k + 1)) = l ++ numB wide x by rw [HNS.out, hl9]; simp only [List.append_assoc])
          rw [← hl9] at hown hll ⊢
          have HBY := Lib.hid hown.bytes
          have HBR3 := Lib.hid hbr; have HK := Lib.hid hlt2
          rw [hA2] at k2
          have fin : ∀ (A' : Option Addr) (c' : Nat) (w' : World), Own w' wr.heap.size 5 (.slice A' (l ++ numB wide x).length c') (l ++ numB wide x) → Below wr.heap.size wr w' → Own w' w.heap.size 5 (.slice A' (l ++ numB wide x).length c') (putB wide (L.take j) ++ headB s ++ numsB wide (s.nums.take (k + 1))) ∧ Below w.heap.size w w' := by
            intro A' c' w' h1 h2
            rw [HE.out]
            exact refNum_own HBR3.out h1 h2
          have FIN := Lib.hid fin
          clear hown hok hbr hxe hl9 hnl htk f1 f2 hA2 HNS fin
          cases wide with
          | true =>
            have e : numB true x = be32 (x : Int) := by unfold numB; rw [if_pos rfl]
            have Q := Lib.hid (refPut32_any A1 l.length c1 l rfl (x : Int) wr hll HBY.out (by omega) (by omega))
            rw [← e] at Q
            clear e
            go_wp2_with fail
            refine Q.out.mono ?_
            rintro e w3 ⟨A3, c3, rfl, f1, f2, ho3, hb3'⟩
            have HF := Lib.hid (FIN.out A3 c3 w3 ho3 hb3')
            clear ho3 hb3' f1 f2
            go_wp2_with fail
            go_roundw
            case rel => exact ⟨HF.out.2, k + 1, HK.out, by go_num, by have h9 := HF.out.1; rw [List.length_append] at h9; exact h9⟩
            case measure => have := HK.out; simp [intOf]; omega
          | false =>
            by_cases hbig : 65535 < x
            · have hbI : (65535 : Int) < (x : Int) := by omega
              have e : numB false x = be16 23456 := by unfold numB; rw [if_neg (by decide), if_pos hbig]
              have Q := Lib.hid (refPut16_any A1 l.length c1 l rfl 23456 wr (by omega) HBY.out (by omega) (by omega))
              rw [← e] at Q
              clear e hbig
              go_wp2_with fail
              refine Q.out.mono ?_
              rintro e w3 ⟨A3, c3, rfl, f1, f2, ho3, hb3'⟩
              have HF := Lib.hid (FIN.out A3 c3 w3 ho3 hb3')
              clear ho3 hb3' f1 f2
              go_wp2_with fail
              go_roundw
              case rel => exact ⟨HF.out.2, k + 1, HK.out, by go_num, by have h9 := HF.out.1; rw [List.length_append] at h9; exact h9⟩
              case measure => have := HK.out; simp [intOf]; omega
            · have hbI : ¬ (65535 : Int) < (x : Int) := by omega
              have e : numB false x = be16 (x : Int) := by unfold numB; rw [if_neg (by decide), if_neg hbig]
              have Q := Lib.hid (refPut16_any A1 l.length c1 l rfl (x : Int) wr (by omega) HBY.out (by omega) (by omega))
              rw [← e] at Q
              clear e hbig
              go_wp2_with fail
              refine Q.out.mono ?_
              rintro e w3 ⟨A3, c3, rfl, f1, f2, ho3, hb3'⟩
              have HF := Lib.hid (FIN.out A3 c3 w3 ho3 hb3')
              clear ho3 hb3' f1 f2
              go_wp2_with fail
              go_roundw
              case rel => exact ⟨HF.out.2, k + 1, HK.out, by go_num, by have h9 := HF.out.1; rw [List.length_append] at h9; exact h9⟩
              case measure => have := HK.out; simp [intOf]; omega
        · obtain rfl : k = s.nums.length := by omega
          rw [List.take_length] at hown
          have HO9 := Lib.hid hown; have HB9 := Lib.hid hbr
          clear hown hbr hok
          go_wp2_with fail
          go_roundw
          case rel => exact ⟨HB9.out, j + 1, HJ.out, by go_num, by rw [HST.out]; exact HO9.out⟩
          case measure => have := HJ.out; simp [intOf]; omega
    · obtain rfl : j = L.length := by omega
      rw [List.take_length] at hown
      obtain ⟨A1, c1, rfl, f1, f2⟩ := hown.form
      have HO9 := Lib.hid hown; have HB9 := Lib.hid hbr
      clear hown hbr
      go_wp2_with fail
      go_ret
      exact ⟨_, _, rfl, f1, f2, HO9.out, HB9.out⟩
end Go.Proofs.YtiegfellgnfiiaaDoor

/-
  All numbers of a path, and whether one is there: by the document.
-/
import Derived.Test.YtgnedkgniiondaaDoorFlat3
import Derived.Test.YtgnedkgniiondaaDoorHas
namespace Go.Proofs.YtgnedkgniiondaaDoor
set_option linter.unusedVariables false
set_option linter.unusedSimpArgs false
open Go.RowKit

theorem take32_step {z : List Nat} {k : Nat} (h : k < z.length) : z.take (k + 1) = z.take k ++ [z.getD k 0] := by
  have e : z.getD k 0 = z[k] := by simp [List.getD, h]
  rw [List.take_succ_eq_append_getElem h, e]
def FlatRelB (w : World) (y z : List Nat) (v i : Value) (wr : World) : Prop :=
  Below w.heap.size w wr ∧ ∃ j : Nat, j ≤ z.length ∧ i = .int .i64 (j : Int) ∧ Own32 wr w.heap.size v (y ++ z.take j)

set_option maxHeartbeats 3200000 in
theorem RefFlat_any (A : Option Addr) (c : Nat) (L : List Sg) (w : World) (h : Segs w w.heap.size A L) (hl : L.length ≤ 1000000000) (ht : totN L ≤ 35184372088832) :
    Calls Tryd.prog 21 #[.slice A L.length c] w (Ret32 w (flatN L)) := by
  have HS := Lib.hid h; clear h
  go_enter Tryd.func21, Tryd.ntmps21
  go_wp2_with fail
  go_loopw [3, 4] (fun v i wr => FlatRel w L v i wr) (fun _ i _ => L.length - (intOf i).toNat)
  case atStart => exact ⟨Below.refl _ _, 0, Nat.zero_le _, rfl, Own32.nil _ _⟩
  case round =>
    obtain ⟨hbr, j, hj, rfl, hown⟩ := hrel
    by_cases hlt : j < L.length
    · obtain ⟨s, hs⟩ : ∃ s, L[j]? = some s := ⟨_, List.getElem?_eq_getElem hlt⟩
      have HST := Lib.hid (flatN_step hs)
      have HSZ := Lib.hid (show (flatN (L.take j)).length + s.nums.length ≤ 35184372088832 by
        have h1 : totN (L.take (j + 1)) = totN (L.take j) + s.nums.length := sum_take (f := fun s => s.nums.length) hs
        have h2 : totN (L.take (j + 1)) ≤ totN L := sum_take_le (fun s => s.nums.length) L (j + 1)
        rw [flatN_len]; omega)
      have hsn : s.nums.length ≤ 35184372088832 := by have := HSZ.out; omega
      have HSS := Lib.hid hs
      have HOW := Lib.hid hown; have HBR := Lib.hid hbr; have HJ := Lib.hid hlt
      clear hs hown hbr
      go_wp2_with fail
      go_loopw [3, 5] (fun v i wr => FlatRelB w (flatN (L.take j)) s.nums v i wr) (fun _ i _ => s.nums.length - (intOf i).toNat)
      case atStart => exact ⟨HBR.out, 0, Nat.zero_le _, rfl, by simpa using HOW.out⟩
      case round =>
        clear HOW HBR
        obtain ⟨hbr, k, hk, rfl, hown⟩ := hrel
        obtain ⟨b, off, rfl, hb, k1, k2, hok⟩ := (HS.out.below hbr (Nat.le_refl _)).at HSS.out
        have HBR := Lib.hid hbr
        by_cases hlt2 : k < s.nums.length
        · obtain ⟨b2, off2, hA2, hb2, k3⟩ := hok.2.2.1.cell hlt2
          have HTK := Lib.hid (take32_step hlt2)
          obtain ⟨x, hxe⟩ : ∃ x, x = s.nums.getD k 0 := ⟨_, rfl⟩
          rw [← hxe] at k3 HTK
          rw [hA2] at k2
          have HOW := Lib.hid hown; have HK := Lib.hid hlt2
          have HLN := Lib.hid (show ((flatN (L.take j) ++ s.nums.take k).length + 1) * 4 ≤ 140737488355328 by
            have h1 := HSZ.out
            rw [List.length_append, List.length_take]
            omega)
          clear hxe hok hown hbr hA2
          go_wp2_with (at_builtin; go_loud (refine wpList_app_one isU32 rfl (.tmp 22) (.tmp 31) rfl w _ _ (cells32 _) rfl wr [.int .u32 (x : Int)] rfl HOW.out rfl rfl (by simp [Value.oneCell']) HLN.out HBR.out ?_))
          intro v1 w1 hown1 hg1 hb1
          have O1 := Lib.hid (show Own32 w1 w.heap.size v1 (flatN (L.take j) ++ s.nums.take (k + 1)) from by
            rw [HTK.out, ← List.append_assoc]
            have e : ((flatN (L.take j) ++ s.nums.take k) ++ [x]).length = (flatN (L.take j)).length + k + 1 := by
              have := HK.out
              simp only [List.length_append, List.length_take, List.length_cons, List.length_nil]
              omega
            unfold Own32 cells32 at *
            rw [List.map_append, e]
            exact hown1)
          have HB1 := Lib.hid hb1
          clear hown1 hg1 hb1
          go_wp2_with fail
          go_roundw
          case rel => exact ⟨HB1.out, k + 1, HK.out, by go_num, O1.out⟩
          case measure => have := HK.out; simp [intOf]; omega
        · obtain rfl : k = s.nums.length := by omega
          rw [List.take_length] at hown
          have HOW := Lib.hid hown
          clear hown hbr hok
          go_wp2_with fail
          go_roundw
          case rel => exact ⟨HBR.out, j + 1, HJ.out, by go_num, by rw [HST.out]; exact HOW.out⟩
          case measure => have := HJ.out; simp [intOf]; omega
    · obtain rfl : j = L.length := by omega
      rw [List.take_length] at hown
      obtain ⟨A1, c1, rfl, f1, f2⟩ := hown.form
      have HAT := Lib.hid hown; have HBR := Lib.hid hbr
      clear hown hbr
      go_wp2_with fail
      go_ret
      exact ⟨_, _, rfl, f1, f2, HAT.out, HBR.out⟩

theorem hasB_flat (L : List Sg) (v : Nat) : inB (flatN L) v = hasB L v := by
  unfold inB flatN hasB inB
  rw [List.any_flatMap]

set_option maxHeartbeats 1600000 in
theorem RefHas_any (A : Option Addr) (c : Nat) (L : List Sg) (v : Nat) (w : World) (h : Segs w w.heap.size A L) (hl : L.length ≤ 1000000000) (ht : totN L ≤ 35184372088832) :
    Calls Tryd.prog 23 #[.slice A L.length c, .int .u32 (v : Int)] w fun e w' => e = .returned (.bool (hasB L v)) ∧ Below w.heap.size w w' := by
  have QF := Lib.hid (RefFlat_any A c L w h hl ht); clear h
  have HFL := Lib.hid (hasB_flat L v)
  have hfl := flatN_len L
  obtain ⟨z, hz⟩ : ∃ z, z = flatN L := ⟨_, rfl⟩
  rw [← hz] at QF HFL hfl
  have HZL := Lib.hid (show z.length ≤ 1152921504606846976 by omega)
  clear hz hfl
  go_enter Tryd.func23, Tryd.ntmps23
  go_wp2_with fail
  refine QF.out.mono ?_
  rintro e w1 ⟨A1, c1, rfl, f1, f2, ho1, hb1⟩
  have HAT := Lib.hid ho1.at; have HB := Lib.hid hb1
  have hzl := HZL.out
  clear ho1 hb1 f1 f2
  go_wp2_with fail
  go_loop [6] (fun i => ∃ j : Nat, j ≤ z.length ∧ i = .int .i64 (j : Int) ∧ Hid (inB (z.take j) v = false)) (fun i => z.length - (intOf i).toNat)
  case atStart => exact ⟨0, Nat.zero_le _, rfl, Lib.hid (by simp [inB])⟩
  case round =>
    obtain ⟨j, hj, rfl, hno⟩ := hrel
    by_cases hlt : j < z.length
    · obtain ⟨b, off, rfl, hb, k1⟩ := HAT.out.cell hlt
      by_cases he : v = z.getD j 0
      · have HN := Lib.hid (has_now hlt he)
        obtain ⟨x, hx⟩ : ∃ x, x = z.getD j 0 := ⟨_, rfl⟩
        rw [← hx] at k1 he
        subst he
        clear hx
        go_wp2_with fail
        go_ret
        exact ⟨by rw [← HFL.out, HN.out]; rfl, HB.out⟩
      · have HN := Lib.hid (has_step hlt hno.out he)
        obtain ⟨x, hx⟩ : ∃ x, x = z.getD j 0 := ⟨_, rfl⟩
        rw [← hx] at k1 he
        have hk1 : ((x : Int) == (v : Int)) = false := by rw [beq_eq_false_iff_ne]; omega
        clear hx he
        go_wp2_with fail
        go_round
        case rel => exact ⟨j + 1, by omega, by go_num, HN⟩
        case measure => simp [intOf]; omega
    · obtain rfl : j = z.length := by omega
      go_wp2_with fail
      go_ret
      exact ⟨by have := hno.out; rw [List.take_length] at this; rw [← HFL.out, this]; rfl, HB.out⟩
end Go.Proofs.YtgnedkgniiondaaDoor

/-
  slices.Concat of three.
-/
import Derived.Test.YtfdeafjkiagjfaaDoorConcat
namespace Go.Proofs.YtfdeafjkiagjfaaDoor
set_option linter.unusedVariables false
set_option linter.unusedSimpArgs false
open Go.RowKit

def pre3 (l0 l1 l2 : List UInt8) : Nat → List UInt8
  | 0 => []
  | 1 => l0
  | 2 => l0 ++ l1
  | _ => (l0 ++ l1) ++ l2
def ConRel (w : World) (l0 l1 l2 : List UInt8) (v i : Value) (wr : World) : Prop := Below w.heap.size w wr ∧ ∃ j : Nat, j ≤ 3 ∧ i = .int .i64 (j : Int) ∧ Own wr w.heap.size 5 v (pre3 l0 l1 l2 j)

set_option maxHeartbeats 3200000 in
theorem Concat3_any (k : Nat) (A0 A1 A2 : Option Addr) (c0 c1 c2 : Nat) (l0 l1 l2 : List UInt8) (w : World)
    (hk : Blk w k 45 [.slice A0 l0.length c0, .slice A1 l1.length c1, .slice A2 l2.length c2]) (h0 : Bytes w A0 l0) (h1 : Bytes w A1 l1) (h2 : Bytes w A2 l2)
    (hT : l0.length + l1.length + l2.length ≤ 70368744177664) :
    Calls Tryd.prog 49 #[.slice (some ⟨k, 0, none⟩) 3 3] w (RetBytes w ((l0 ++ l1) ++ l2)) := by
  have d0 : w.cell? ⟨k, 0, none⟩ = some (.slice A0 l0.length c0) := hk.cell 0
  have d1 : w.cell? ⟨k, 1, none⟩ = some (.slice A1 l1.length c1) := hk.cell 1
  have d2 : w.cell? ⟨k, 2, none⟩ = some (.slice A2 l2.length c2) := hk.cell 2
  have HKb := Lib.hid hk; have H0 := Lib.hid h0; have H1 := Lib.hid h1; have H2 := Lib.hid h2
  have q61 := Lib.hid (GrowNil_any (l0.length + l1.length + l2.length) w hT)
  clear hk h0 h1 h2
  go_enter Tryd.func49, Tryd.ntmps49
  go_wp2_with fail
  go_loop [3, 5, 11] (fun s _ i => ∃ j : Nat, j ≤ 3 ∧ i = .int .i64 (j : Int) ∧ s = .int .i64 (((pre3 l0 l1 l2 j).length : Nat) : Int)) (fun _ _ i => 3 - (intOf i).toNat)
  case atStart => exact ⟨0, by omega, rfl, rfl⟩
  case round =>
    obtain ⟨j, hj, rfl, rfl⟩ := hrel
    rcases (show j = 0 ∨ j = 1 ∨ j = 2 ∨ j = 3 by omega) with rfl | rfl | rfl | rfl
    · simp only [pre3, List.length_nil, List.length_append]
      go_wp2
      go_round
      case rel => exact ⟨1, by omega, by go_num, by simp [pre3]⟩
      case measure => simp [intOf]
    · simp only [pre3, List.length_append]
      go_wp2
      go_round
      case rel => exact ⟨2, by omega, by go_num, by simp [pre3]⟩
      case measure => simp [intOf]
    · simp only [pre3, List.length_append]
      go_wp2
      go_round
      case rel => exact ⟨3, by omega, by go_num, by simp [pre3]; omega⟩
      case measure => simp [intOf]
    · simp only [pre3, List.length_append]
      clear d0 d1 d2
      go_wp2_with fail
      refine q61.out.mono ?_
      rintro e w1 ⟨A, c, rfl, hown, hb1⟩
      have HO := Lib.hid hown; clear hown
      go_wp2_with fail
      go_loopw [6, 8, 27] (fun v _ i wr => ConRel w l0 l1 l2 v i wr) (fun _ _ i _ => 3 - (intOf i).toNat)
      case atStart => exact ⟨hb1, 0, by omega, rfl, HO.out⟩
      case round =>
        clear hb1 HO q61
        obtain ⟨hbr, j, hj, rfl, hown⟩ := hrel
        have HO := Lib.hid hown; clear hown
        have hkr := HKb.out.below hbr HKb.out.lt
        rcases (show j = 0 ∨ j = 1 ∨ j = 2 ∨ j = 3 by omega) with rfl | rfl | rfl | rfl
        · have e0 : wr.cell? ⟨k, 0, none⟩ = some (.slice A0 l0.length c0) := hkr.cell 0
          have hby := H0.out.below hbr
          have HY := Lib.hid hby
          have hlen : (pre3 l0 l1 l2 0).length + l0.length ≤ 140737488355328 := by simp only [pre3, List.length_append, List.length_nil]; omega
          have HLn := Lib.hid hlen
          clear hkr hby hlen
          go_wp2_with (at_builtin; refine wpList_append_bytes isBytes rfl (.tmp 31) (.tmp 32) rfl w _ _ rfl HO.out A0 l0 _ c0 rfl rfl HY.out HLn.out hbr ?_)
          intro v' w' hown' _ hb'
          have H' := Lib.hid hown'; clear hown' hbr HO HY
          go_wp2
          go_roundw
          case rel => exact ⟨hb', 1, by omega, by go_num, H'.out⟩
          case measure => simp [intOf]; done
        · have e1 : wr.cell? ⟨k, 1, none⟩ = some (.slice A1 l1.length c1) := hkr.cell 1
          have hby := H1.out.below hbr
          have HY := Lib.hid hby
          have hlen : (pre3 l0 l1 l2 1).length + l1.length ≤ 140737488355328 := by simp only [pre3, List.length_append, List.length_nil]; omega
          have HLn := Lib.hid hlen
          clear hkr hby hlen
          go_wp2_with (at_builtin; refine wpList_append_bytes isBytes rfl (.tmp 31) (.tmp 32) rfl w _ _ rfl HO.out A1 l1 _ c1 rfl rfl HY.out HLn.out hbr ?_)
          intro v' w' hown' _ hb'
          have H' := Lib.hid hown'; clear hown' hbr HO HY
          go_wp2
          go_roundw
          case rel => exact ⟨hb', 2, by omega, by go_num, H'.out⟩
          case measure => simp [intOf]; done
        · have e2 : wr.cell? ⟨k, 2, none⟩ = some (.slice A2 l2.length c2) := hkr.cell 2
          have hby := H2.out.below hbr
          have HY := Lib.hid hby
          have hlen : (pre3 l0 l1 l2 2).length + l2.length ≤ 140737488355328 := by simp only [pre3, List.length_append, List.length_nil]; omega
          have HLn := Lib.hid hlen
          clear hkr hby hlen
          go_wp2_with (at_builtin; refine wpList_append_bytes isBytes rfl (.tmp 31) (.tmp 32) rfl w _ _ rfl HO.out A2 l2 _ c2 rfl rfl HY.out HLn.out hbr ?_)
          intro v' w' hown' _ hb'
          have H' := Lib.hid hown'; clear hown' hbr HO HY
          go_wp2
          go_roundw
          case rel => exact ⟨hb', 3, by omega, by go_num, H'.out⟩
          case measure => simp [intOf]; done
        · have hlen : (pre3 l0 l1 l2 3).length = ((l0 ++ l1) ++ l2).length := rfl
          obtain ⟨A', c', rfl, hc1, hc2⟩ := HO.out.form
          clear hkr hlen
          go_wp2
          go_ret
          exact ret_own rfl hc1 hc2 HO.out hbr rfl
end Go.Proofs.YtfdeafjkiagjfaaDoor

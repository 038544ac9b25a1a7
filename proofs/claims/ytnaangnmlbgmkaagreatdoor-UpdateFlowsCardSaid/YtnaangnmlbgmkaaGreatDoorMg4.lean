/-
  Texts of this seat, put together: Concat3, RefNorm, Small4, Whole4, Out4, ReadL, BegL, RefRd, Same3, Body5, RefSame3, PPut, PPutW, RefRight, RefAttr4, Read3, PRd5, Pfx5, RefPPut, Room5, EqP5, Room6, List5.
-/
import Derived.Deep.RegionHeld3
import Derived.Deep.RegionLaw
import Derived.Shelf.Abstract
import Derived.Laws.StructEq
import Derived.Deep.QuietTactic
import Derived.BigQuiet
import Derived.Test.YtnaangnmlbgmkaaGreatDoorMg1
import Derived.Test.YtnaangnmlbgmkaaGreatDoorLook4Mg
import Derived.Test.YtnaangnmlbgmkaaGreatDoorEqual3Mg
/-
  slices.Concat of three.
-/
namespace Go.Proofs.YtnaangnmlbgmkaaGreatDoor
set_option linter.unusedVariables false
set_option linter.unusedSimpArgs false
open Go.RowKit

def pre3 (l0 l1 l2 : List UInt8) : Nat → List UInt8
  | 0 => []
  | 1 => l0
  | 2 => l0 ++ l1
  | _ => (l0 ++ l1) ++ l2
def ConRel (w : World) (l0 l1 l2 : List UInt8) (v i : Value) (wr : World) : Prop := Below w.heap.size w wr ∧ ∃ j : Nat, j ≤ 3 ∧ i = .int .i64 (j : Int) ∧ Own wr w.heap.size 5 v (pre3 l0 l1 l2 j)

set_option maxHeartbeats 3200000 in
theorem Concat3_any (k : Nat) (A0 A1 A2 : Option Addr) (c0 c1 c2 : Nat) (l0 l1 l2 : List UInt8) (w : World)
    (hk : Blk w k 33 [.slice A0 l0.length c0, .slice A1 l1.length c1, .slice A2 l2.length c2]) (h0 : Bytes w A0 l0) (h1 : Bytes w A1 l1) (h2 : Bytes w A2 l2)
    (hT : l0.length + l1.length + l2.length ≤ 70368744177664) :
    Calls Tryz.prog 47 #[.slice (some ⟨k, 0, none⟩) 3 3] w (RetBytes w ((l0 ++ l1) ++ l2)) := by
  have d0 : w.cell? ⟨k, 0, none⟩ = some (.slice A0 l0.length c0) := hk.cell 0
  have d1 : w.cell? ⟨k, 1, none⟩ = some (.slice A1 l1.length c1) := hk.cell 1
  have d2 : w.cell? ⟨k, 2, none⟩ = some (.slice A2 l2.length c2) := hk.cell 2
  have HKb := Lib.hid hk; have H0 := Lib.hid h0; have H1 := Lib.hid h1; have H2 := Lib.hid h2
  have q61 := Lib.hid (GrowNil_any (l0.length + l1.length + l2.length) w hT)
  clear hk h0 h1 h2
  go_enter Tryz.func47, Tryz.ntmps47
  go_wp2_with fail
  go_loop [3, 5, 11] (fun s _ i => ∃ j : Nat, j ≤ 3 ∧ i = .int .i64 (j : Int) ∧ s = .int .i64 (((pre3 l0 l1 l2 j).length : Nat) : Int)) (fun _ _ i => 3 - (intOf i).toNat)
  case atStart => exact ⟨0, by omega, rfl, rfl⟩
  case round =>
    obtain ⟨j, hj, rfl, rfl⟩ := hrel
    rcases (show j = 0 ∨ j = 1 ∨ j = 2 ∨ j = 3 by omega) with rfl | rfl | rfl | rfl
    · simp only [pre3, List.length_nil, List.length_append]
      go_wp2
      go_round
      case rel => exact ⟨1, by omega, by go_num, by simp [pre3]⟩
      case measure => simp [intOf]
    · simp only [pre3, List.length_append]
      go_wp2
      go_round
      case rel => exact ⟨2, by omega, by go_num, by simp [pre3]⟩
      case measure => simp [intOf]
    · simp only [pre3, List.length_append]
      go_wp2
      go_round
      case rel => exact ⟨3, by omega, by go_num, by simp [pre3]; omega⟩
      case measure => simp [intOf]
    · simp only [pre3, List.length_append]
      clear d0 d1 d2
      go_wp2_with fail
      refine q61.out.mono ?_
      rintro e w1 ⟨A, c, rfl, hown, hb1⟩
      have HO := Lib.hid hown; clear hown
      go_wp2_with fail
      go_loopw [6, 8, 27] (fun v _ i wr => ConRel w l0 l1 l2 v i wr) (fun _ _ i _ => 3 - (intOf i).toNat)
      case atStart => exact ⟨hb1, 0, by omega, rfl, HO.out⟩
      case round =>
        clear hb1 HO q61
        obtain ⟨hbr, j, hj, rfl, hown⟩ := hrel
        have HO := Lib.hid hown; clear hown
        have hkr := HKb.out.below hbr HKb.out.lt
        rcases (show j = 0 ∨ j = 1 ∨ j = 2 ∨ j = 3 by omega) with rfl | rfl | rfl | rfl
        · have e0 : wr.cell? ⟨k, 0, none⟩ = some (.slice A0 l0.length c0) := hkr.cell 0
          have hby := H0.out.below hbr
          have HY := Lib.hid hby
          have hlen : (pre3 l0 l1 l2 0).length + l0.length ≤ 140737488355328 := by simp only [pre3, List.length_append, List.length_nil]; omega
          have HLn := Lib.hid hlen
          clear hkr hby hlen
          go_wp2_with (at_builtin; refine wpList_append_bytes isBytes rfl (.tmp 31) (.tmp 32) rfl w _ _ rfl HO.out A0 l0 _ c0 rfl rfl HY.out HLn.out hbr ?_)
          intro v' w' hown' _ hb'
          have H' := Lib.hid hown'; clear hown' hbr HO HY
          go_wp2
          go_roundw
          case rel => exact ⟨hb', 1, by omega, by go_num, H'.out⟩
          case measure => simp [intOf]; done
        · have e1 : wr.cell? ⟨k, 1, none⟩ = some (.slice A1 l1.length c1) := hkr.cell 1
          have hby := H1.out.below hbr
          have HY := Lib.hid hby
          have hlen : (pre3 l0 l1 l2 1).length + l1.length ≤ 140737488355328 := by simp only [pre3, List.length_append, List.length_nil]; omega
          have HLn := Lib.hid hlen
          clear hkr hby hlen
          go_wp2_with (at_builtin; refine wpList_append_bytes isBytes rfl (.tmp 31) (.tmp 32) rfl w _ _ rfl HO.out A1 l1 _ c1 rfl rfl HY.out HLn.out hbr ?_)
          intro v' w' hown' _ hb'
          have H' := Lib.hid hown'; clear hown' hbr HO HY
          go_wp2
          go_roundw
          case rel => exact ⟨hb', 2, by omega, by go_num, H'.out⟩
          case measure => simp [intOf]; done
        · have e2 : wr.cell? ⟨k, 2, none⟩ = some (.slice A2 l2.length c2) := hkr.cell 2
          have hby := H2.out.below hbr
          have HY := Lib.hid hby
          have hlen : (pre3 l0 l1 l2 2).length + l2.length ≤ 140737488355328 := by simp only [pre3, List.length_append, List.length_nil]; omega
          have HLn := Lib.hid hlen
          clear hkr hby hlen
          go_wp2_with (at_builtin; refine wpList_append_bytes isBytes rfl (.tmp 31) (.tmp 32) rfl w _ _ rfl HO.out A2 l2 _ c2 rfl rfl HY.out HLn.out hbr ?_)
          intro v' w' hown' _ hb'
          have H' := Lib.hid hown'; clear hown' hbr HO HY
          go_wp2
          go_roundw
          case rel => exact ⟨hb', 3, by omega, by go_num, H'.out⟩
          case measure => simp [intOf]; done
        · have hlen : (pre3 l0 l1 l2 3).length = ((l0 ++ l1) ++ l2).length := rfl
          obtain ⟨A', c', rfl, hc1, hc2⟩ := HO.out.form
          clear hkr hlen
          go_wp2
          go_ret
          exact ret_own rfl hc1 hc2 HO.out hbr rfl
end Go.Proofs.YtnaangnmlbgmkaaGreatDoor

/-
  The document's Norm and Right (the three cases of Norm are written by a program).
-/
namespace Go.Proofs.YtnaangnmlbgmkaaGreatDoor
set_option linter.unusedVariables false
set_option linter.unusedSimpArgs false
open Go.RowKit

set_option maxHeartbeats 800000 in
theorem RefNorm_mid (a : Nat) (k : Nat) (hk : k ≤ 32) (w : World) (ha : a < 4294967296) :
    Calls Tryz.prog 122 #[.int .u32 (a : Int), .int .i64 (k : Int)] w (RetPfx w (hi a k) (k : Nat)) := by
  have hle : k ≤ 32 := by omega
  have hz1 : ¬ ((k : Int) < 0) := by omega
  have hz2 : ¬ ((32 : Int) < (k : Int)) := by omega
  have e1 := Lib.hid (nf_end a hle)
  have e0 := Lib.hid (nf_zero k ha)
  have hml := Nat.lt_of_le_of_lt (hi_le a k) ha
  have q12 := fun (j : Nat) (hj : j < 32) w => Lib.hid (RefBit_any a (j : Int) w ha (by omega) (by omega))
  go_enter Tryz.func122, Tryz.ntmps122
  go_wp2_with fail
  go_loop [6, 7] (fun x m => ∃ j : Nat, j ≤ 32 ∧ m = .int .i64 (j : Int) ∧ x = .int .i64 ((nf a k j : Nat) : Int)) (fun _ m => 32 - (intOf m).toNat)
  case atStart => exact ⟨0, by omega, rfl, by rw [e0.out]; rfl⟩
  case round =>
    obtain ⟨j, hj, rfl, rfl⟩ := hrel
    by_cases hz : j = 32
    · subst hz
      rw [e1.out]
      clear q12
      go_wp2
      exact bodyPost_ret (v := .agg #[.int .u32 ((hi a k : Nat) : Int), .int .i64 ((k : Nat) : Int)]) (by simp [results, Tryz.results122, go_sem]) rfl ⟨rfl, (Below.refl _ _).alloc (Nat.le_refl _) _⟩
    · have hX1 := nf_le a (k := k) hj
      have hj32 : (j : Int) < 32 := by omega
      have hX3 := nf_le a (k := k) (j := j + 1) (by omega)
      by_cases hjk : j < k
      · have hst := nf_lt a hjk hle
        have hlt : (j : Int) < (k : Int) := by omega
        have h12 := q12 j (by omega)
        rw [bitI_in (by omega)] at h12
        clear q12
        obtain ⟨b, hb⟩ : ∃ b, b = a / 2 ^ (31 - j) % 2 := ⟨_, rfl⟩
        obtain ⟨X, hX⟩ : ∃ X, X = nf a k j := ⟨_, rfl⟩
        obtain ⟨Y, hY⟩ : ∃ Y, Y = nf a k (j + 1) := ⟨_, rfl⟩
        have hb2 : b < 2 := by rw [hb]; exact Nat.mod_lt _ (by decide)
        rw [← hX] at hX1 hst ⊢
        rw [← hY] at hst hX3
        rw [← hb] at hst h12
        have HX := Lib.hid hX; have HY := Lib.hid hY; have HB := Lib.hid hb
        clear hX hY hb
        go_wp2_with fail
        refine (h12 _).out.mono ?_
        rintro e w1 ⟨rfl, rfl⟩
        go_wp2_with fail
        go_round
        case rel => exact ⟨j + 1, by omega, by go_num, by rw [← HY.out, hst]; go_num⟩
        case measure => simp [intOf]; omega
      · have hst := nf_ge a (k := k) (j := j) (by omega)
        have hlt : ¬ (j : Int) < (k : Int) := by omega
        clear q12
        obtain ⟨X, hX⟩ : ∃ X, X = nf a k j := ⟨_, rfl⟩
        obtain ⟨Y, hY⟩ : ∃ Y, Y = nf a k (j + 1) := ⟨_, rfl⟩
        rw [← hX] at hX1 hst ⊢
        rw [← hY] at hst hX3
        have HX := Lib.hid hX; have HY := Lib.hid hY
        clear hX hY
        go_wp2_with fail
        go_round
        case rel => exact ⟨j + 1, by omega, by go_num, by rw [← HY.out, hst]; go_num⟩
        case measure => simp [intOf]; omega

set_option maxHeartbeats 800000 in
theorem RefNorm_neg (a : Nat) (n : Int) (hz1 : n < 0) (w : World) (ha : a < 4294967296) :
    Calls Tryz.prog 122 #[.int .u32 (a : Int), .int .i64 n] w (RetPfx w (hi a 0) (0 : Nat)) := by
  have hle : 0 ≤ 32 := by omega
  have e1 := Lib.hid (nf_end a hle)
  have e0 := Lib.hid (nf_zero 0 ha)
  have hml := Nat.lt_of_le_of_lt (hi_le a 0) ha
  have q12 := fun (j : Nat) (hj : j < 32) w => Lib.hid (RefBit_any a (j : Int) w ha (by omega) (by omega))
  go_enter Tryz.func122, Tryz.ntmps122
  go_wp2_with fail
  go_loop [6, 7] (fun x m => ∃ j : Nat, j ≤ 32 ∧ m = .int .i64 (j : Int) ∧ x = .int .i64 ((nf a 0 j : Nat) : Int)) (fun _ m => 32 - (intOf m).toNat)
  case atStart => exact ⟨0, by omega, rfl, by rw [e0.out]; rfl⟩
  case round =>
    obtain ⟨j, hj, rfl, rfl⟩ := hrel
    by_cases hz : j = 32
    · subst hz
      rw [e1.out]
      clear q12
      go_wp2
      exact bodyPost_ret (v := .agg #[.int .u32 ((hi a 0 : Nat) : Int), .int .i64 ((0 : Nat) : Int)]) (by simp [results, Tryz.results122, go_sem]) rfl ⟨rfl, (Below.refl _ _).alloc (Nat.le_refl _) _⟩
    · have hX1 := nf_le a (k := 0) hj
      have hj32 : (j : Int) < 32 := by omega
      have hX3 := nf_le a (k := 0) (j := j + 1) (by omega)
      by_cases hjk : j < 0
      · have hst := nf_lt a hjk hle
        have hlt : (j : Int) < 0 := by omega
        have h12 := q12 j (by omega)
        rw [bitI_in (by omega)] at h12
        clear q12
        obtain ⟨b, hb⟩ : ∃ b, b = a / 2 ^ (31 - j) % 2 := ⟨_, rfl⟩
        obtain ⟨X, hX⟩ : ∃ X, X = nf a 0 j := ⟨_, rfl⟩
        obtain ⟨Y, hY⟩ : ∃ Y, Y = nf a 0 (j + 1) := ⟨_, rfl⟩
        have hb2 : b < 2 := by rw [hb]; exact Nat.mod_lt _ (by decide)
        rw [← hX] at hX1 hst ⊢
        rw [← hY] at hst hX3
        rw [← hb] at hst h12
        have HX := Lib.hid hX; have HY := Lib.hid hY; have HB := Lib.hid hb
        clear hX hY hb
        go_wp2_with fail
        refine (h12 _).out.mono ?_
        rintro e w1 ⟨rfl, rfl⟩
        go_wp2_with fail
        go_round
        case rel => exact ⟨j + 1, by omega, by go_num, by rw [← HY.out, hst]; go_num⟩
        case measure => simp [intOf]; omega
      · have hst := nf_ge a (k := 0) (j := j) (by omega)
        have hlt : ¬ (j : Int) < 0 := by omega
        clear q12
        obtain ⟨X, hX⟩ : ∃ X, X = nf a 0 j := ⟨_, rfl⟩
        obtain ⟨Y, hY⟩ : ∃ Y, Y = nf a 0 (j + 1) := ⟨_, rfl⟩
        rw [← hX] at hX1 hst ⊢
        rw [← hY] at hst hX3
        have HX := Lib.hid hX; have HY := Lib.hid hY
        clear hX hY
        go_wp2_with fail
        go_round
        case rel => exact ⟨j + 1, by omega, by go_num, by rw [← HY.out, hst]; go_num⟩
        case measure => simp [intOf]; omega

set_option maxHeartbeats 800000 in
theorem RefNorm_big (a : Nat) (n : Int) (hz2 : 32 < n) (w : World) (ha : a < 4294967296) :
    Calls Tryz.prog 122 #[.int .u32 (a : Int), .int .i64 n] w (RetPfx w (hi a 32) (32 : Nat)) := by
  have hle : 32 ≤ 32 := by omega
  have hz1 : ¬ (n < 0) := by omega
  have e1 := Lib.hid (nf_end a hle)
  have e0 := Lib.hid (nf_zero 32 ha)
  have hml := Nat.lt_of_le_of_lt (hi_le a 32) ha
  have q12 := fun (j : Nat) (hj : j < 32) w => Lib.hid (RefBit_any a (j : Int) w ha (by omega) (by omega))
  go_enter Tryz.func122, Tryz.ntmps122
  go_wp2_with fail
  go_loop [6, 7] (fun x m => ∃ j : Nat, j ≤ 32 ∧ m = .int .i64 (j : Int) ∧ x = .int .i64 ((nf a 32 j : Nat) : Int)) (fun _ m => 32 - (intOf m).toNat)
  case atStart => exact ⟨0, by omega, rfl, by rw [e0.out]; rfl⟩
  case round =>
    obtain ⟨j, hj, rfl, rfl⟩ := hrel
    by_cases hz : j = 32
    · subst hz
      rw [e1.out]
      clear q12
      go_wp2
      exact bodyPost_ret (v := .agg #[.int .u32 ((hi a 32 : Nat) : Int), .int .i64 ((32 : Nat) : Int)]) (by simp [results, Tryz.results122, go_sem]) rfl ⟨rfl, (Below.refl _ _).alloc (Nat.le_refl _) _⟩
    · have hX1 := nf_le a (k := 32) hj
      have hj32 : (j : Int) < 32 := by omega
      have hX3 := nf_le a (k := 32) (j := j + 1) (by omega)
      by_cases hjk : j < 32
      · have hst := nf_lt a hjk hle
        have hlt : (j : Int) < 32 := by omega
        have h12 := q12 j (by omega)
        rw [bitI_in (by omega)] at h12
        clear q12
        obtain ⟨b, hb⟩ : ∃ b, b = a / 2 ^ (31 - j) % 2 := ⟨_, rfl⟩
        obtain ⟨X, hX⟩ : ∃ X, X = nf a 32 j := ⟨_, rfl⟩
        obtain ⟨Y, hY⟩ : ∃ Y, Y = nf a 32 (j + 1) := ⟨_, rfl⟩
        have hb2 : b < 2 := by rw [hb]; exact Nat.mod_lt _ (by decide)
        rw [← hX] at hX1 hst ⊢
        rw [← hY] at hst hX3
        rw [← hb] at hst h12
        have HX := Lib.hid hX; have HY := Lib.hid hY; have HB := Lib.hid hb
        clear hX hY hb
        go_wp2_with fail
        refine (h12 _).out.mono ?_
        rintro e w1 ⟨rfl, rfl⟩
        go_wp2_with fail
        go_round
        case rel => exact ⟨j + 1, by omega, by go_num, by rw [← HY.out, hst]; go_num⟩
        case measure => simp [intOf]; omega
      · exact absurd (show j < 32 by omega) hjk

theorem RefNorm_any (a : Nat) (n : Int) (w : World) (ha : a < 4294967296) :
    Calls Tryz.prog 122 #[.int .u32 (a : Int), .int .i64 n] w (RetPfx w (hi a (cl n)) (cl n : Nat)) := by
  rcases (show n < 0 ∨ 32 < n ∨ (0 ≤ n ∧ n ≤ 32) by omega) with h | h | ⟨h, h2⟩
  · rw [cl_neg h]; exact RefNorm_neg a n h w ha
  · rw [cl_big h]; exact RefNorm_big a n h w ha
  · obtain ⟨k, rfl⟩ := Int.eq_ofNat_of_zero_le h
    rw [cl_nat (by omega)]; exact RefNorm_mid a k (by omega) w ha
end Go.Proofs.YtnaangnmlbgmkaaGreatDoor

/-
  Attributes' small functions: which next ones may be, what nothing says, the document's flags.
-/
namespace Go.Proofs.YtnaangnmlbgmkaaGreatDoor
set_option linter.unusedVariables false
set_option linter.unusedSimpArgs false
open Go.RowKit

/-- A known kind's flags; 0: it is not known. -/
def flagsF (k : Int) : Int := if k = 1 then 64 else if k = 2 then 64 else if k = 3 then 64 else if k = 5 then 64 else if k = 6 then 64 else if k = 4 then 128 else if k = 7 then 192 else if k = 8 then 192 else if k = 17 then 192 else if k = 18 then 192 else 0
theorem known_flags (k : Int) : knownB k = (flagsF k != 0) := by
  by_cases h1 : k = 1
  · subst h1; rfl
  by_cases h2 : k = 2
  · subst h2; rfl
  by_cases h3 : k = 3
  · subst h3; rfl
  by_cases h5 : k = 5
  · subst h5; rfl
  by_cases h6 : k = 6
  · subst h6; rfl
  by_cases h4 : k = 4
  · subst h4; rfl
  by_cases h7 : k = 7
  · subst h7; rfl
  by_cases h8 : k = 8
  · subst h8; rfl
  by_cases h17 : k = 17
  · subst h17; rfl
  by_cases h18 : k = 18
  · subst h18; rfl
  have e : flagsF k = 0 := by unfold flagsF; simp [h1, h2, h3, h5, h6, h4, h7, h8, h17, h18]
  rw [e]
  unfold knownB lookN looksL
  have f : ∀ c : Int, ¬ k = c → (c == k) = false := fun c h => by simpa using fun e => h e.symm
  simp [List.find?, f 1 h1, f 2 h2, f 3 h3, f 5 h5, f 6 h6, f 4 h4, f 7 h7, f 8 h8, f 17 h17, f 18 h18]
set_option maxHeartbeats 1600000 in
theorem RefFlags_any (k : Int) (w : World) :
    Calls Tryz.prog 35 #[.int .i64 k] w fun e w' => e = .returned (.int .i64 (flagsF k)) ∧ w = w' := by
  by_cases h1 : k = 1
  · subst h1
    go_enter Tryz.func35, Tryz.ntmps35
    go_wp2_with fail
    go_ret
    exact ⟨rfl, rfl⟩
  by_cases h2 : k = 2
  · subst h2
    go_enter Tryz.func35, Tryz.ntmps35
    go_wp2_with fail
    go_ret
    exact ⟨rfl, rfl⟩
  by_cases h3 : k = 3
  · subst h3
    go_enter Tryz.func35, Tryz.ntmps35
    go_wp2_with fail
    go_ret
    exact ⟨rfl, rfl⟩
  by_cases h5 : k = 5
  · subst h5
    go_enter Tryz.func35, Tryz.ntmps35
    go_wp2_with fail
    go_ret
    exact ⟨rfl, rfl⟩
  by_cases h6 : k = 6
  · subst h6
    go_enter Tryz.func35, Tryz.ntmps35
    go_wp2_with fail
    go_ret
    exact ⟨rfl, rfl⟩
  by_cases h4 : k = 4
  · subst h4
    go_enter Tryz.func35, Tryz.ntmps35
    go_wp2_with fail
    go_ret
    exact ⟨rfl, rfl⟩
  by_cases h7 : k = 7
  · subst h7
    go_enter Tryz.func35, Tryz.ntmps35
    go_wp2_with fail
    go_ret
    exact ⟨rfl, rfl⟩
  by_cases h8 : k = 8
  · subst h8
    go_enter Tryz.func35, Tryz.ntmps35
    go_wp2_with fail
    go_ret
    exact ⟨rfl, rfl⟩
  by_cases h17 : k = 17
  · subst h17
    go_enter Tryz.func35, Tryz.ntmps35
    go_wp2_with fail
    go_ret
    exact ⟨rfl, rfl⟩
  by_cases h18 : k = 18
  · subst h18
    go_enter Tryz.func35, Tryz.ntmps35
    go_wp2_with fail
    go_ret
    exact ⟨rfl, rfl⟩
  have e := Lib.hid (show flagsF k = 0 by unfold flagsF; simp [h1, h2, h3, h5, h6, h4, h7, h8, h17, h18])
  have e1 : (k == 1) = false := by simpa using h1
  have e2 : (k == 2) = false := by simpa using h2
  have e3 : (k == 3) = false := by simpa using h3
  have e5 : (k == 5) = false := by simpa using h5
  have e6 : (k == 6) = false := by simpa using h6
  have e4 : (k == 4) = false := by simpa using h4
  have e7 : (k == 7) = false := by simpa using h7
  have e8 : (k == 8) = false := by simpa using h8
  have e17 : (k == 17) = false := by simpa using h17
  have e18 : (k == 18) = false := by simpa using h18
  go_enter Tryz.func35, Tryz.ntmps35
  go_wp2_with fail
  go_ret
  exact ⟨by rw [e.out]; rfl, rfl⟩

theorem dec224 (q : Nat) : (!false && !false && decide (q < 224)) = decide ((q : Int) < 224) := by
  by_cases h : q < 224
  · rw [decide_eq_true h, decide_eq_true (show (q : Int) < 224 by omega)]; rfl
  · rw [decide_eq_false h, decide_eq_false (show ¬ (q : Int) < 224 by omega)]; rfl
/-- May a number be a next one? -/
def nextB (n : Nat) : Bool := !(n / 16777216 == 0) && !(n / 16777216 == 127) && decide (n / 16777216 < 224)
set_option maxHeartbeats 1600000 in
theorem RefNext_any (n : Nat) (w : World) (hn : n < 4294967296) :
    Calls Tryz.prog 11 #[.int .u32 (n : Int)] w fun e w' => e = .returned (.bool (nextB n)) ∧ w = w' := by
  have hi : (n : Int) ≤ 4294967295 := by omega
  have hd : ((n : Int) / 16777216) = ((n / 16777216 : Nat) : Int) := by omega
  have HV := Lib.hid (show nextB n = (!(n / 16777216 == 0) && !(n / 16777216 == 127) && decide (n / 16777216 < 224)) from rfl)
  have hq : n / 16777216 < 256 := by omega
  obtain ⟨q, hqq⟩ : ∃ q, q = n / 16777216 := ⟨_, rfl⟩
  rw [← hqq] at hd HV hq
  have HD := Lib.hid hd
  by_cases h0 : q = 0
  · have e0 : ((q : Int) != 0) = false := by simp [h0]
    have HE := Lib.hid (show nextB n = false by rw [HV.out]; simp [h0])
    clear HV hqq
    go_enter Tryz.func11, Tryz.ntmps11
    go_wp2_with fail
    go_ret
    exact ⟨by rw [HE.out]; rfl, rfl⟩
  · have e0 : ((q : Int) != 0) = true := by simp; omega
    by_cases h1 : q = 127
    · have e1 : ((q : Int) != 127) = false := by simp [h1]
      have HE := Lib.hid (show nextB n = false by rw [HV.out]; simp [h1])
      clear HV hqq
      go_enter Tryz.func11, Tryz.ntmps11
      go_wp2_with fail
      go_ret
      exact ⟨by rw [HE.out]; rfl, rfl⟩
    · have e1 : ((q : Int) != 127) = true := by simp; omega
      have HE := Lib.hid (show nextB n = decide ((q : Int) < 224) by rw [HV.out, show (q == 0) = false from by simpa using h0, show (q == 127) = false from by simpa using h1]; exact dec224 q)
      clear HV hqq
      go_enter Tryz.func11, Tryz.ntmps11
      go_wp2_with fail
      go_ret
      exact ⟨by rw [HE.out]; rfl, rfl⟩
set_option maxHeartbeats 1600000 in
theorem Next_any (n : Nat) (w : World) (hn : n < 4294967296) :
    Calls Tryz.prog 128 #[.int .u32 (n : Int)] w fun e w' => e = .returned (.bool (nextB n)) ∧ w = w' := by
  have hi : (n : Int) ≤ 4294967295 := by omega
  have hd : ((n : Int) / 16777216) = ((n / 16777216 : Nat) : Int) := by omega
  have HV := Lib.hid (show nextB n = (!(n / 16777216 == 0) && !(n / 16777216 == 127) && decide (n / 16777216 < 224)) from rfl)
  have hq : n / 16777216 < 256 := by omega
  obtain ⟨q, hqq⟩ : ∃ q, q = n / 16777216 := ⟨_, rfl⟩
  rw [← hqq] at hd HV hq
  have HD := Lib.hid hd
  by_cases h0 : q = 0
  · have e0 : ((q : Int) != 0) = false := by simp [h0]
    have HE := Lib.hid (show nextB n = false by rw [HV.out]; simp [h0])
    clear HV hqq
    go_enter Tryz.func128, Tryz.ntmps128
    go_wp2_with fail
    go_ret
    exact ⟨by rw [HE.out]; rfl, rfl⟩
  · have e0 : ((q : Int) != 0) = true := by simp; omega
    by_cases h1 : q = 127
    · have e1 : ((q : Int) != 127) = false := by simp [h1]
      have HE := Lib.hid (show nextB n = false by rw [HV.out]; simp [h1])
      clear HV hqq
      go_enter Tryz.func128, Tryz.ntmps128
      go_wp2_with fail
      go_ret
      exact ⟨by rw [HE.out]; rfl, rfl⟩
    · have e1 : ((q : Int) != 127) = true := by simp; omega
      have HE := Lib.hid (show nextB n = decide ((q : Int) < 224) by rw [HV.out, show (q == 0) = false from by simpa using h0, show (q == 127) = false from by simpa using h1]; exact dec224 q)
      clear HV hqq
      go_enter Tryz.func128, Tryz.ntmps128
      go_wp2_with fail
      go_ret
      exact ⟨by rw [HE.out]; rfl, rfl⟩

/-- Attributes of which nothing is said, as a row. -/
def zeroRow : List Value := [.int .i64 0, .slice none 0 0, .int .u32 0, .int .i64 (-1), .int .i64 (-1), .bool false, .bool false, .int .u32 0, .int .u32 0, .slice none 0 0, .slice none 0 0]
set_option maxHeartbeats 1600000 in
theorem Zero_any (w : World) :
    Calls Tryz.prog 58 #[] w fun e w' => e = .returned (.agg zeroRow.toArray) ∧ Below w.heap.size w w' := by
  have hb0 := (Below.refl w.heap.size w).alloc (Nat.le_refl _) (.cells zeroRow.toArray 28)
  unfold zeroRow at hb0 ⊢
  go_enter Tryz.func58, Tryz.ntmps58
  go_wp2_with fail
  exact bodyPost_ret (v := .agg #[.int .i64 0, .slice none 0 0, .int .u32 0, .int .i64 (-1), .int .i64 (-1), .bool false, .bool false, .int .u32 0, .int .u32 0, .slice none 0 0, .slice none 0 0]) (by simp [results, Tryz.results58, go_sem, *]) rfl ⟨rfl, hb0⟩
end Go.Proofs.YtnaangnmlbgmkaaGreatDoor

/-
  An attribute's bytes, as the program puts them.
-/
namespace Go.Proofs.YtnaangnmlbgmkaaGreatDoor
set_option linter.unusedVariables false
set_option linter.unusedSimpArgs false
open Go.RowKit

/-- Two, and three bytes in a block of their own. -/
theorem bytes_two (w : World) (e : TypeId) {a b : Nat} (ha : a < 256) (hb : b < 256) : Bytes (w.alloc (.cells #[.int .u8 (a : Int), .int .u8 (b : Int)] e)) (some ⟨w.heap.size, 0, none⟩) [UInt8.ofNat a, UInt8.ofNat b] := by
  intro _
  refine ⟨w.heap.size, 0, rfl, by simp, fun j hj => ?_⟩
  have hk := Blk.new w e [.int .u8 (a : Int), .int .u8 (b : Int)]
  rcases (show j = 0 ∨ j = 1 by simp at hj; omega) with rfl | rfl
  · refine (hk.cell 0).trans ?_
    have : a % 256 = a := Nat.mod_eq_of_lt ha
    simp [this]
  · refine (hk.cell 1).trans ?_
    have : b % 256 = b := Nat.mod_eq_of_lt hb
    simp [this]
theorem bytes_three (w : World) (e : TypeId) {a b c : Nat} (ha : a < 256) (hb : b < 256) (hc : c < 256) : Bytes (w.alloc (.cells #[.int .u8 (a : Int), .int .u8 (b : Int), .int .u8 (c : Int)] e)) (some ⟨w.heap.size, 0, none⟩) [UInt8.ofNat a, UInt8.ofNat b, UInt8.ofNat c] := by
  intro _
  refine ⟨w.heap.size, 0, rfl, by simp, fun j hj => ?_⟩
  have hk := Blk.new w e [.int .u8 (a : Int), .int .u8 (b : Int), .int .u8 (c : Int)]
  rcases (show j = 0 ∨ j = 1 ∨ j = 2 by simp at hj; omega) with rfl | rfl | rfl
  · refine (hk.cell 0).trans ?_
    have : a % 256 = a := Nat.mod_eq_of_lt ha
    simp [this]
  · refine (hk.cell 1).trans ?_
    have : b % 256 = b := Nat.mod_eq_of_lt hb
    simp [this]
  · refine (hk.cell 2).trans ?_
    have : c % 256 = c := Nat.mod_eq_of_lt hc
    simp [this]
/-- An attribute's bytes. -/
def wholeL (f k : Nat) (v : List UInt8) : List UInt8 :=
  if 255 < v.length then [UInt8.ofNat (f + 16), UInt8.ofNat k] ++ (be16 (v.length : Int) ++ v) else [UInt8.ofNat f, UInt8.ofNat k, UInt8.ofNat v.length] ++ v
theorem wholeL_len (f k : Nat) (v : List UInt8) : (wholeL f k v).length ≤ v.length + 4 := by
  unfold wholeL be16
  split <;> simp <;> omega
theorem or16 (f : Nat) (hf : f = 64 ∨ f = 128 ∨ f = 192 ∨ f = 224) : bits .or .i64 (f : Int) 16 = ((f + 16 : Nat) : Int) := by
  rcases hf with rfl | rfl | rfl | rfl <;> decide
theorem wrapU8 {x : Nat} (h : x < 256) : IntKind.u8.wrap (x : Int) = (x : Int) := by
  unfold IntKind.wrap
  simp only [IntKind.bits, IntKind.signed]
  first | omega | (simp; omega)
set_option maxHeartbeats 3200000 in
theorem whole_short (f k : Nat) (A : Option Addr) (c : Nat) (v : List UInt8) (w : World) (hf : f < 256) (hk : k < 256) (hl : v.length ≤ 255) (h : Bytes w A v) :
    Calls Tryz.prog 78 #[.int .i64 (f : Int), .int .i64 (k : Int), .slice A v.length c] w (RetBytes w (wholeL f k v)) := by
  have hlI : ¬ (255 : Int) < (v.length : Int) := by omega
  have hl9 : v.length < 256 := by omega
  have w1 := wrapU8 hf
  have w2 := wrapU8 hk
  have w3 := wrapU8 hl9
  have hw : wholeL f k v = [UInt8.ofNat f, UInt8.ofNat k, UInt8.ofNat v.length] ++ v := by unfold wholeL; rw [if_neg (by omega)]
  have hb1 := (Below.refl w.heap.size w).alloc (Nat.le_refl _) (.cells #[.int .u8 (f : Int), .int .u8 (k : Int), .int .u8 (v.length : Int)] 5)
  have hy := bytes_three w 5 hf hk hl9
  obtain ⟨W1, hW1⟩ : ∃ W1, W1 = w.alloc (.cells #[.int .u8 (f : Int), .int .u8 (k : Int), .int .u8 (v.length : Int)] 5) := ⟨_, rfl⟩
  have hz : W1.heap.size = w.heap.size + 1 := by rw [hW1]; simp
  rw [← hW1] at hb1 hy
  have hb2 := (Below.refl W1.heap.size W1).alloc (Nat.le_refl _) (.cells #[.slice (some ⟨w.heap.size, 0, none⟩) 3 3, .slice A v.length c] 33)
  have hk2 := Blk.new W1 33 [.slice (some ⟨w.heap.size, 0, none⟩) 3 3, .slice A v.length c]
  have hb12 := hb1.trans (hb2.mono hb1.size)
  have q := ConcatN_any W1.heap.size 2 2 [(some ⟨w.heap.size, 0, none⟩, 3, [UInt8.ofNat f, UInt8.ofNat k, UInt8.ofNat v.length]), (A, c, v)] (W1.alloc (.cells #[.slice (some ⟨w.heap.size, 0, none⟩) 3 3, .slice A v.length c] 33)) rfl
    (sls_of_blk (by simpa using hk2) (by
      intro x hx
      simp only [List.mem_cons, List.not_mem_nil, or_false] at hx
      rcases hx with rfl | rfl
      · exact hy.below hb2
      · exact h.below hb12)) (by simp [joinB]; omega) (by simp)
  have hj : joinB [((some ⟨w.heap.size, 0, none⟩ : Option Addr), 3, [UInt8.ofNat f, UInt8.ofNat k, UInt8.ofNat v.length]), (A, c, v)] = wholeL f k v := by
    rw [hw]; simp [joinB]
  rw [hj, hz] at q
  have Q := Lib.hid q; have HB := Lib.hid hb12
  clear q hj hb12 hk2 hb2 hz hy hb1 h hw hf hk hl9 hl
  generalize wholeL f k v = L at Q ⊢
  subst hW1
  go_enter Tryz.func78, Tryz.ntmps78
  go_wp2_with fail
  refine Q.out.mono ?_
  rintro e w6 ⟨A6, c6, rfl, f6, g6, ho6, hb6⟩
  have HO6 := Lib.hid ho6; have HB6 := Lib.hid hb6
  clear ho6 hb6 Q
  go_wp2_with fail
  go_ret
  exact ⟨A6, c6, rfl, f6, g6, HO6.out.lower HB.out.size, HB.out.trans (HB6.out.mono HB.out.size)⟩
set_option maxHeartbeats 3200000 in
theorem whole_long (f k : Nat) (A : Option Addr) (c : Nat) (v : List UInt8) (w : World) (hf : f = 64 ∨ f = 128 ∨ f = 192 ∨ f = 224) (hk : k < 256) (hl : 255 < v.length) (hl2 : v.length ≤ 1000000) (h : Bytes w A v) :
    Calls Tryz.prog 78 #[.int .i64 (f : Int), .int .i64 (k : Int), .slice A v.length c] w (RetBytes w (wholeL f k v)) := by
  have hlI : (255 : Int) < (v.length : Int) := by omega
  have e16 := or16 f hf
  have hf16 : f + 16 < 256 := by omega
  have w1 := wrapU8 hf16
  have w2 := wrapU8 hk
  have hw : wholeL f k v = [UInt8.ofNat (f + 16), UInt8.ofNat k] ++ (be16 (v.length : Int) ++ v) := by unfold wholeL; rw [if_pos hl]
  have hb1 := (Below.refl w.heap.size w).alloc (Nat.le_refl _) (.cells #[.int .u8 ((f + 16 : Nat) : Int), .int .u8 (k : Int)] 5)
  have hy := bytes_two w 5 hf16 hk
  obtain ⟨F, hF⟩ : ∃ F, F = f + 16 := ⟨_, rfl⟩
  rw [← hF] at e16 w1 hb1 hy hw hf16
  obtain ⟨W1, hW1⟩ : ∃ W1, W1 = w.alloc (.cells #[.int .u8 (F : Int), .int .u8 (k : Int)] 5) := ⟨_, rfl⟩
  rw [← hW1] at hb1 hy
  have Q1 := Lib.hid (Put16_any none 0 0 [] rfl (v.length : Int) W1 (by simp) (Bytes.nil _ _) (by omega) (by omega))
  have HB1 := Lib.hid hb1; have HY := Lib.hid hy; have H := Lib.hid h; have HW := Lib.hid hw
  have HL2 := Lib.hid hl2
  clear hb1 hy h hw hF hf hf16 hk hl hl2
  subst hW1
  go_enter Tryz.func78, Tryz.ntmps78
  go_wp2_with fail
  refine Q1.out.mono ?_
  rintro e w3 ⟨A3, c3, rfl, f3, g3, ho3, hb3⟩
  have hz3 : ([] ++ be16 (v.length : Int) : List UInt8).length = 2 := rfl
  have hb2 := (Below.refl w3.heap.size w3).alloc (Nat.le_refl _) (.cells #[.slice (some ⟨w.heap.size, 0, none⟩) 2 2, .slice A3 (be16 (v.length : Int)).length c3, .slice A v.length c] 33)
  have hk2 := Blk.new w3 33 [.slice (some ⟨w.heap.size, 0, none⟩) 2 2, .slice A3 (be16 (v.length : Int)).length c3, .slice A v.length c]
  have hb13 := HB1.out.trans (hb3.mono HB1.out.size)
  have hb12 := hb13.trans (hb2.mono hb13.size)
  have hy3 := ho3.bytes
  have q := ConcatN_any w3.heap.size 3 3 [(some ⟨w.heap.size, 0, none⟩, 2, [UInt8.ofNat F, UInt8.ofNat k]), (A3, c3, be16 (v.length : Int)), (A, c, v)] (w3.alloc (.cells #[.slice (some ⟨w.heap.size, 0, none⟩) 2 2, .slice A3 (be16 (v.length : Int)).length c3, .slice A v.length c] 33)) rfl
    (sls_of_blk (by simpa [be16] using hk2) (by
      intro x hx
      simp only [List.mem_cons, List.not_mem_nil, or_false] at hx
      rcases hx with rfl | rfl | rfl
      · exact (HY.out.below hb3).below hb2
      · exact Bytes.below (l := be16 (v.length : Int)) hy3 hb2
      · exact H.out.below hb12)) (by have := HL2.out; simp [joinB, be16]; omega) (by simp)
  have hj : joinB [((some ⟨w.heap.size, 0, none⟩ : Option Addr), 2, [UInt8.ofNat F, UInt8.ofNat k]), (A3, c3, be16 (v.length : Int)), (A, c, v)] = wholeL f k v := by
    rw [HW.out]; simp [joinB]
  rw [hj] at q
  have Q := Lib.hid q; have HB := Lib.hid hb12
  clear q hj hb12 hk2 hb2 hb13 hb3 ho3 hy3 f3 g3 Q1
  go_wp2_with fail
  refine Q.out.mono ?_
  rintro e w6 ⟨A6, c6, rfl, f6, g6, ho6, hb6⟩
  have HO6 := Lib.hid ho6; have HB6 := Lib.hid hb6
  clear ho6 hb6 Q
  go_wp2_with fail
  go_ret
  exact ⟨A6, c6, rfl, f6, g6, HO6.out.lower HB.out.size, HB.out.trans (HB6.out.mono HB.out.size)⟩
theorem whole_any (f k : Nat) (A : Option Addr) (c : Nat) (v : List UInt8) (w : World) (hf : f = 64 ∨ f = 128 ∨ f = 192 ∨ f = 224) (hk : k < 256) (hl : v.length ≤ 1000000) (h : Bytes w A v) :
    Calls Tryz.prog 78 #[.int .i64 (f : Int), .int .i64 (k : Int), .slice A v.length c] w (RetBytes w (wholeL f k v)) := by
  by_cases h5 : 255 < v.length
  · exact whole_long f k A c v w hf hk h5 hl h
  · exact whole_short f k A c v w (by omega) hk (by omega) h
end Go.Proofs.YtnaangnmlbgmkaaGreatDoor

/-
  Bytes that are gathered by a closure.
-/
namespace Go.Proofs.YtnaangnmlbgmkaaGreatDoor
set_option linter.unusedVariables false
set_option linter.unusedSimpArgs false
open Go.RowKit

/-- Block g holds a slice of the call's own, with the bytes l. -/
def OutAt (B : Nat) (W : World) (g : Nat) (v : Value) (l : List UInt8) : Prop := Blk W g 33 [v] ∧ Own W B 5 v l
/-- Nothing has turned but block g, and the row of v. -/
structure KpO (g : Nat) (v : Value) (W W' : World) : Prop where
  size : W.heap.size ≤ W'.heap.size
  block : ∀ k, k < W.heap.size → k ≠ g → v.ownBlock ≠ some k → W'.heap[k]? = W.heap[k]?
theorem KpO.blk {g k T : Nat} {v : Value} {W W' : World} {cs : List Value} {B : Nat} {l : List UInt8} (h : KpO g v W W') (hk : Blk W k T cs) (hg : k ≠ g) (ho : Own W B 5 v l) (hT : 5 ≠ T) : Blk W' k T cs :=
  (h.block k hk.lt hg (ho.ne_blk hk hT)).trans hk
/-- What the closure leaves that puts an attribute. -/
def PutRet (w W : World) (g : Nat) (v : Value) (l : List UInt8) (e : Ending) (W' : World) : Prop :=
  e = .returned (.tuple #[]) ∧ Below w.heap.size w W' ∧ KpO g v W W' ∧ ∃ v', OutAt w.heap.size W' g v' l
set_option maxHeartbeats 800000 in
/-- An attribute that is not there. -/
theorem put1_no (w W : World) (k : Int) (f : Value) (g : Nat) (v : Value) (l : List UInt8) (hb : Below w.heap.size w W) (h : OutAt w.heap.size W g v l) :
    Calls Tryz.prog 76 #[.bool false, .int .i64 k, f, .pointer (some ⟨g, 0, none⟩)] W (PutRet w W g v l) := by
  have HB := Lib.hid hb; have H := Lib.hid h
  clear hb h
  go_enter Tryz.func76, Tryz.ntmps76
  go_wp2_with fail
  refine bodyPost_ret (results_none rfl _ _ _) rfl ?_
  exact ⟨rfl, HB.out, ⟨Nat.le_refl _, fun _ _ _ _ => rfl⟩, v, H.out⟩
end Go.Proofs.YtnaangnmlbgmkaaGreatDoor

/-
  Which path bytes are: what aspath.Read answers, as a function of lists.
-/
namespace Go.Proofs.YtnaangnmlbgmkaaGreatDoor
set_option linter.unusedVariables false
set_option linter.unusedSimpArgs false
open Go.RowKit

theorem rdTake_rest (l : List UInt8) (s : Bool) (n : Int) : (rdTake l s n).2.1.length ≤ l.length := by
  unfold rdTake
  by_cases hn : 0 ≤ n ∧ n ≤ l.length
  · rw [if_pos hn]; simp
  · rw [if_neg hn]; simp
theorem rdTake_one {l : List UInt8} (s : Bool) (h : l ≠ []) : (rdTake l s 1).2.1.length + 1 = l.length ∧ (rdTake l s 1).2.2 = s := by
  have h1 : 0 < l.length := List.length_pos_iff.2 h
  unfold rdTake
  rw [if_pos ⟨by omega, by omega⟩]
  simp
  omega
theorem rdTake_app (a r : List UInt8) (s : Bool) (n : Int) (hn : n = (a.length : Int)) : rdTake (a ++ r) s n = (a, r, s) := by
  subst hn
  unfold rdTake
  rw [if_pos ⟨by omega, by rw [List.length_append]; omega⟩]
  simp
/-- Numbers that are read, one after another: these, what is left, is it short? -/
def numsS (wide : Bool) (l : List UInt8) (s : Bool) : Nat → List Nat × List UInt8 × Bool
  | 0 => ([], l, s)
  | n + 1 => ((numsS wide l s n).1 ++ [num (rdTake (numsS wide l s n).2.1 (numsS wide l s n).2.2 (nextN wide)).1], (rdTake (numsS wide l s n).2.1 (numsS wide l s n).2.2 (nextN wide)).2)
theorem numsS_len (wide : Bool) (l : List UInt8) (s : Bool) (n : Nat) : (numsS wide l s n).1.length = n ∧ (numsS wide l s n).2.1.length ≤ l.length := by
  induction n with
  | zero => simp [numsS]
  | succ n ih =>
    have := rdTake_rest (numsS wide l s n).2.1 (numsS wide l s n).2.2 (nextN wide)
    simp only [numsS, List.length_append, List.length_cons, List.length_nil]
    omega
theorem num_take_lt (l : List UInt8) (s : Bool) (wide : Bool) : num (rdTake l s (nextN wide)).1 < 4294967296 := by
  have := (rdTake_len l s (nextN wide)).2
  refine num_lt4 ?_
  unfold nextN at this ⊢
  split at this <;> split <;> first | omega | (simp_all; done)
theorem num_one_lt (l : List UInt8) (s : Bool) : num (rdTake l s 1).1 < 256 := by
  have := (rdTake_len l s 1).2
  obtain ⟨x, hx⟩ : ∃ x, x = (rdTake l s 1).1 := ⟨_, rfl⟩
  rw [← hx] at this ⊢
  match x, this with
  | [], _ => decide
  | [b], _ => simpa [num] using b.toNat_lt
  | a :: b :: r, h => simp at h; omega
theorem numsS_fit (wide : Bool) (l : List UInt8) (s : Bool) (n : Nat) : ∀ x ∈ (numsS wide l s n).1, x < 4294967296 := by
  induction n with
  | zero => intro x hx; simp [numsS] at hx
  | succ n ih =>
    intro x hx
    simp only [numsS] at hx
    rcases List.mem_append.1 hx with h | h
    · exact ih x h
    · obtain rfl := List.mem_singleton.1 h
      exact num_take_lt _ _ _

/-- A reader of segments: those that it has read, what is left, is it short? -/
abbrev RdSt := List (Int × List Nat) × List UInt8 × Bool
/-- What one segment's head takes: its kind, then how many numbers. -/
def headS (l : List UInt8) (s : Bool) : (Nat × Nat) × List UInt8 × Bool := ((num (rdTake l s 1).1, num (rdTake (rdTake l s 1).2.1 (rdTake l s 1).2.2 1).1), (rdTake (rdTake l s 1).2.1 (rdTake l s 1).2.2 1).2)
def readStep (wide : Bool) (t : RdSt) : RdSt :=
  (t.1 ++ [(((headS t.2.1 t.2.2).1.1 : Int), (numsS wide (headS t.2.1 t.2.2).2.1 (headS t.2.1 t.2.2).2.2 (headS t.2.1 t.2.2).1.2).1)], (numsS wide (headS t.2.1 t.2.2).2.1 (headS t.2.1 t.2.2).2.2 (headS t.2.1 t.2.2).1.2).2)
def readGo (wide : Bool) : Nat → RdSt → RdSt
  | 0, t => t
  | n + 1, t => if t.2.1 = [] then t else readGo wide n (readStep wide t)
theorem step_less (wide : Bool) {t : RdSt} (h : t.2.1 ≠ []) : (readStep wide t).2.1.length < t.2.1.length := by
  have h1 := rdTake_one t.2.2 h
  have h2 := rdTake_rest (rdTake t.2.1 t.2.2 1).2.1 (rdTake t.2.1 t.2.2 1).2.2 1
  have h3 := (numsS_len wide (headS t.2.1 t.2.2).2.1 (headS t.2.1 t.2.2).2.2 (headS t.2.1 t.2.2).1.2).2
  have h4 : (headS t.2.1 t.2.2).2.1 = (rdTake (rdTake t.2.1 t.2.2 1).2.1 (rdTake t.2.1 t.2.2 1).2.2 1).2.1 := rfl
  show (numsS wide (headS t.2.1 t.2.2).2.1 (headS t.2.1 t.2.2).2.2 (headS t.2.1 t.2.2).1.2).2.1.length < _
  have h5 := congrArg List.length h4
  omega
theorem readGo_nil (wide : Bool) (n : Nat) {t : RdSt} (h : t.2.1 = []) : readGo wide n t = t := by
  cases n with
  | zero => rfl
  | succ n => rw [readGo, if_pos h]
theorem readGo_any (wide : Bool) : ∀ (n m : Nat) (t : RdSt), t.2.1.length ≤ n → t.2.1.length ≤ m → readGo wide n t = readGo wide m t := by
  intro n
  induction n with
  | zero =>
    intro m t h1 h2
    have e : t.2.1 = [] := List.eq_nil_of_length_eq_zero (by omega)
    rw [readGo_nil wide m e]
    rfl
  | succ n ih =>
    intro m t h1 h2
    by_cases e : t.2.1 = []
    · rw [readGo_nil wide _ e, readGo_nil wide _ e]
    · cases m with
      | zero => exact absurd (List.eq_nil_of_length_eq_zero (by omega)) e
      | succ m =>
        rw [readGo, if_neg e, readGo, if_neg e]
        have := step_less wide e
        exact ih m _ (by omega) (by omega)
theorem readGo_step (wide : Bool) {t : RdSt} (h : t.2.1 ≠ []) : readGo wide t.2.1.length t = readGo wide (readStep wide t).2.1.length (readStep wide t) := by
  obtain ⟨k, hk⟩ : ∃ k, t.2.1.length = k + 1 := ⟨t.2.1.length - 1, by have := List.length_pos_iff.2 h; omega⟩
  rw [hk, readGo, if_neg h]
  have := step_less wide h
  exact readGo_any wide _ _ _ (by omega) (Nat.le_refl _)
/-- All segments that bytes say. -/
def readAll (wide : Bool) (l : List UInt8) : RdSt := readGo wide l.length ([], l, false)
/-- Which path bytes are. -/
def readL (wide : Bool) (l : List UInt8) : Option (List (Int × List Nat)) := if (readAll wide l).2.2 = false ∧ rightA (readAll wide l).1 = true then some (readAll wide l).1 else none

/-- A number, as it is put. -/
def nar (wide : Bool) (x : Nat) : Nat := if wide = true then x else if 65535 < x then 23456 else x
theorem nar_wide (x : Nat) : nar true x = x := by unfold nar; rw [if_pos rfl]
theorem num_numB (wide : Bool) {x : Nat} (hx : x < 4294967296) : num (numB wide x) = nar wide x ∧ ((numB wide x).length : Int) = nextN wide := by
  unfold numB nar nextN
  cases wide with
  | true =>
    refine ⟨?_, rfl⟩
    rw [if_pos rfl, if_pos rfl]
    simp only [num, be32, List.foldl_cons, List.foldl_nil, UInt8.toNat_ofNat']
    omega
  | false =>
    rw [if_neg (show ¬ false = true by decide), if_neg (show ¬ false = true by decide), if_neg (show ¬ false = true by decide)]
    by_cases hb : 65535 < x
    · rw [if_pos hb, if_pos hb]
      refine ⟨?_, rfl⟩
      decide
    · rw [if_neg hb, if_neg hb]
      refine ⟨?_, rfl⟩
      simp only [num, be16, List.foldl_cons, List.foldl_nil, UInt8.toNat_ofNat']
      omega
theorem numsS_put (wide : Bool) (z : List Nat) (hz : ∀ x ∈ z, x < 4294967296) (r : List UInt8) : ∀ k, k ≤ z.length → numsS wide (numsB wide z ++ r) false k = ((z.take k).map (nar wide), numsB wide (z.drop k) ++ r, false) := by
  intro k
  induction k with
  | zero => intro _; simp [numsS]
  | succ k ih =>
    intro hk
    have ih := ih (by omega)
    have e1 : z.drop k = z[k] :: z.drop (k + 1) := List.drop_eq_getElem_cons (by omega)
    have hn := num_numB wide (hz z[k] (List.getElem_mem _))
    have e2 : numsB wide (z.drop k) ++ r = numB wide z[k] ++ (numsB wide (z.drop (k + 1)) ++ r) := by
      rw [e1]
      show (numB wide z[k] ++ numsB wide (z.drop (k + 1))) ++ r = _
      rw [List.append_assoc]
    have e3 : rdTake (numsS wide (numsB wide z ++ r) false k).2.1 (numsS wide (numsB wide z ++ r) false k).2.2 (nextN wide) = (numB wide z[k], numsB wide (z.drop (k + 1)) ++ r, false) := by
      rw [ih]
      show rdTake (numsB wide (z.drop k) ++ r) false (nextN wide) = _
      rw [e2]
      exact rdTake_app _ _ _ _ hn.2.symm
    rw [numsS, e3, ih]
    simp only [Prod.mk.injEq, and_true]
    rw [List.take_succ_eq_append_getElem (by omega), List.map_append, hn.1]
    rfl
/-- What a segment's bytes say. -/
def narS (wide : Bool) (s : Sg) : Int × List Nat := (s.kind, s.nums.map (nar wide))
theorem step_put (wide : Bool) (acc : List (Int × List Nat)) (s : Sg) (r : List UInt8) (hk : 0 ≤ s.kind ∧ s.kind < 256) (hl : s.nums.length < 256) (hz : ∀ x ∈ s.nums, x < 4294967296) :
    readStep wide (acc, (headB s ++ numsB wide s.nums) ++ r, false) = (acc ++ [narS wide s], r, false) := by
  have e1 : (headB s ++ numsB wide s.nums) ++ r = [UInt8.ofNat (s.kind % 256).toNat] ++ ([UInt8.ofNat ((s.nums.length : Int) % 256).toNat] ++ (numsB wide s.nums ++ r)) := by simp [headB]
  have n1 : num [UInt8.ofNat (s.kind % 256).toNat] = s.kind.toNat := by
    simp only [num, List.foldl_cons, List.foldl_nil, UInt8.toNat_ofNat']
    omega
  have n2 : num [UInt8.ofNat ((s.nums.length : Int) % 256).toNat] = s.nums.length := by
    simp only [num, List.foldl_cons, List.foldl_nil, UInt8.toNat_ofNat']
    omega
  have h1 : headS ((headB s ++ numsB wide s.nums) ++ r) false = ((s.kind.toNat, s.nums.length), numsB wide s.nums ++ r, false) := by
    unfold headS
    rw [e1, rdTake_app _ _ _ 1 (by simp)]
    simp only
    rw [rdTake_app _ _ _ 1 (by simp)]
    simp only
    rw [n1, n2]
  unfold readStep
  simp only
  rw [h1]
  simp only
  rw [numsS_put wide s.nums hz r _ (Nat.le_refl _)]
  simp only [List.take_length, List.drop_length, narS]
  refine Prod.ext ?_ (Prod.ext ?_ rfl)
  · show acc ++ [((s.kind.toNat : Int), _)] = _
    rw [Int.toNat_of_nonneg hk.1]
  · simp [numsB]
theorem read_put (wide : Bool) : ∀ (L : List Sg) (acc : List (Int × List Nat)), (∀ s ∈ L, (0 ≤ s.kind ∧ s.kind < 256) ∧ s.nums.length < 256 ∧ ∀ x ∈ s.nums, x < 4294967296) →
    readGo wide (putB wide L).length (acc, putB wide L, false) = (acc ++ L.map (narS wide), [], false) := by
  intro L
  induction L with
  | nil => intro acc _; simp [putB, readGo]
  | cons s L ih =>
    intro acc h
    obtain ⟨h1, h2, h3⟩ := h s (by simp)
    have e : putB wide (s :: L) = (headB s ++ numsB wide s.nums) ++ putB wide L := by simp [putB]
    have hne : ((acc, putB wide (s :: L), false) : RdSt).2.1 ≠ [] := by
      show putB wide (s :: L) ≠ []
      rw [e]
      simp [headB]
    have hst := readGo_step wide hne
    have hs := step_put wide acc s (putB wide L) h1 h2 h3
    rw [← e] at hs
    rw [hs] at hst
    refine hst.trans ?_
    show readGo wide (putB wide L).length (acc ++ [narS wide s], putB wide L, false) = _
    rw [ih _ (fun t ht => h t (by simp [ht]))]
    simp
theorem right_each {L : List Sg} (h : rightB L = true) : L.length ≤ 8 ∧ totN L ≤ 64 ∧ ∀ s ∈ L, (s.kind = 1 ∨ s.kind = 2) ∧ 0 < s.nums.length ∧ s.nums.length ≤ 64 := by
  unfold rightB at h
  simp only [Bool.and_eq_true, decide_eq_true_eq] at h
  refine ⟨h.1, h.2.2, fun s hs => ?_⟩
  have h1 := List.all_eq_true.1 h.2.1 s hs
  obtain ⟨j, hj, hj2⟩ := List.mem_iff_getElem.1 hs
  have h3 : s.nums.length ≤ totN L := nums_le (j := j) (by rw [List.getElem?_eq_getElem hj, hj2])
  unfold okS at h1
  simp only [Bool.and_eq_true, Bool.or_eq_true, beq_iff_eq, bne_iff_ne] at h1
  exact ⟨h1.1, by omega, by omega⟩
/-- A right path that was put is read as it was, but that narrow numbers stand for wide ones. -/
theorem readL_put (wide : Bool) {L : List Sg} (h : rightB L = true) (hz : ∀ s ∈ L, ∀ x ∈ s.nums, x < 4294967296) : readL wide (putB wide L) = some (L.map (narS wide)) := by
  have hr := right_each h
  have e := read_put wide L [] (fun s hs => by
    have h1 := hr.2.2 s hs
    exact ⟨by rcases h1.1 with e | e <;> omega, by omega, hz s hs⟩)
  rw [List.nil_append] at e
  have e2 : readAll wide (putB wide L) = (L.map (narS wide), [], false) := e
  have hra : rightA (L.map (narS wide)) = true := by
    have h2 := h
    unfold rightB at h2
    unfold rightA totA
    rw [List.length_map, List.all_map, List.map_map]
    unfold totN at h2
    have e3 : (List.map ((fun s => s.2.length) ∘ narS wide) L) = L.map fun s => s.nums.length := by
      apply List.map_congr_left
      intro s _
      simp [narS]
    have e4 : L.all (okA ∘ narS wide) = L.all okS := by
      congr 1
      funext s
      simp [okA, okS, narS]
    rw [e3, e4]
    exact h2
  unfold readL
  rw [e2, if_pos ⟨rfl, hra⟩]
theorem narS_wide (L : List Sg) : L.map (narS true) = L.map Sg.abs := by
  apply List.map_congr_left
  intro s _
  have : s.nums.map (nar true) = s.nums := by
    rw [show nar true = id from funext nar_wide]
    simp
  simp [narS, Sg.abs, this]
theorem cnt_nar (wide : Bool) (L : List Sg) : cntA (L.map (narS wide)) = cntN L := by
  unfold cntA cntN
  rw [List.map_map]
  congr 1
  apply List.map_congr_left
  intro s _
  simp [narS, wt]
end Go.Proofs.YtnaangnmlbgmkaaGreatDoor

/-
  Two paths together: as Lean functions (out of lib3's Begin3 and Merge3).
-/
namespace Go.Proofs.YtnaangnmlbgmkaaGreatDoor
set_option linter.unusedVariables false
set_option linter.unusedSimpArgs false
open Go.RowKit

/-- The first parts of a path, of sets and sequences, that count so much. -/
def begL : List (Int × List Nat) → Nat → List (Int × List Nat)
  | [], _ => []
  | s :: r, n => if n = 0 then [] else if s.1 = 2 then (2, s.2.take n) :: begL r (n - s.2.length) else s :: begL r (n - 1)
theorem begL_zero (r : List (Int × List Nat)) : begL r 0 = [] := by cases r <;> simp [begL]
/-- Two paths together. -/
def mergeL (a b : List (Int × List Nat)) : List (Int × List Nat) :=
  if cntA a < cntA b ∨ b = [] ∨ rightA a = false ∨ rightA b = false then a else if rightA (begL a (cntA a - cntA b) ++ b) = true then begL a (cntA a - cntA b) ++ b else a
end Go.Proofs.YtnaangnmlbgmkaaGreatDoor

/-
  The document's reader, told as the reader: what lies before it; and the document's path of bytes as a function of lists.
-/
namespace Go.Proofs.YtnaangnmlbgmkaaGreatDoor
set_option linter.unusedVariables false
set_option linter.unusedSimpArgs false
open Go.RowKit

section
variable {w w' : World} {B g : Nat} {l rest : List UInt8} {s : Bool}
end
theorem rdTake_short (l : List UInt8) (s : Bool) (n : Int) (h : s = true) : (rdTake l s n).2.2 = true := by
  subst h
  unfold rdTake
  split <;> rfl
theorem rdTake_fresh {l : List UInt8} {s : Bool} {n : Int} (h : (rdTake l s n).2.2 = false) : s = false := by
  cases s with
  | false => rfl
  | true => rw [rdTake_short l true n rfl] at h; cases h
theorem numsS_short (wide : Bool) (l : List UInt8) (s : Bool) : ∀ k n, k ≤ n → (numsS wide l s k).2.2 = true → (numsS wide l s n).2.2 = true := by
  intro k n hkn h
  induction n with
  | zero => obtain rfl : k = 0 := by omega
            exact h
  | succ n ih =>
    by_cases e : k = n + 1
    · subst e; exact h
    · simp only [numsS]
      exact rdTake_short _ _ _ (ih (by omega))
theorem step_short (wide : Bool) (t : RdSt) (h : t.2.2 = true) : (readStep wide t).2.2 = true := by
  have h1 : (headS t.2.1 t.2.2).2.2 = true := rdTake_short _ _ _ (rdTake_short _ _ _ h)
  exact numsS_short wide _ _ 0 _ (Nat.zero_le _) h1
theorem readGo_short (wide : Bool) : ∀ n (t : RdSt), t.2.2 = true → (readGo wide n t).2.2 = true := by
  intro n
  induction n with
  | zero => intro t h; exact h
  | succ n ih =>
    intro t h
    rw [readGo]
    split
    · exact h
    · exact ih _ (step_short wide t h)
theorem readGo_len (wide : Bool) : ∀ n (t : RdSt), t.1.length ≤ (readGo wide n t).1.length := by
  intro n
  induction n with
  | zero => intro t; exact Nat.le_refl _
  | succ n ih =>
    intro t
    rw [readGo]
    split
    · exact Nat.le_refl _
    · refine Nat.le_trans ?_ (ih _)
      simp [readStep]
theorem readL_short {wide : Bool} {l : List UInt8} (h : (readAll wide l).2.2 = true) : readL wide l = none := by
  unfold readL
  rw [if_neg]
  rw [h]
  simp
/-- More than eight segments are no path. -/
theorem readL_many {wide : Bool} {l : List UInt8} {t : RdSt} (h : readGo wide t.2.1.length t = readAll wide l) (h9 : 8 < t.1.length) : readL wide l = none := by
  have h1 := readGo_len wide t.2.1.length t
  rw [h] at h1
  unfold readL
  rw [if_neg]
  intro e
  have h2 := e.2
  unfold rightA at h2
  simp only [Bool.and_eq_true, decide_eq_true_eq] at h2
  omega
theorem readL_end {wide : Bool} {l : List UInt8} {t : RdSt} (h : readGo wide t.2.1.length t = readAll wide l) (he : t.2.1 = []) : readL wide l = if t.2.2 = false ∧ rightA t.1 = true then some t.1 else none := by
  rw [readGo_nil wide _ he] at h
  unfold readL
  rw [← h]
end Go.Proofs.YtnaangnmlbgmkaaGreatDoor

/-
  Whether two paths are the same: the program's answer and the document's.
-/
namespace Go.Proofs.YtnaangnmlbgmkaaGreatDoor
set_option linter.unusedVariables false
set_option linter.unusedSimpArgs false
open Go.RowKit

set_option maxHeartbeats 1600000 in
theorem Same1_any (s t : Sg) (w : World) (h : Sg.Ok w w.heap.size s) (h' : Sg.Ok w w.heap.size t) :
    Calls Tryz.prog 111 #[.agg #[.int .i64 s.kind, .slice s.adr s.nums.length s.cap], .agg #[.int .i64 t.kind, .slice t.adr t.nums.length t.cap]] w fun e w' => e = .returned (.bool (sameS s t)) ∧ Below w.heap.size w w' := by
  have hb0 := (Below.refl w.heap.size w).alloc (Nat.le_refl _) (.cells #[.int .i64 s.kind, .slice s.adr s.nums.length s.cap] 112)
  have hb1 := hb0.alloc hb0.size (.cells #[.int .i64 t.kind, .slice t.adr t.nums.length t.cap] 112)
  have c1 := cells2 ((Blk.new w 112 [.int .i64 s.kind, .slice s.adr s.nums.length s.cap]).below ((Below.refl _ _).alloc (Nat.le_refl _) (.cells #[.int .i64 t.kind, .slice t.adr t.nums.length t.cap] 112)) (by simp))
  have c2 := cells2 (Blk.new (w.alloc (.cells #[.int .i64 s.kind, .slice s.adr s.nums.length s.cap] 112)) 112 [.int .i64 t.kind, .slice t.adr t.nums.length t.cap])
  simp only [alloc_sz] at c2
  have hm : s.nums.length ≤ 9223372036854775807 := by have h1 := h.1; have h2 := h.2.1; unfold maxLen at h2; omega
  have Q := Lib.hid (Equal32_any s.adr t.adr s.cap t.cap s.nums t.nums _ ((h.2.2.1.below hb1 (Nat.le_refl _)).lift hb1.size) ((h'.2.2.1.below hb1 (Nat.le_refl _)).lift hb1.size) hm)
  have HB := Lib.hid hb1
  clear h h' hb0 hb1
  by_cases hk : s.kind = t.kind
  · have hk1 : (s.kind == t.kind) = true := by simpa using hk
    have HE := Lib.hid (sameS_nums hk)
    clear hk
    go_enter Tryz.func111, Tryz.ntmps111
    go_wp2_with fail
    refine Q.out.mono ?_
    rintro e w1 ⟨rfl, m, rfl⟩
    go_wp2_with fail
    go_ret
    exact ⟨by rw [HE.out]; rfl, below_drewN HB.out _⟩
  · have hk1 : (s.kind == t.kind) = false := by simpa using hk
    have HE := Lib.hid (sameS_kind hk)
    clear hk
    go_enter Tryz.func111, Tryz.ntmps111
    go_wp2_with fail
    go_ret
    exact ⟨by rw [HE.out]; rfl, HB.out⟩

set_option maxHeartbeats 1600000 in
theorem EqualFunc_any (A A' : Option Addr) (c c' : Nat) (a b : List Sg) (w : World) (h : Segs w w.heap.size A a) (h' : Segs w w.heap.size A' b) (hl : a.length ≤ 1000000000) :
    Calls Tryz.prog 110 #[.slice A a.length c, .slice A' b.length c', .func (.func 111) #[] #[]] w fun e w' => e = .returned (.bool (sameP a b)) ∧ Below w.heap.size w w' := by
  have HS := Lib.hid h; have HS' := Lib.hid h'; clear h h'
  by_cases hlen : a.length = b.length
  · have HL := Lib.hid hlen
    rw [← hlen]
    clear hlen
    go_enter Tryz.func110, Tryz.ntmps110
    go_wp2_with fail
    go_loopw [17] (fun i wr => Below w.heap.size w wr ∧ ∃ j : Nat, j ≤ a.length ∧ i = .int .i64 (j : Int) ∧ Hid ((a.take j).map Sg.abs = (b.take j).map Sg.abs)) (fun i _ => a.length - (intOf i).toNat)
    case atStart => exact ⟨Below.refl _ _, 0, Nat.zero_le _, rfl, Lib.hid rfl⟩
    case round =>
      obtain ⟨hbr, j, hj, rfl, hsm⟩ := hrel
      by_cases hlt : j < a.length
      · obtain ⟨s, hs⟩ : ∃ s, a[j]? = some s := ⟨_, List.getElem?_eq_getElem hlt⟩
        obtain ⟨t, ht⟩ : ∃ t, b[j]? = some t := ⟨_, List.getElem?_eq_getElem (by rw [← HL.out]; exact hlt)⟩
        have S1 := HS.out.below hbr (Nat.le_refl _)
        have S2 := HS'.out.below hbr (Nat.le_refl _)
        obtain ⟨b1, off1, hA1, hb1, k1, k2, hok⟩ := S1.at hs
        obtain ⟨b2, off2, hA2, hb2, k3, k4, hok'⟩ := S2.at ht
        have HST := Lib.hid (sameP_step hs ht hsm.out)
        have hx0 := (Below.refl wr.heap.size wr).alloc (Nat.le_refl _) (.cells #[.int .i64 s.kind, .slice s.adr s.nums.length s.cap] 112)
        have hx1 := hx0.alloc hx0.size (.cells #[.int .i64 t.kind, .slice t.adr t.nums.length t.cap] 112)
        have Q := Lib.hid (Same1_any s t _ (((hok.lift hbr.size).below hx1 (Nat.le_refl _)).lift hx1.size) (((hok'.lift hbr.size).below hx1 (Nat.le_refl _)).lift hx1.size))
        have x3 := (hx0.cell (p := ⟨b2, off2 + j * 2, none⟩) (Nat.lt_of_lt_of_le hb2 hbr.size)).trans k3
        have x4 := (hx0.cell (p := ⟨b2, off2 + j * 2 + 1, none⟩) (Nat.lt_of_lt_of_le hb2 hbr.size)).trans k4
        have c1 := cells2 ((Blk.new wr 112 [.int .i64 s.kind, .slice s.adr s.nums.length s.cap]).below ((Below.refl _ _).alloc (Nat.le_refl _) (.cells #[.int .i64 t.kind, .slice t.adr t.nums.length t.cap] 112)) (by simp))
        have c2 := cells2 (Blk.new (wr.alloc (.cells #[.int .i64 s.kind, .slice s.adr s.nums.length s.cap] 112)) 112 [.int .i64 t.kind, .slice t.adr t.nums.length t.cap])
        simp only [alloc_sz] at c2
        have HX := Lib.hid (hbr.trans (hx1.mono hbr.size))
        have HJ := Lib.hid hlt
        subst hA1; subst hA2
        clear hs ht S1 S2 hok hok' hx0 hx1 hsm hbr
        cases hss : sameS s t with
        | true =>
          rw [hss] at Q
          have HN := Lib.hid (HST.out.1 hss)
          clear hss HST
          go_wp2_with (go_at_call 111; refine Q.out.mono ?_; rintro e w2 ⟨rfl, hb2⟩)
          go_roundw
          case rel => exact ⟨HX.out.trans (hb2.mono HX.out.size), j + 1, HJ.out, by go_num, HN⟩
          case measure => have := HJ.out; simp [intOf]; omega
        | false =>
          rw [hss] at Q
          have HN := Lib.hid (HST.out.2 hss)
          clear hss HST
          go_wp2_with (go_at_call 111; refine Q.out.mono ?_; rintro e w2 ⟨rfl, hb2⟩)
          go_ret
          exact ⟨by rw [HN.out]; rfl, HX.out.trans (hb2.mono HX.out.size)⟩
      · obtain rfl : j = a.length := by omega
        have HE := Lib.hid (sameP_end HL.out hsm.out)
        go_wp2_with fail
        go_ret
        exact ⟨by rw [HE.out]; rfl, hbr⟩
  · have hne : ((a.length : Int) != (b.length : Int)) = true := by simp; omega
    have HE := Lib.hid (sameP_len hlen)
    clear hlen
    go_enter Tryz.func110, Tryz.ntmps110
    go_wp2_with fail
    go_ret
    exact ⟨by rw [HE.out]; rfl, Below.refl _ _⟩

theorem Same3_any (A A' : Option Addr) (c c' : Nat) (a b : List Sg) (w : World) (h : Segs w w.heap.size A a) (h' : Segs w w.heap.size A' b) (hl : a.length ≤ 1000000000) :
    Calls Tryz.prog 69 #[.slice A a.length c, .slice A' b.length c'] w fun e w' => e = .returned (.bool (sameP a b)) ∧ Below w.heap.size w w' := by
  have Q := Lib.hid (EqualFunc_any A A' c c' a b w h h' hl); clear h h'
  go_enter Tryz.func69, Tryz.ntmps69
  go_wp2_with fail
  refine Q.out.mono ?_
  rintro e w1 ⟨rfl, hb1⟩
  go_wp2_with fail
  go_ret
  exact ⟨rfl, hb1⟩
end Go.Proofs.YtnaangnmlbgmkaaGreatDoor

/-
  An update's body out of its parts: the program's.
-/
namespace Go.Proofs.YtnaangnmlbgmkaaGreatDoor
set_option linter.unusedVariables false
set_option linter.unusedSimpArgs false
open Go.RowKit

/-- An update's body. -/
def updB (gone said news : List UInt8) : List UInt8 := be16 (gone.length : Int) ++ (gone ++ (be16 (said.length : Int) ++ (said ++ news)))
set_option maxHeartbeats 1600000 in
theorem body_any (A1 A2 A3 : Option Addr) (c1 c2 c3 : Nat) (l1 l2 l3 : List UInt8) (w : World) (h1 : Bytes w A1 l1) (h2 : Bytes w A2 l2) (h3 : Bytes w A3 l3) (q1 : l1.length ≤ 10000000) (q2 : l2.length ≤ 10000000) (q3 : l3.length ≤ 10000000) :
    Calls Tryz.prog 21 #[.slice A1 l1.length c1, .slice A2 l2.length c2, .slice A3 l3.length c3] w (RetBytes w (updB l1 l2 l3)) := by
  obtain ⟨p1, hp1⟩ : ∃ p, p = be16 (l1.length : Int) := ⟨_, rfl⟩
  obtain ⟨p2, hp2⟩ : ∃ p, p = be16 (l2.length : Int) := ⟨_, rfl⟩
  have e1 : p1.length = 2 := by rw [hp1]; rfl
  have e2 : p2.length = 2 := by rw [hp2]; rfl
  have Q1 := fun W => Lib.hid (show Calls Tryz.prog 48 #[.slice none 0 0, .int .i64 (l1.length : Int)] W (RetBytes W p1) by rw [hp1]; exact Put16_any none 0 0 [] rfl (l1.length : Int) W (by simp) (At.nil _ _ _) (by omega) (by omega))
  have Q2 := fun W => Lib.hid (show Calls Tryz.prog 48 #[.slice none 0 0, .int .i64 (l2.length : Int)] W (RetBytes W p2) by rw [hp2]; exact Put16_any none 0 0 [] rfl (l2.length : Int) W (by simp) (At.nil _ _ _) (by omega) (by omega))
  have HU := Lib.hid (show updB l1 l2 l3 = p1 ++ (l1 ++ (p2 ++ (l2 ++ l3))) by rw [hp1, hp2]; rfl)
  have H1 := Lib.hid h1; have H2 := Lib.hid h2; have H3 := Lib.hid h3
  have HQ := Lib.hid (show l1.length ≤ 10000000 ∧ l2.length ≤ 10000000 ∧ l3.length ≤ 10000000 ∧ p1.length = 2 ∧ p2.length = 2 from ⟨q1, q2, q3, e1, e2⟩)
  clear h1 h2 h3 q1 q2 q3 hp1 hp2 e1 e2
  go_enter Tryz.func21, Tryz.ntmps21
  go_wp2_with fail
  refine (Q1 _).out.mono ?_
  rintro e w1 ⟨A4, c4, rfl, f4, g4, ho4, hb1⟩
  have HO4 := Lib.hid ho4.bytes; have HB1 := Lib.hid hb1
  clear ho4 hb1
  go_wp2_with fail
  refine (Q2 _).out.mono ?_
  rintro e w2 ⟨A5, c5, rfl, f5, g5, ho5, hb2⟩
  have HO5 := Lib.hid ho5.bytes; have HB2 := Lib.hid hb2
  have HBW := Lib.hid (HB1.out.trans (hb2.mono HB1.out.size))
  clear ho5 hb2
  have hL := (Below.refl w2.heap.size w2).alloc (Nat.le_refl _) (.cells #[.slice A4 p1.length c4, .slice A1 l1.length c1, .slice A5 p2.length c5, .slice A2 l2.length c2, .slice A3 l3.length c3] 33)
  have hk := Blk.new w2 33 [.slice A4 p1.length c4, .slice A1 l1.length c1, .slice A5 p2.length c5, .slice A2 l2.length c2, .slice A3 l3.length c3]
  have q5 := ConcatN_any w2.heap.size 5 5 [(A4, c4, p1), (A1, c1, l1), (A5, c5, p2), (A2, c2, l2), (A3, c3, l3)] (w2.alloc (.cells #[.slice A4 p1.length c4, .slice A1 l1.length c1, .slice A5 p2.length c5, .slice A2 l2.length c2, .slice A3 l3.length c3] 33)) rfl
    (sls_of_blk (by simpa using hk) (by
      intro x hx
      simp only [List.mem_cons, List.not_mem_nil, or_false] at hx
      rcases hx with rfl | rfl | rfl | rfl | rfl
      · exact (HO4.out.below HB2.out).below hL
      · exact (H1.out.below HBW.out).below hL
      · exact HO5.out.below hL
      · exact (H2.out.below HBW.out).below hL
      · exact (H3.out.below HBW.out).below hL))
    (by have := HQ.out; simp [joinB]; omega) (by simp)
  rw [show joinB [(A4, c4, p1), (A1, c1, l1), (A5, c5, p2), (A2, c2, l2), (A3, c3, l3)] = updB l1 l2 l3 from by rw [HU.out]; simp [joinB]] at q5
  have Q5 := Lib.hid q5
  have HBL := Lib.hid (HBW.out.trans (hL.mono HBW.out.size))
  clear hL hk q5
  go_wp2_with fail
  refine Q5.out.mono ?_
  rintro e w3 ⟨A6, c6, rfl, f6, g6, ho6, hb3⟩
  have HO6 := Lib.hid (Own.lower ho6 HBL.out.size); have HB3 := Lib.hid (HBL.out.trans (hb3.mono HBL.out.size))
  clear ho6 hb3
  go_wp2_with fail
  go_ret
  exact ⟨_, _, rfl, f6, g6, HO6.out, HB3.out⟩
end Go.Proofs.YtnaangnmlbgmkaaGreatDoor

/-
  Whether two paths are the same, by the document.
-/
namespace Go.Proofs.YtnaangnmlbgmkaaGreatDoor
set_option linter.unusedVariables false
set_option linter.unusedSimpArgs false
open Go.RowKit

theorem nums_quiet {A A' : Option Addr} {c c' : Nat} {y z : List Nat} {w : World} (h : At32 w w.heap.size A y) (h' : At32 w w.heap.size A' z) (hl : y.length ≤ 9223372036854775807) (n : Nat) :
    Calls Tryz.prog 66 #[.slice A y.length c, .slice A' z.length c'] (w.drewN n) fun e w' => e = .returned (.bool (sameZ y z)) ∧ ∃ k, w' = w.drewN k :=
  (Nums_any A A' c c' y z (w.drewN n) h h' hl).mono fun e w' ⟨he, m, hm⟩ => ⟨he, n + m, by rw [hm]; exact World.drewN_drewN _ _ _⟩

set_option maxHeartbeats 3200000 in
theorem RefSame3_any (A A' : Option Addr) (c c' : Nat) (a b : List Sg) (w : World) (h : Segs w w.heap.size A a) (h' : Segs w w.heap.size A' b) (hl : a.length ≤ 1000000000) :
    Calls Tryz.prog 65 #[.slice A a.length c, .slice A' b.length c'] w fun e w' => e = .returned (.bool (sameP a b)) ∧ ∃ m, w' = w.drewN m := by
  have HS := Lib.hid h; have HS' := Lib.hid h'; clear h h'
  by_cases hlen : a.length = b.length
  · have HL := Lib.hid hlen
    rw [← hlen]
    clear hlen
    go_enter Tryz.func65, Tryz.ntmps65
    go_wp2_with fail
    go_loopw [5] (fun i wr => ∃ (j m : Nat), wr = w.drewN m ∧ j ≤ a.length ∧ i = .int .i64 (j : Int) ∧ Hid ((a.take j).map Sg.abs = (b.take j).map Sg.abs)) (fun i _ => a.length - (intOf i).toNat)
    case atStart => exact ⟨0, 0, rfl, Nat.zero_le _, rfl, Lib.hid rfl⟩
    case round =>
      obtain ⟨j, m, hwr, hj, rfl, hsm⟩ := hrel
      have HW := Lib.hid hwr
      have S1 : Segs wr wr.heap.size A a := by rw [hwr]; exact HS.out
      have S2 : Segs wr wr.heap.size A' b := by rw [hwr]; exact HS'.out
      clear hwr
      by_cases hlt : j < a.length
      · obtain ⟨s, hs⟩ : ∃ s, a[j]? = some s := ⟨_, List.getElem?_eq_getElem hlt⟩
        obtain ⟨t, ht⟩ : ∃ t, b[j]? = some t := ⟨_, List.getElem?_eq_getElem (by rw [← HL.out]; exact hlt)⟩
        obtain ⟨b1, off1, hA1, hb1, k1, k2, hok⟩ := S1.at hs
        obtain ⟨b2, off2, hA2, hb2, k3, k4, hok'⟩ := S2.at ht
        have HST := Lib.hid (sameP_step hs ht hsm.out)
        have hm : s.nums.length ≤ 9223372036854775807 := by have h1 := hok.1; have h2 := hok.2.1; unfold maxLen at h2; omega
        have QN := Lib.hid (fun n => nums_quiet (c := s.cap) (c' := t.cap) (w := wr) hok.2.2.1 hok'.2.2.1 hm n)
        have HJ := Lib.hid hlt
        subst hA1; subst hA2
        clear hs ht hok hok' hsm hm S1 S2
        by_cases hk : s.kind = t.kind
        · have hk1 : (s.kind != t.kind) = false := by simpa using hk
          have HK := Lib.hid (sameS_nums hk)
          clear hk
          cases hss : sameZ s.nums t.nums with
          | true =>
            rw [hss] at QN HK
            have HN := Lib.hid (HST.out.1 HK.out)
            clear hss HST
            go_wp2_with fail
            go_quiet ((go_at_call 66; exact QN.out _))
            go_wp2_with fail
            go_roundw
            case rel => exact ⟨j + 1, _, by rw [HW.out]; exact World.drewN_drewN _ _ _, HJ.out, by go_num, HN⟩
            case measure => have := HJ.out; simp [intOf]; omega
          | false =>
            rw [hss] at QN HK
            have HN := Lib.hid (HST.out.2 HK.out)
            clear hss HST
            go_wp2_with fail
            go_quiet ((go_at_call 66; exact QN.out _))
            go_wp2_with fail
            go_ret
            exact ⟨by rw [HN.out]; rfl, _, by rw [HW.out]; exact World.drewN_drewN _ _ _⟩
        · have hk1 : (s.kind != t.kind) = true := by simpa using hk
          have HN := Lib.hid (HST.out.2 (sameS_kind hk))
          clear hk HST
          go_wp2_with fail
          go_quiet (fail)
          go_wp2_with fail
          go_ret
          exact ⟨by rw [HN.out]; rfl, _, by rw [HW.out]; exact World.drewN_drewN _ _ _⟩
      · obtain rfl : j = a.length := by omega
        have HE := Lib.hid (sameP_end HL.out hsm.out)
        go_wp2_with fail
        go_ret
        exact ⟨by rw [HE.out]; rfl, _, HW.out⟩
  · have hne : ((a.length : Int) != (b.length : Int)) = true := by simp; omega
    have HE := Lib.hid (sameP_len hlen)
    clear hlen
    go_enter Tryz.func65, Tryz.ntmps65
    go_wp2_with fail
    go_ret
    exact ⟨by rw [HE.out]; rfl, 0, rfl⟩
end Go.Proofs.YtnaangnmlbgmkaaGreatDoor

/-
  A prefix's bytes.
-/
namespace Go.Proofs.YtnaangnmlbgmkaaGreatDoor
set_option linter.unusedVariables false
set_option linter.unusedSimpArgs false
open Go.RowKit

theorem Concat3_at {W : World} {k n0 n1 n2 c0 c1 c2 : Nat} {A0 A1 A2 : Option Addr} (l0 l1 l2 : List UInt8) (e0 : n0 = l0.length) (e1 : n1 = l1.length) (e2 : n2 = l2.length)
    (hk : Blk W k 33 [.slice A0 n0 c0, .slice A1 n1 c1, .slice A2 n2 c2]) (h0 : Bytes W A0 l0) (h1 : Bytes W A1 l1) (h2 : Bytes W A2 l2)
    (hT : l0.length + l1.length + l2.length ≤ 70368744177664) :
    Calls Tryz.prog 47 #[.slice (some ⟨k, 0, none⟩) 3 3] W (RetBytes W ((l0 ++ l1) ++ l2)) := by
  subst e0 e1 e2
  exact Concat3_any k A0 A1 A2 c0 c1 c2 l0 l1 l2 W hk h0 h1 h2 hT

theorem room_any (k : Nat) (w : World) (hk : k ≤ 32) : Calls Tryz.prog 92 #[.int .i64 (k : Int)] w fun e w' => e = .returned (.int .i64 (((k + 7) / 8 : Nat) : Int)) ∧ w = w' := by
  go_enter Tryz.func92, Tryz.ntmps92
  go_wp2
  go_ret
  exact ⟨by go_num, rfl⟩

/-- A prefix's bytes. -/
def bytesP (a k : Nat) : List UInt8 := UInt8.ofNat k :: (be32 a).take ((k + 7) / 8)
def retPut (v : Value) (e : Int) : Value := .tuple #[v, .int .i64 e]

set_option maxHeartbeats 3200000 in
theorem PPut_bad (A : Option Addr) (c : Nat) (l : List UInt8) (a : Nat) (n : Int) (w : World) (ha : a < 4294967296) (h0 : -9223372036854775808 ≤ n) (h1 : n ≤ 9223372036854775807) (hok : okPx (a : Int) n = false) :
    Calls Tryz.prog 46 #[.slice A l.length c, .agg #[.int .u32 (a : Int), .int .i64 n]] w fun e w' => e = .returned (retPut (.slice none 0 0) 1) ∧ Below w.heap.size w w' := by
  have QR := fun w => Lib.hid (RightP_any a n w ha h0 h1)
  rw [hok] at QR
  clear hok
  go_enter Tryz.func46, Tryz.ntmps46
  go_wp2_with fail
  refine (QR _).out.mono ?_
  rintro e w1 ⟨rfl, hb1⟩
  go_wp2_with fail
  exact bodyPost_ret (v := retPut (.slice none 0 0) 1) (by simp [results, Tryz.results46, go_sem, retPut]) rfl ⟨rfl, below_boxP hb1⟩
end Go.Proofs.YtnaangnmlbgmkaaGreatDoor

/-
  A right prefix's bytes.
-/
namespace Go.Proofs.YtnaangnmlbgmkaaGreatDoor
set_option linter.unusedVariables false
set_option linter.unusedSimpArgs false
open Go.RowKit

theorem size_alloc (w : World) (o : Obj) : w.heap.size + 1 = (w.alloc o).heap.size := by simp
theorem Blk.at_new {W : World} {g : Nat} (t : Nat) (cs : List Value) (e : g = W.heap.size) : Blk (W.alloc (.cells cs.toArray t)) g t cs := by
  subst e
  exact Blk.new W t cs
theorem wrap8 {k : Nat} (h : k ≤ 32) : IntKind.u8.wrap (k : Int) = (k : Int) := by
  simp [IntKind.wrap, IntKind.bits, IntKind.signed]
  omega

set_option maxHeartbeats 6400000 in
theorem PPut_ok (A : Option Addr) (c : Nat) (l : List UInt8) (a k : Nat) (w : World) (ha : a < 4294967296) (hk : k ≤ 32) (hok : okPx (a : Int) (k : Int) = true) (hl : l.length ≤ 35184372088832) (hb : Bytes w A l) :
    Calls Tryz.prog 46 #[.slice A l.length c, .agg #[.int .u32 (a : Int), .int .i64 (k : Int)]] w fun e w' => ∃ A' c', e = .returned (retPut (.slice A' (l ++ bytesP a k).length c') 0) ∧ (l ++ bytesP a k).length ≤ c' ∧ c' ≤ maxLen ∧ Own w' w.heap.size 5 (.slice A' (l ++ bytesP a k).length c') (l ++ bytesP a k) ∧ Below w.heap.size w w' := by
  have QR := fun w => Lib.hid (RightP_any a (k : Int) w ha (by omega) (by omega))
  rw [hok] at QR
  clear hok
  have Q50 := fun W => Lib.hid (Put32_any none 0 0 [] rfl (a : Int) W (by simp) (Bytes.nil _ _) (by omega) (by omega))
  have Q51 := fun W => Lib.hid (room_any k W hk)
  have HS := Lib.hid (fun w' hb => box_cells w (.int .u32 (a : Int)) (.int .i64 (k : Int)) (w' := w') hb)
  have hb0 : Below (w.alloc (.cells #[.int .u32 (a : Int), .int .i64 (k : Int)] 54)).heap.size (w.alloc (.cells #[.int .u32 (a : Int), .int .i64 (k : Int)] 54)) (w.alloc (.cells #[.int .u32 (a : Int), .int .i64 (k : Int)] 54)) := Below.refl _ _
  have HBy := Lib.hid (fun (w' : World) (h : Below (w.alloc (.cells #[.int .u32 (a : Int), .int .i64 (k : Int)] 54)).heap.size (w.alloc (.cells #[.int .u32 (a : Int), .int .i64 (k : Int)] 54)) w') => hb.below (below_boxP h))
  clear hb
  obtain ⟨r, hr⟩ : ∃ r, r = (k + 7) / 8 := ⟨_, rfl⟩
  have hr4 : r ≤ 4 := by omega
  rw [← hr] at Q51
  have HRr := Lib.hid hr; clear hr
  have hr0 : (0 : Int) ≤ (r : Int) := by omega
  have hw8 := wrap8 hk
  have hEq : (l ++ [UInt8.ofNat ((k : Int)).toNat]) ++ (be32 (a : Int)).take r = l ++ bytesP a k := by rw [HRr.out, List.append_assoc]; rfl
  have he2 : r = ((be32 (a : Int)).take r).length := by rw [List.length_take]; show r = min r 4; omega
  have QC := fun (W : World) (g g1 : Nat) (A2 : Option Addr) (c2 : Nat) (h0 : Blk W g 33 [.slice A l.length c, .slice (some ⟨g1, 0, none⟩) 1 1, .slice A2 r c2]) h1 h2 h3 => Lib.hid (show Calls Tryz.prog 47 #[.slice (some ⟨g, 0, none⟩) 3 3] W (RetBytes W (l ++ bytesP a k)) from hEq ▸ Concat3_at l [UInt8.ofNat ((k : Int)).toNat] ((be32 (a : Int)).take r) rfl rfl he2 h0 h1 h2 h3 (by rw [← he2]; simp only [List.length_singleton]; omega))
  have hk0 : (0 : Int) ≤ (k : Int) := by omega
  have hk1 : (k : Int) < 256 := by omega
  have HK0 := Lib.hid hk0; have HK1 := Lib.hid hk1
  clear hEq he2 hk0 hk1
  go_enter Tryz.func46, Tryz.ntmps46
  go_wp2_with fail
  refine (QR _).out.mono ?_
  rintro e w1 ⟨rfl, hb1'⟩
  have hb1 := (hb0.trans (hb1'.mono hb0.size)).drew
  clear hb1'
  have HC := HS.out _ hb1
  go_wp2_with fail
  go_region_held3 (fun w' => w'.cell? ⟨w.heap.size, 0, none⟩ = some (.int .u32 (a : Int)) ∧ w'.cell? ⟨w.heap.size, 1, none⟩ = some (.int .i64 (k : Int))) (first | exact HS.out _ hb4 | exact HS.out _ hb1 | exact HS.out _ (hb1.alloc hb1.size _) | exact HS.out _ hb2 | exact HS.out _ (hb2.alloc hb2.size _) | exact HS.out _ ((hb2.alloc hb2.size _).alloc (hb2.alloc hb2.size _).size _)) ((first
    | (go_at_call 91; refine (Q50 _).out.mono ?_; rintro e w2 ⟨A2, c2, rfl, hc1, hc2, hown, hb2'⟩; have hb2 : Below (w.alloc (.cells #[.int .u32 (a : Int), .int .i64 (k : Int)] 54)).heap.size (w.alloc (.cells #[.int .u32 (a : Int), .int .i64 (k : Int)] 54)) w2 := (by first | exact hb1.trans (hb2'.mono hb1.size) | exact (hb1.alloc hb1.size _).trans (hb2'.mono (hb1.alloc hb1.size _).size)); have hrc : (r : Int) ≤ (c2 : Int) := (by have h4 : ([] ++ be32 (a : Int)).length = 4 := rfl; omega); have HO := Lib.hid hown; have HB2 := Lib.hid hb2'; clear hown hb2')
    | (go_at_call 92; refine (Q51 _).out.mono ?_; rintro e w3 ⟨rfl, rfl⟩)
    | (go_at_call 47; refine (QC _ _ _ _ _ (Blk.at_new _ _ rfl) (HBy.out _ (hb2.alloc hb2.size _)) (((bytes_one w1 5 HK0.out HK1.out).drew.below HB2.out).alloc _) ((HO.out.bytes.take r).alloc _)).out.mono ?_; rintro e w4 ⟨A4, c4, rfl, hd1, hd2, hown4, hb4'⟩; have hb4 := (hb2.alloc hb2.size _).trans (hb4'.mono (hb2.alloc hb2.size _).size); have HO4 := Lib.hid (hown4.lower (below_boxP (hb2.alloc hb2.size _)).size); clear hown4)
    | (go_at_call 47; refine (QC _ _ _ _ _ (Blk.at_new _ _ (size_alloc _ _)) (HBy.out _ ((hb2.alloc hb2.size _).alloc (hb2.alloc hb2.size _).size _)) ((bytes_one w2 5 HK0.out HK1.out).alloc _) (((HO.out.bytes.take r).alloc _).alloc _)).out.mono ?_; rintro e w4 ⟨A4, c4, rfl, hd1, hd2, hown4, hb4'⟩; have hb4 := ((hb2.alloc hb2.size _).alloc (hb2.alloc hb2.size _).size _).trans (hb4'.mono ((hb2.alloc hb2.size _).alloc (hb2.alloc hb2.size _).size _).size); have HO4 := Lib.hid (hown4.lower (below_boxP ((hb2.alloc hb2.size _).alloc (hb2.alloc hb2.size _).size _)).size); clear hown4)))
  all_goals go_wp2_with fail
  all_goals exact bodyPost_ret (v := retPut (.slice A4 (l ++ bytesP a k).length c4) 0) (by simp [results, Tryz.results46, go_sem, retPut]) rfl ⟨A4, c4, rfl, hd1, hd2, HO4.out, below_boxP hb4⟩
end Go.Proofs.YtnaangnmlbgmkaaGreatDoor

/-
  The document's Right and Holds.
-/
namespace Go.Proofs.YtnaangnmlbgmkaaGreatDoor
set_option linter.unusedVariables false
set_option linter.unusedSimpArgs false
open Go.RowKit

/-- A prefix is right when its Norm is the prefix itself. -/
theorem norm_eq (a : Nat) (n : Int) : (decide (((hi a (cl n) : Nat) : Int) = (a : Int)) && decide (((cl n : Nat) : Int) = n)) = okPx (a : Int) n := by
  unfold okPx
  rw [Bool.eq_iff_iff]
  simp only [Bool.and_eq_true, decide_eq_true_eq, Int.toNat_natCast]
  rcases (show n < 0 ∨ 32 < n ∨ (0 ≤ n ∧ n ≤ 32) by omega) with h | h | ⟨h, h2⟩
  · rw [cl_neg h]; omega
  · rw [cl_big h]; omega
  · obtain ⟨k, rfl⟩ := Int.eq_ofNat_of_zero_le h
    rw [cl_nat (by omega), Int.toNat_natCast]
    omega

set_option maxHeartbeats 1600000 in
theorem RefRightP_any (a : Nat) (n : Int) (w : World) (ha : a < 4294967296) :
    Calls Tryz.prog 95 #[.agg #[.int .u32 (a : Int), .int .i64 n]] w (RetBool w (okPx (a : Int) n)) := by
  have QN := fun w => Lib.hid (RefNorm_any a n w ha)
  have e0 := norm_eq a n
  have HS := Lib.hid (fun w' hb => box_cells w (.int .u32 (a : Int)) (.int .i64 n) (w' := w') hb)
  have hb0 : Below (w.alloc (.cells #[.int .u32 (a : Int), .int .i64 n] 54)).heap.size (w.alloc (.cells #[.int .u32 (a : Int), .int .i64 n] 54)) (w.alloc (.cells #[.int .u32 (a : Int), .int .i64 n] 54)).drew := (Below.refl _ _).drew
  by_cases hA : hi a (cl n) = a
  · rw [hA] at QN e0
    by_cases hB : ((cl n : Nat) : Int) = n
    · have e1 := Lib.hid (show true = okPx (a : Int) n by rw [← e0]; simp [hB])
      have e2 := Lib.hid hB
      rw [hB] at QN
      clear e0 hA hB
      go_enter Tryz.func95, Tryz.ntmps95
      go_wp2_with fail
      go_region_held3 (fun w' => w'.cell? ⟨w.heap.size, 0, none⟩ = some (.int .u32 (a : Int)) ∧ w'.cell? ⟨w.heap.size, 1, none⟩ = some (.int .i64 n)) (first | exact HS.out _ hb0 | exact HS.out _ hb1) ((go_at_call 122; refine (QN _).out.mono ?_; rintro e w1 ⟨rfl, hb1'⟩; have hb1 := hb0.trans hb1'))
      go_wp2_with fail
      go_ret
      exact ⟨by rw [← e1.out]; rfl, below_boxP hb1⟩
    · have e1 := Lib.hid (show false = okPx (a : Int) n by rw [← e0]; simp [hB])
      obtain ⟨C, hC⟩ : ∃ C : Int, C = ((cl n : Nat) : Int) := ⟨_, rfl⟩
      rw [← hC] at hB QN
      have hC2 := Lib.hid hC
      clear e0 hA hC
      go_enter Tryz.func95, Tryz.ntmps95
      go_wp2_with fail
      go_region_held3 (fun w' => w'.cell? ⟨w.heap.size, 0, none⟩ = some (.int .u32 (a : Int)) ∧ w'.cell? ⟨w.heap.size, 1, none⟩ = some (.int .i64 n)) (first | exact HS.out _ hb0 | exact HS.out _ hb1) ((go_at_call 122; refine (QN _).out.mono ?_; rintro e w1 ⟨rfl, hb1'⟩; have hb1 := hb0.trans hb1'))
      go_wp2_with fail
      go_ret
      exact ⟨by rw [← e1.out]; rfl, below_boxP hb1⟩
  · have hA2 : ¬ ((hi a (cl n) : Nat) : Int) = (a : Int) := by omega
    have e1 := Lib.hid (show false = okPx (a : Int) n by rw [← e0, decide_eq_false hA2]; rfl)
    obtain ⟨H, hH⟩ : ∃ H : Nat, H = hi a (cl n) := ⟨_, rfl⟩
    obtain ⟨C, hC⟩ : ∃ C : Int, C = ((cl n : Nat) : Int) := ⟨_, rfl⟩
    rw [← hH] at hA hA2
    rw [← hH, ← hC] at QN
    have hC2 := Lib.hid hC
    have hH2 := Lib.hid hH
    clear e0 hC hH
    go_enter Tryz.func95, Tryz.ntmps95
    go_wp2_with fail
    go_region_held3 (fun w' => w'.cell? ⟨w.heap.size, 0, none⟩ = some (.int .u32 (a : Int)) ∧ w'.cell? ⟨w.heap.size, 1, none⟩ = some (.int .i64 n)) (first | exact HS.out _ hb0 | exact HS.out _ hb1) ((go_at_call 122; refine (QN _).out.mono ?_; rintro e w1 ⟨rfl, hb1'⟩; have hb1 := hb0.trans hb1'))
    go_wp2_with fail
    go_ret
    exact ⟨by rw [← e1.out]; rfl, below_boxP hb1⟩
end Go.Proofs.YtnaangnmlbgmkaaGreatDoor

/-
  An attribute's bytes behind some bytes, as the document puts them.
-/
namespace Go.Proofs.YtnaangnmlbgmkaaGreatDoor
set_option linter.unusedVariables false
set_option linter.unusedSimpArgs false
open Go.RowKit

set_option maxHeartbeats 3200000 in
theorem RefAttr4_any (A A2 : Option Addr) (c c2 : Nat) (l v : List UInt8) (f k : Nat) (w : World) (h : Bytes w A l) (h2 : Bytes w A2 v) (hf : f ≤ 224) (hk : k < 256) (hl : l.length ≤ 1000000) (hv : v.length ≤ 1000000) :
    Calls Tryz.prog 50 #[.slice A l.length c, .int .i64 (f : Int), .int .i64 (k : Int), .slice A2 v.length c2] w (RetBytes w (l ++ wholeL f k v)) := by
  have HL := Lib.hid h; have HV := Lib.hid h2
  clear h h2
  by_cases hlen : 255 < v.length
  · have hlenI : (255 : Int) < (v.length : Int) := by omega
    have HE := Lib.hid (show l ++ wholeL f k v = ((((l ++ [UInt8.ofNat (f + 16)]) ++ [UInt8.ofNat k]) ++ be16 (v.length : Int)) ++ v) from by unfold wholeL; rw [if_pos hlen]; simp)
    go_enter Tryz.func50, Tryz.ntmps50
    go_wp2_with (at_builtin; refine wpList_append_bytes isBytes rfl (.tmp 10) (.tmp 11) rfl w _ [] rfl (Own.nil _ _ _) A l _ c rfl rfl HL.out (by simp; omega) (Below.refl _ _) ?_)
    intro v1 w1 ho1 _ hb1
    have HO1 := Lib.hid ho1; have HB1 := Lib.hid hb1
    clear ho1 hb1
    go_wp2_with (at_builtin; refine wpList_append_byte isBytes rfl (.tmp 16) (.tmp 20) rfl w _ _ rfl w1 ((f : Int) + 16) rfl HO1.out rfl (by omega) (by omega) (by omega) HB1.out ?_)
    intro v2 w2 ho2 _ hb2
    rw [show ((f : Int) + 16).toNat = f + 16 by omega] at ho2
    obtain ⟨L2, hL2⟩ : ∃ L2, L2 = l ++ [UInt8.ofNat (f + 16)] := ⟨_, rfl⟩
    have hz2 : L2.length ≤ 1000001 := by rw [hL2]; simp; omega
    rw [← hL2] at ho2
    rw [← hL2] at HE
    have HO2 := Lib.hid ho2; have HB2 := Lib.hid hb2
    clear ho2 hb2 hL2
    go_wp2_with (at_builtin; refine wpList_append_byte isBytes rfl (.tmp 22) (.tmp 25) rfl w _ _ rfl w2 (k : Int) rfl HO2.out rfl (by omega) (by omega) (by omega) HB2.out ?_)
    intro v3 w3 ho3 _ hb3
    try rw [show ((k : Int)).toNat = k by omega] at ho3
    obtain ⟨L3, hL3⟩ : ∃ L3, L3 = L2 ++ [UInt8.ofNat k] := ⟨_, rfl⟩
    have hz3 : L3.length ≤ 1000002 := by rw [hL3]; simp; omega
    rw [← hL3] at ho3
    rw [← hL3] at HE
    obtain ⟨A3, c3, rfl, _, _⟩ := ho3.form
    have HB3 := Lib.hid hb3
    have Q := Lib.hid (refPut16_any A3 L3.length c3 L3 rfl (v.length : Int) w3 (by omega) ho3.bytes (by omega) (by omega))
    clear ho3 hb3 hL3
    go_wp2_with fail
    refine Q.out.mono ?_
    rintro e w4 ⟨A4, c4, rfl, _, _, ho4, hb4⟩
    obtain ⟨L4, hL4⟩ : ∃ L4, L4 = L3 ++ be16 (v.length : Int) := ⟨_, rfl⟩
    have hz4 : L4.length ≤ 1000004 := by rw [hL4, List.length_append]; simp [be16]; omega
    rw [← hL4] at ho4
    rw [← hL4] at HE
    simp only [← hL4]
    have HB4 := Lib.hid (HB3.out.trans (hb4.mono HB3.out.size))
    have HO4 := Lib.hid (ho4.lower HB3.out.size)
    clear ho4 hb4 hL4
    have HY := Lib.hid (HV.out.below HB4.out)
    go_wp2_with (at_builtin; refine wpList_append_bytes isBytes rfl (.tmp 47) (.tmp 48) rfl w _ _ rfl HO4.out A2 v _ c2 rfl rfl HY.out (by omega) HB4.out ?_)
    intro v5 w5 ho5 _ hb5
    rw [← HE.out] at ho5
    obtain ⟨A5, c5, rfl, g1, g2⟩ := ho5.form
    have HO5 := Lib.hid ho5; have HB5 := Lib.hid hb5; have HG := Lib.hid (And.intro g1 g2)
    clear ho5 hb5 g1 g2
    go_wp2_with fail
    go_ret
    exact ⟨A5, c5, rfl, HG.out.1, HG.out.2, HO5.out, HB5.out⟩
  · have hlenI : ¬ (255 : Int) < (v.length : Int) := by omega
    have HE := Lib.hid (show l ++ wholeL f k v = ((((l ++ [UInt8.ofNat f]) ++ [UInt8.ofNat k]) ++ [UInt8.ofNat v.length]) ++ v) from by unfold wholeL; rw [if_neg hlen]; simp)
    go_enter Tryz.func50, Tryz.ntmps50
    go_wp2_with (at_builtin; refine wpList_append_bytes isBytes rfl (.tmp 10) (.tmp 11) rfl w _ [] rfl (Own.nil _ _ _) A l _ c rfl rfl HL.out (by simp; omega) (Below.refl _ _) ?_)
    intro v1 w1 ho1 _ hb1
    have HO1 := Lib.hid ho1; have HB1 := Lib.hid hb1
    clear ho1 hb1
    go_wp2_with (at_builtin; refine wpList_append_byte isBytes rfl (.tmp 31) (.tmp 34) rfl w _ _ rfl w1 (f : Int) rfl HO1.out rfl (by omega) (by omega) (by omega) HB1.out ?_)
    intro v2 w2 ho2 _ hb2
    try rw [show ((f : Int)).toNat = f by omega] at ho2
    obtain ⟨L2, hL2⟩ : ∃ L2, L2 = l ++ [UInt8.ofNat f] := ⟨_, rfl⟩
    have hz2 : L2.length ≤ 1000001 := by rw [hL2]; simp; omega
    rw [← hL2] at ho2
    rw [← hL2] at HE
    have HO2 := Lib.hid ho2; have HB2 := Lib.hid hb2
    clear ho2 hb2 hL2
    go_wp2_with (at_builtin; refine wpList_append_byte isBytes rfl (.tmp 36) (.tmp 39) rfl w _ _ rfl w2 (k : Int) rfl HO2.out rfl (by omega) (by omega) (by omega) HB2.out ?_)
    intro v3 w3 ho3 _ hb3
    try rw [show ((k : Int)).toNat = k by omega] at ho3
    obtain ⟨L3, hL3⟩ : ∃ L3, L3 = L2 ++ [UInt8.ofNat k] := ⟨_, rfl⟩
    have hz3 : L3.length ≤ 1000002 := by rw [hL3]; simp; omega
    rw [← hL3] at ho3
    rw [← hL3] at HE
    have HO3 := Lib.hid ho3; have HB3 := Lib.hid hb3
    clear ho3 hb3 hL3
    go_wp2_with (at_builtin; refine wpList_append_byte isBytes rfl (.tmp 41) (.tmp 45) rfl w _ _ rfl w3 (v.length : Int) rfl HO3.out rfl (by omega) (by omega) (by omega) HB3.out ?_)
    intro v4 w4 ho4 _ hb4
    try rw [show ((v.length : Int)).toNat = v.length by omega] at ho4
    obtain ⟨L4, hL4⟩ : ∃ L4, L4 = L3 ++ [UInt8.ofNat v.length] := ⟨_, rfl⟩
    have hz4 : L4.length ≤ 1000003 := by rw [hL4]; simp; omega
    rw [← hL4] at ho4
    rw [← hL4] at HE
    have HO4 := Lib.hid ho4; have HB4 := Lib.hid hb4
    have HY := Lib.hid (HV.out.below hb4)
    clear ho4 hb4 hL4
    go_wp2_with (at_builtin; refine wpList_append_bytes isBytes rfl (.tmp 47) (.tmp 48) rfl w _ _ rfl HO4.out A2 v _ c2 rfl rfl HY.out (by omega) HB4.out ?_)
    intro v5 w5 ho5 _ hb5
    rw [← HE.out] at ho5
    obtain ⟨A5, c5, rfl, g1, g2⟩ := ho5.form
    have HO5 := Lib.hid ho5; have HB5 := Lib.hid hb5; have HG := Lib.hid (And.intro g1 g2)
    clear ho5 hb5 g1 g2
    go_wp2_with fail
    go_ret
    exact ⟨A5, c5, rfl, HG.out.1, HG.out.2, HO5.out, HB5.out⟩
end Go.Proofs.YtnaangnmlbgmkaaGreatDoor

/-
  The path of bytes.
-/
namespace Go.Proofs.YtnaangnmlbgmkaaGreatDoor
set_option linter.unusedVariables false
set_option linter.unusedSimpArgs false
open Go.RowKit

/-- How many bytes lie before a reader, off memory. -/
def leftAt (w : World) (g : Nat) : Nat := match w.cell? ⟨g, 0, none⟩ with
  | some (.slice _ n _) => n
  | _ => 0
theorem rd_left {w : World} {B g : Nat} {l : List UInt8} {s : Bool} (h : Rd w B g l s) : leftAt w g = l.length := by
  obtain ⟨_, A, c, hk, _⟩ := h
  have c0 : w.cell? ⟨g, 0, none⟩ = some (.slice A l.length c) := hk.cell 0
  unfold leftAt
  rw [c0]
/-- 'x.f = append(x.f, n)' over numbers, n in a block of its own. -/
theorem step_one32 {ops : Array Oper} {o : Oper} {a : Act} {w : World} {K : Act → World → Prop} {Q : Exit → Act → World → Prop} {E : Prop} (hgd : o.guard = none) (s x : Operand) (ho : o.op = .call { callee := .builtin .append, args := #[s, x], argTypes := #[25, 25] })
    (base : Nat) (v : Value) (z : List Nat) (hs : a.eval s = v) (wr : World) (n : Nat) (hw : w = wr.alloc (.cells #[.int .u32 (n : Int)] 24)) (hown : Own32 wr base v z) (hx : a.eval x = .slice (some ⟨wr.heap.size, 0, none⟩) 1 1)
    (hsz : z.length + 1 ≤ 100000000000) (hb : base ≤ wr.heap.size)
    (h : ∀ v' w', Own32 w' base v' (z ++ [n]) → wr.grownBy w' v.ownBlock → K (a.put o.dst v') w') : if Region.wanted o (yielded ops a.tmps) = true then Oper.wp Tryz.prog o a w K Q else E := by
  subst hw
  have hA : At32 (wr.alloc (.cells #[.int .u32 (n : Int)] 24)) (wr.heap.size + 1) (some ⟨wr.heap.size, 0, none⟩) [n] := by
    intro _
    refine ⟨wr.heap.size, 0, rfl, by omega, fun j hj => ?_⟩
    have hj0 : j = 0 := by simpa using hj
    subst hj0
    exact (Blk.new wr 24 [.int .u32 (n : Int)]).cell 0
  exact step_app32 hgd s x ho base v z hs (hown.alloc _) _ 1 1 _ [n] hx rfl hA (by simpa using hsz) (by simp; omega) fun v' w' h1 h2 => h v' w' h1 (grown_of_alloc h2)
/-- Segments of the call's own stay, if one other block, ahead of all of theirs, is written. -/
theorem OwnSegs.apart {w w' : World} {B H g : Nat} {v : Value} {M : List Sg} (h : OwnSegs w B H v M) (hg : w.grownBy w' (some g)) (hB : g < B) : OwnSegs w' B H v M := by
  have far : ∀ (u : Value) (e : TypeId) (size n : Nat) (xs : List Value), w.ownsRow B e size u n xs → u.ownBlock = none ∨ u.ownBlock ≠ some g := by
    intro u e size n xs hu
    cases he : u.ownBlock with
    | none => exact .inl rfl
    | some k =>
      right
      intro e2
      have := (World.ownsRow.lt hu k he).1
      have e3 : k = g := by simpa using e2
      omega
  exact ⟨World.ownsRow.kept h.row hg (far _ _ _ _ _ h.row), fun s hs => World.ownsRow.kept (h.own s hs) hg (far _ _ _ _ _ (h.own s hs)), h.low, h.last, h.fit⟩
theorem grown_of_drew {a b : World} {row : Option Nat} (h : a.drew.grownBy b row) : a.grownBy b row := ⟨h.os, h.tape, h.output, h.size, h.block⟩
theorem grown_fresh {a b c : World} {g : Nat} {row' : Option Nat} (h : a.grownBy b (some g)) (k : b.grownBy c row') (hr : ∀ j, row' = some j → a.heap.size ≤ j) : a.grownBy c (some g) :=
  ⟨k.os.trans h.os, k.tape.trans h.tape, k.output.trans h.output, Nat.le_trans h.size k.size, fun i hi hne => (k.block i (Nat.lt_of_lt_of_le hi h.size) (fun e => by have := hr i e.symm; omega)).trans (h.block i hi hne)⟩
def ReadPost (w : World) (r : Option (List (Int × List Nat))) (e : Ending) (w' : World) : Prop := match r with
  | none => e = .returned (.tuple #[.slice none 0 0, .int .i64 5]) ∧ Below w.heap.size w w'
  | some r => ∃ (M : List Sg) (A : Option Addr) (c : Nat), e = .returned (.tuple #[.slice A M.length c, .int .i64 0]) ∧ M.map Sg.abs = r ∧ M.length ≤ c ∧ c ≤ maxLen ∧ (∃ H, OwnSegs w' (w.heap.size + 1) H (.slice A M.length c) M) ∧ Below w.heap.size w w'
/-- What the loop over the segments holds. -/
def ReadRel (w : World) (wide : Bool) (l : List UInt8) (v : Value) (wr : World) : Prop :=
  Below w.heap.size w wr ∧ ∃ (M : List Sg) (H : Nat) (r : List UInt8) (s : Bool), OwnSegs wr (w.heap.size + 1) H v M ∧ w.heap.size + 1 ≤ H ∧ H ≤ wr.heap.size ∧ Rd wr w.heap.size w.heap.size r s ∧ M.length + r.length ≤ l.length ∧ totN M ≤ 255 * M.length ∧ Hid (readGo wide r.length (M.map Sg.abs, r, s) = readAll wide l)
/-- What the loop over a segment's numbers holds: W2 is the world ahead of the segment's block h. -/
def NumRel (W2 : World) (g h : Nat) (K : Int) (wide : Bool) (l1 : List UInt8) (s1 : Bool) (n : Nat) (i : Value) (wr : World) : Prop :=
  W2.grownBy wr (some g) ∧ ∃ (v : Value) (k : Nat), k ≤ n ∧ i = .int .i64 (k : Int) ∧ Blk wr h 112 [.int .i64 K, v] ∧ Own32 wr (h + 1) v (numsS wide l1 s1 k).1 ∧ Rd wr g g (numsS wide l1 s1 k).2.1 (numsS wide l1 s1 k).2.2
theorem nums_next (wide : Bool) (l : List UInt8) (s : Bool) (k : Nat) : (numsS wide l s (k + 1)).1 = (numsS wide l s k).1 ++ [num (rdTake (numsS wide l s k).2.1 (numsS wide l s k).2.2 (nextN wide)).1] ∧ (numsS wide l s (k + 1)).2 = (rdTake (numsS wide l s k).2.1 (numsS wide l s k).2.2 (nextN wide)).2 := ⟨rfl, rfl⟩

set_option maxRecDepth 100000 in
set_option maxHeartbeats 12800000 in
theorem Read3_any (A : Option Addr) (c : Nat) (l : List UInt8) (wide : Bool) (w : World) (h : Bytes w A l) (hc : l.length ≤ c) (hm : c ≤ maxLen) (hl : l.length ≤ 10000000) :
    Calls Tryz.prog 127 #[.slice A l.length c, .bool wide] w (ReadPost w (readL wide l)) := by
  have Q0 := Lib.hid (New_any A l.length c l rfl w h hc hm)
  clear h hc hm
  go_enter Tryz.func127, Tryz.ntmps127
  go_wp2_with fail
  refine Q0.out.mono ?_
  rintro e w1 ⟨rfl, hr0, hb0⟩
  have HR0 := Lib.hid hr0; have HB0 := Lib.hid hb0
  have HS0 := Lib.hid hr0.lt
  clear hr0 hb0 Q0
  go_wp2_with fail
  go_loopw [6] (fun v wr => ReadRel w wide l v wr) (fun _ wr => leftAt wr w.heap.size)
  case atStart => exact ⟨HB0.out, [], w.heap.size + 1, l, false, OwnSegs.nil _ _ _, Nat.le_refl _, HS0.out, HR0.out, by simp, by simp [totN], Lib.hid rfl⟩
  case round =>
    clear HR0 HB0 HS0
    obtain ⟨hbr, M, H, r, s, hown, hH, hH2, hrd, hlen, htot, hgo⟩ := hrel
    have QL := Lib.hid (Left_any _ _ _ _ wr hrd)
    by_cases hr : r = []
    · subst hr
      obtain ⟨A0, c0, rfl, g1, g2⟩ := hown.form
      have hM : M.length ≤ 10000000 := by simp at hlen; omega
      have QR := Lib.hid (Right_any A0 c0 M wr hown.segs g1 g2 (by omega))
      have HSG := Lib.hid hown
      have hend := readL_end (t := (M.map Sg.abs, [], s)) hgo.out rfl
      simp only at hend
      rw [← right_abs] at hend
      have HEND := Lib.hid hend
      have QL0 := Lib.hid (show Calls Tryz.prog 32 #[.pointer (some ⟨w.heap.size, 0, none⟩)] wr fun e w' => e = .returned (.int .i64 0) ∧ wr = w' from Left_any _ _ _ _ wr hrd)
      have HBR := Lib.hid hbr
      have QE := Lib.hid (Err_any _ _ _ _ wr hrd)
      clear hend QL hgo hown hrd htot hlen hbr
      cases s with
      | true =>
        have HE := Lib.hid (show readL wide l = none by rw [HEND.out, if_neg]; simp)
        simp only [errN] at QE
        go_wp2_with fail
        refine QL0.out.mono ?_
        rintro e w2 ⟨rfl, rfl⟩
        go_wp2_with fail
        refine QE.out.mono ?_
        rintro e w2 ⟨rfl, rfl⟩
        go_wp2_with fail
        go_ret2
        rw [HE.out]
        exact ⟨rfl, HBR.out⟩
      | false =>
        simp only [errN] at QE
        cases hrb : rightB M with
        | true =>
          rw [hrb] at QR
          have HE := Lib.hid (show readL wide l = some (M.map Sg.abs) by rw [HEND.out, if_pos ⟨rfl, hrb⟩])
          clear hrb
          go_wp2_with fail
          refine QL0.out.mono ?_
          rintro e w2 ⟨rfl, rfl⟩
          go_wp2_with fail
          refine QE.out.mono ?_
          rintro e w2 ⟨rfl, rfl⟩
          go_wp2_with fail
          refine QR.out.mono ?_
          rintro e w3 ⟨rfl, hb3⟩
          go_wp2_with fail
          go_ret2
          rw [HE.out]
          exact ⟨M, A0, c0, rfl, rfl, g1, g2, ⟨_, HSG.out.below hb3⟩, HBR.out.trans (hb3.mono HBR.out.size)⟩
        | false =>
          rw [hrb] at QR
          have HE := Lib.hid (show readL wide l = none by rw [HEND.out, if_neg]; rw [hrb]; simp)
          clear hrb
          go_wp2_with fail
          refine QL0.out.mono ?_
          rintro e w2 ⟨rfl, rfl⟩
          go_wp2_with fail
          refine QE.out.mono ?_
          rintro e w2 ⟨rfl, rfl⟩
          go_wp2_with fail
          refine QR.out.mono ?_
          rintro e w3 ⟨rfl, hb3⟩
          go_wp2_with fail
          go_ret2
          rw [HE.out]
          exact ⟨rfl, HBR.out.trans (hb3.mono HBR.out.size)⟩
    · have hpos : (0 : Int) < (r.length : Int) := by have := List.length_pos_iff.2 hr; omega
      have hst := (readGo_step wide (t := (M.map Sg.abs, r, s)) hr).symm.trans hgo.out
      have hless := step_less wide (t := (M.map Sg.abs, r, s)) hr
      have Q1 := Lib.hid (Byte_any _ _ _ _ wr hrd)
      have hK := num_one_lt r s
      have hn2 := num_one_lt (rdTake r s 1).2.1 (rdTake r s 1).2.2
      simp only [readStep, headS] at hst hless
      obtain ⟨X1, hX1⟩ : ∃ X1, X1 = rdTake r s 1 := ⟨_, rfl⟩
      rw [← hX1] at hst hless Q1 hK hn2
      obtain ⟨X2, hX2⟩ : ∃ X2, X2 = rdTake X1.2.1 X1.2.2 1 := ⟨_, rfl⟩
      have HX2 := Lib.hid hX2
      rw [← hX2] at hst hless hn2
      obtain ⟨K, hKe⟩ : ∃ K, K = num X1.1 := ⟨_, rfl⟩
      obtain ⟨n, hne⟩ : ∃ n, n = num X2.1 := ⟨_, rfl⟩
      rw [← hKe, ← hne] at hst
      rw [← hne] at hless hn2
      rw [← hKe] at hK
      have HST := Lib.hid hst; have HLS := Lib.hid hless; have HK := Lib.hid hK; have HN := Lib.hid hn2
      have HKE := Lib.hid hKe; have HNE := Lib.hid hne
      have HOW := Lib.hid hown; have HBR := Lib.hid hbr; have HRD := Lib.hid hrd; have HLEN := Lib.hid hlen; have HTOT := Lib.hid htot
      clear hst hless hK hn2 hX1 hX2 hKe hne hown hbr hrd hlen htot hgo hr
      go_wp2_with fail
      refine QL.out.mono ?_
      rintro e w2 ⟨rfl, rfl⟩
      go_wp2_with fail
      refine Q1.out.mono ?_
      rintro e w2 ⟨rfl, hr1, hg1⟩
      have HR1 := Lib.hid hr1; have HG1 := Lib.hid hg1
      clear hr1 hg1
      rw [← HKE.out]
      go_wp2_with fail
      have hr3 : Rd (w2.alloc (.cells #[.int .i64 (K : Int), .slice none 0 0] 112)) w.heap.size w.heap.size X1.2.1 X1.2.2 := HR1.out.below ((Below.refl w2.heap.size w2).alloc (Nat.le_refl _) _) HR1.out.lt
      have Q2 := Byte_any _ _ _ _ _ hr3
      rw [← HX2.out] at Q2
      have Q2 := Lib.hid Q2
      have HB3 := Lib.hid (Blk.new w2 112 [.int .i64 (K : Int), .slice none 0 0])
      clear hr3
      refine Q2.out.mono ?_
      rintro e w4 ⟨rfl, hr4, hg4⟩
      have HR4 := Lib.hid hr4; have HG4 := Lib.hid hg4
      have hne4 : w2.heap.size ≠ w.heap.size := by have := HR1.out.lt; omega
      have HG24 := Lib.hid (grown_trans (grown_alloc (grown_refl w2 (some w.heap.size)) _) HG4.out)
      have HB4 := Lib.hid (HB3.out.grown HG4.out hne4)
      have HNE4 := Lib.hid hne4
      have HG0 := Lib.hid (show w.heap.size < w2.heap.size + 1 by have := HR1.out.lt; omega)
      clear hr4 hg4 hne4 Q2
      rw [← HNE.out]
      go_wp2_with fail
      go_loopw [19] (fun i wr' => NumRel w2 w.heap.size w2.heap.size (K : Int) wide X2.2.1 X2.2.2 n i wr') (fun i _ => n - (intOf i).toNat)
      case atStart => exact ⟨HG24.out, _, 0, Nat.zero_le _, rfl, HB4.out, Own32.nil _ _, HR4.out⟩
      case round =>
        clear HR4 HG4 HB4 HG24 Q1 QL
        obtain ⟨hg, v, k, hk, rfl, hblk, hown, hrd⟩ := hrel
        by_cases hlt : k < n
        · have hkn : (k : Int) < (n : Int) := by omega
          have QN := Lib.hid (next3_any _ _ _ _ wide wr.drew hrd)
          have HNX := Lib.hid (nums_next wide X2.2.1 X2.2.2 k)
          have hlen := (numsS_len wide X2.2.1 X2.2.2 k).1
          obtain ⟨Y, hY⟩ : ∃ Y, Y = rdTake (numsS wide X2.2.1 X2.2.2 k).2.1 (numsS wide X2.2.1 X2.2.2 k).2.2 (nextN wide) := ⟨_, rfl⟩
          rw [← hY] at QN HNX
          have hkb : (k : Int) < 256 := by have := HN.out; omega
          have hg2 := HG0.out
          have HBK := Lib.hid hblk
          have HOW2 := Lib.hid hown; have HGW := Lib.hid hg; have HLT := Lib.hid hlt
          have HSZ := Lib.hid (show (numsS wide X2.2.1 X2.2.2 k).1.length + 1 ≤ 100000000000 by rw [hlen]; have := HN.out; omega)
          have c1 : wr.cell? ⟨w2.heap.size, 1, none⟩ = some v := hblk.cell 1
          have hvb : some w2.heap.size ≠ v.ownBlock := by
            intro e
            have := (World.ownsRow.lt hown _ e.symm).1
            omega
          have HVB := Lib.hid hvb
          obtain ⟨z, hz⟩ : ∃ z, z = (numsS wide X2.2.1 X2.2.2 k).1 := ⟨_, rfl⟩
          rw [← hz] at HOW2 HSZ HNX
          obtain ⟨y, hy⟩ : ∃ y, y = num Y.1 := ⟨_, rfl⟩
          have HYE := Lib.hid hy
          rw [← hy] at HNX
          have QN2 := Lib.hid (show Calls Tryz.prog 138 #[.pointer (some ⟨w.heap.size, 0, none⟩), .bool wide] wr.drew (fun e w' => e = .returned (.int .u32 (y : Int)) ∧ Rd w' w.heap.size w.heap.size Y.2.1 Y.2.2 ∧ wr.drew.grownBy w' (some w.heap.size)) from by rw [HYE.out]; exact QN.out)
          clear hlen hY hblk hown hrd hg hlt hvb QN hz hy
          go_wp2_with fail
          go_region_law ((first
            | (have hq5 := HO5; clear hq5; refine step_one32 (by rfl) (.tmp 22) (.tmp 26) (by rfl) (w2.heap.size + 1) v z (by rfl) w5 y rfl HO5.out (by rfl) HSZ.out HZ5.out ?_; intro v6 w6 ho6 hg6; have hk6 := (hg6.block _ HK5.out.lt HVB.out).trans HK5.out; have c6 : w6.cell? ⟨w2.heap.size, 1, none⟩ = some v := Blk.cell hk6 1; have f6 : w6.frozen? ⟨w2.heap.size, 1, none⟩ = false := Blk.free hk6 1; have HK6 := Lib.hid hk6; obtain ⟨A6, d6, rfl, q1, q2⟩ := ho6.form; have el : (z ++ [y]).length = z.length + 1 := List.length_append; rw [el] at ho6 q1; have HO6 := Lib.hid ho6; have HG6 := Lib.hid hg6; clear hk6 ho6 hg6)
            | (go_simp; go_at_call 138; refine QN2.out.mono ?_; rintro e w5 ⟨rfl, hr5, hg5⟩; have hk5 := HBK.out.grown (grown_of_drew hg5) HNE4.out; have c5 : w5.cell? ⟨w2.heap.size, 1, none⟩ = some v := hk5.cell 1; have c5a : (w5.alloc (.cells #[.int .u32 (y : Int)] 24)).cell? ⟨w2.heap.size, 1, none⟩ = some v := (Blk.below hk5 ((Below.refl w5.heap.size w5).alloc (Nat.le_refl _) _) hk5.lt).cell 1; have HO5 := Lib.hid (own32_apart HOW2.out (grown_of_drew hg5) HG0.out); have HZ5 := Lib.hid (show w2.heap.size + 1 ≤ w5.heap.size from hk5.lt); have HK5 := Lib.hid hk5; have HR5 := Lib.hid hr5; have HG5 := Lib.hid (grown_of_drew hg5); clear hk5 hr5 hg5)))
          all_goals
            have hb7 := Lib.hid (((Below.refl w2.heap.size w5).grown HG6.out (Nat.le_of_succ_le HZ5.out) (fun j hj => by have := (World.ownsRow.lt HO5.out j hj).1; omega)).setCell (p := ⟨w2.heap.size, 1, none⟩) (Nat.le_refl _) (.slice A6 (z.length + 1) d6))
            have hg7 := Lib.hid (grown_fresh (grown_fresh (grown_trans HGW.out HG5.out) HG6.out (fun j hj => by have := (World.ownsRow.lt HO5.out j hj).1; omega)) (grown_setCell (grown_refl w6 (some w2.heap.size)) 1 (.slice A6 (z.length + 1) d6)) (fun j hj => by cases hj; exact Nat.le_refl _))
            have hr7 := Lib.hid (HR5.out.below hb7.out (by have := HG0.out; have := HNE4.out; omega))
            have hk7 := Lib.hid (Blk.set (show Blk w6 w2.heap.size 112 [.int .i64 (K : Int), v] from HK6.out) 1 (.slice A6 (z.length + 1) d6))
            have ho7 := Lib.hid (own32_apart HO6.out (grown_setCell (grown_refl w6 (some w2.heap.size)) 1 (.slice A6 (z.length + 1) d6)) (Nat.lt_succ_self _))
            clear c5 c5a c6 f6 c1
            go_wp2_with fail
            go_roundw
            case rel =>
              refine ⟨hg7.out, _, k + 1, HLT.out, by go_num, hk7.out, ?_, ?_⟩
              · rw [HNX.out.1]
                exact ho7.out
              · rw [HNX.out.2]
                exact hr7.out
            case measure => have := HLT.out; simp [intOf]; omega
        · obtain rfl : k = n := by omega
          have hnk : ¬ (k : Int) < (k : Int) := by omega
          have hfit := numsS_fit wide X2.2.1 X2.2.2 k
          have hlenz := (numsS_len wide X2.2.1 X2.2.2 k).1
          obtain ⟨A7, d7, rfl, e1, e2⟩ := hown.form
          have HS7 := Lib.hid (((HOW.out.apart HG1.out (Nat.lt_succ_self _)).apart hg (Nat.lt_succ_self _)))
          have HB7 := Lib.hid ((HOW.out.apart HG1.out (Nat.lt_succ_self _)).blocks)
          have HO7 := Lib.hid (show Own32 wr (w2.heap.size + 1) (Sg.sl ⟨(K : Int), A7, d7, (numsS wide X2.2.1 X2.2.2 k).1⟩) (numsS wide X2.2.1 X2.2.2 k).1 from hown)
          have c7 := cells2 hblk
          have HR7 := Lib.hid hrd; have HG7 := Lib.hid hg; have HL7 := Lib.hid hlenz; have HF7 := Lib.hid hfit
          have HZ7 := Lib.hid hblk.lt
          clear hblk hown hrd hg hlenz hfit e1 e2
          go_wp2_with (at_builtin; refine wpList_app_one' isSeg rfl (.tmp 30) (.tmp 32) rfl (w.heap.size + 1) _ _ _ rfl wr (Sg.two ⟨(K : Int), A7, d7, (numsS wide X2.2.1 X2.2.2 k).1⟩) rfl HS7.out.row rfl rfl (two_one _) ?sz (Nat.le_trans (Nat.succ_le_of_lt HR7.out.lt) (Nat.le_refl _)) ?_)
          case sz => have := HLEN.out; omega
          intro v8 w8 hown8 hg8
          have HP := Lib.hid (OwnSegs.push (s := ⟨(K : Int), A7, d7, (numsS wide X2.2.1 X2.2.2 k).1⟩) HS7.out HO7.out (by have := HG0.out; omega) (fun x hx j hj => Nat.lt_succ_of_lt (HB7.out x hx j hj)) ⟨HF7.out, by have := HK.out; show -9223372036854775808 ≤ (K : Int) ∧ (K : Int) ≤ 9223372036854775807; omega⟩ hown8 hg8)
          have hsz : w.heap.size + 1 ≤ wr.heap.size := HR7.out.lt
          have hb8 := (Below.refl (w.heap.size + 1) wr).grown hg8 hsz (fun j hj => (World.ownsRow.lt HS7.out.row j hj).1)
          have HR8 := Lib.hid (HR7.out.below hb8 (Nat.lt_succ_self _))
          have HB9 := Lib.hid ((((HBR.out.grown HG1.out HBR.out.size (fun j hj => by cases hj; exact Nat.le_refl _)).grown HG7.out (Nat.le_trans (Nat.le_of_lt HRD.out.lt) HG1.out.size) (fun j hj => by cases hj; exact Nat.le_refl _))).trans (hb8.mono (Nat.le_succ _)))
          have HZ8 := Lib.hid (show w2.heap.size + 1 ≤ w8.heap.size from Nat.le_trans HZ7.out hg8.size)
          clear hb8 hsz c7 hown8 hg8
          go_wp2_with fail
          go_roundw
          case rel =>
            refine ⟨HB9.out, _, w2.heap.size + 1, _, _, HP.out, (by have := HG0.out; omega), HZ8.out, HR8.out, ?_, ?_, Lib.hid ?_⟩
            · have h1 := HLEN.out
              have h2 := HLS.out
              rw [List.length_append]
              simp only [List.length_cons, List.length_nil]
              omega
            · rw [totN_snoc, List.length_append]
              have h1 := HTOT.out
              have h2 := HN.out
              have h3 := HL7.out
              show totN M + (numsS wide X2.2.1 X2.2.2 k).1.length ≤ _
              simp only [List.length_cons, List.length_nil]
              omega
            · rw [List.map_append]
              exact HST.out
          case measure =>
            rw [rd_left HR8.out, rd_left HRD.out]
            exact HLS.out
end Go.Proofs.YtnaangnmlbgmkaaGreatDoor

/-
  A prefix out of bytes that are there.
-/
namespace Go.Proofs.YtnaangnmlbgmkaaGreatDoor
set_option linter.unusedVariables false
set_option linter.unusedSimpArgs false
open Go.RowKit

theorem len4 : Tryz.prog.arrayLen 132 = 4 := by kernel_rfl
theorem arr4 : Tryz.prog.underlying 132 = some (.array (Tryz.prog.arrayLen 132) (Tryz.prog.elem 132)) := by kernel_rfl
theorem size4 (w : World) : (sizeOf (Tryz.prog.elem 132)).run Tryz.prog w = .ok 1 w := by kernel_rfl
theorem slice4 (g : Nat) (w : World) : (Instr.sliceAt 132 (.pointer (some ⟨g, 0, none⟩)) none none none).run Tryz.prog w = .ok (.slice (some ⟨g, 0, none⟩) 4 4) w := by
  rw [run_sliceAt_array_all w 132 _ arr4, size4, len4]
  simp [slicedAt, Result.andThen, Addr.add_lit]
theorem grown_setCell_new {a b : World} {row : Option Nat} (h : a.grownBy b row) {r : Nat} (hr : a.heap.size ≤ r) (o : Nat) (u : Value) : a.grownBy (b.setCell ⟨r, o, none⟩ u) row :=
  ⟨h.os, h.tape, h.output, by simpa [World.setCell] using h.size, fun i hi hne => (Below.heap_setCell b ⟨r, o, none⟩ u i (by simp; omega)).trans (h.block i hi hne)⟩

/-- Four bytes: some, and noughts behind them. -/
def pad4 (b : List UInt8) : List UInt8 := b ++ List.replicate (4 - b.length) 0
theorem pad4_len {b : List UInt8} (h : b.length ≤ 4) : (pad4 b).length = 4 := by
  rw [pad4, List.length_append, List.length_replicate]
  omega
theorem rdTake_appP (b rest : List UInt8) (n : Nat) (h : n = b.length) : rdTake (b ++ rest) false (n : Int) = (b, rest, false) := by
  subst h
  unfold rdTake
  rw [if_pos (by simp; omega)]
  simp
theorem num_one (k : Nat) (h : k < 256) : num [UInt8.ofNat k] = k := by simp [num, Nat.mod_eq_of_lt h]

/-- What a Read leaves that tells a prefix. -/
def ReadPostP (w : World) (B g X k : Nat) (rest : List UInt8) (e : Ending) (w' : World) : Prop :=
  e = .returned (.tuple #[.agg #[.int .u32 (X : Int), .int .i64 (k : Int)], .int .i64 0]) ∧ Rd w' B g rest false ∧ w.grownBy w' (some g)
theorem splice_pad (b : List UInt8) (h : b.length ≤ 4) : splice [Value.int .u8 0, .int .u8 0, .int .u8 0, .int .u8 0] 0 (b.map fun x => Value.int .u8 (x.toNat : Int)) = (pad4 b).map fun x => Value.int .u8 (x.toNat : Int) := by
  unfold pad4
  rcases b with _ | ⟨b0, _ | ⟨b1, _ | ⟨b2, _ | ⟨b3, _ | ⟨b4, b⟩⟩⟩⟩⟩
  · rfl
  · rfl
  · rfl
  · rfl
  · rfl
  · simp at h

set_option maxHeartbeats 6400000 in
theorem ReadP_ok (k B g : Nat) (b rest : List UInt8) (w : World) (h : Rd w B g (UInt8.ofNat k :: (b ++ rest)) false) (hk : k ≤ 32) (hbl : b.length = (k + 7) / 8) (hl : (b ++ rest).length ≤ 1000000) :
    Calls Tryz.prog 57 #[.pointer (some ⟨g, 0, none⟩)] w (ReadPostP w B g (hi (num (pad4 b)) k) k rest) := by
  have hb4 : b.length ≤ 4 := by omega
  have hn4 : num (pad4 b) < 4294967296 := num_lt4 (by rw [pad4_len hb4]; exact Nat.le_refl _)
  have hg0 := h.lt
  have hW := grown_alloc (grown_refl w (some g)) (.cells #[.int .u32 0, .int .i64 0] 54)
  have h1 := h.below ((Below.refl w.heap.size w).alloc (Nat.le_refl _) (.cells #[.int .u32 0, .int .i64 0] 54)) hg0
  have qB := Byte_any B g _ false _ h1
  have e1 : rdTake (UInt8.ofNat k :: (b ++ rest)) false 1 = ([UInt8.ofNat k], b ++ rest, false) := rdTake_appP [UInt8.ofNat k] (b ++ rest) 1 rfl
  rw [e1] at qB
  have kR := Blk.new w 54 [.int .u32 0, .int .i64 0]
  have QB := Lib.hid (show Calls Tryz.prog 96 #[.pointer (some ⟨g, 0, none⟩)] (w.alloc (.cells #[.int .u32 0, .int .i64 0] 54)) (fun e w' => e = .returned (.int .i64 (k : Int)) ∧ Rd w' B g (b ++ rest) false ∧ (w.alloc (.cells #[.int .u32 0, .int .i64 0] 54)).grownBy w' (some g)) from qB.mono (fun e w' ⟨h1, h2, h3⟩ => ⟨by rw [h1, num_one k (by omega)], h2, h3⟩))
  have KR := Lib.hid kR
  have QN := fun W => Lib.hid (NormP_any (num (pad4 b)) (k : Int) W hn4 (by omega) (by omega))
  rw [cl_nat hk] at QN
  have QO := fun W => Lib.hid (room_any k W hk)
  have hgI : ¬ (32 : Int) < (k : Int) := by omega
  have HW := Lib.hid hW
  have HBL := Lib.hid hbl
  have HPL := Lib.hid (pad4_len hb4)
  have HSP := Lib.hid (splice_pad b hb4)
  have HLL := Lib.hid hl
  have hs4 := slice4
  clear qB kR e1 h1 h hW hbl hl
  go_enter Tryz.func57, Tryz.ntmps57
  go_wp2_with fail
  refine QB.out.mono ?_
  rintro e w1 ⟨rfl, hr1, hg1⟩
  have R1 := Lib.hid hr1
  have K1 := Lib.hid (KR.out.grown hg1 (by omega))
  have G1 := Lib.hid (grown_trans HW.out hg1)
  clear hr1 hg1 QB
  go_wp2_with fail
  refine (Err_any _ _ _ _ _ R1.out).mono ?_
  rintro e w1' ⟨rfl, rfl⟩
  simp only [errN]
  go_wp2_with fail
  refine (QO _).out.mono ?_
  rintro e w1' ⟨rfl, rfl⟩
  go_wp2_with fail
  have qT := Take_any (((k + 7) / 8 : Nat) : Int) B g (b ++ rest) false w1 R1.out HLL.out
  rw [rdTake_appP b rest _ HBL.out.symm] at qT
  refine qT.mono ?_
  rintro e w2 ⟨A2, c2, rfl, f1, f2, hown2, hr2, hg2⟩
  dsimp only at hr2
  have R2 := Lib.hid hr2
  have K2 := Lib.hid (K1.out.grown hg2 (by omega))
  have G2 := Lib.hid (grown_trans G1.out hg2)
  have Y2 := Lib.hid hown2.bytes
  clear hr2 hg2 hown2 f1 f2 qT R1 K1 G1
  go_wp2_with fail
  refine (Err_any _ _ _ _ _ R2.out).mono ?_
  rintro e w2' ⟨rfl, rfl⟩
  simp only [errN]
  have HC4 := heap_alloc_new w2 (.cells #[.int .u8 0, .int .u8 0, .int .u8 0, .int .u8 0] 132)
  have YA := Lib.hid (Y2.out.alloc (.cells #[.int .u8 0, .int .u8 0, .int .u8 0, .int .u8 0] 132))
  have HC5 := Lib.hid HC4
  clear HC4
  go_wp2_with (refine wpList_copy_splice rfl (.tmp 30) (.tmp 31) 33 33 rfl 5 Tryz.underlying33 (by kernel_rfl) (some ⟨w2.heap.size, 0, none⟩) A2 4 4 b.length c2 rfl rfl w2.heap.size 0 [.int .u8 0, .int .u8 0, .int .u8 0, .int .u8 0] 132 HC5.out (b.map fun x => Value.int .u8 (x.toNat : Int)) ?c1 ?c2 ?c3 ?c4 w2.heap.size w2 ?c5 (Nat.le_refl _) ?_)
  case c1 =>
    rw [List.length_map]
    show b.length = min b.length 4
    omega
  case c2 =>
    intro hpos
    obtain ⟨bb, off, hA, _, hc⟩ := YA.out (by intro e; rw [e] at hpos; simp at hpos)
    refine ⟨_, hA, fun j x hj => ?_⟩
    have hj' : j < b.length := (List.getElem?_eq_some_iff.1 hj).1
    rw [Addr.add_lit, hc j hj']
    simp [List.getD, hj]
  case c3 =>
    rw [List.length_map]
    show 0 + b.length ≤ 4
    omega
  case c4 => exact cells_oneCell b
  case c5 => exact (Below.refl _ _).alloc (Nat.le_refl _) _
  intro w3 hg3 hb3
  have hk3 : Blk w3 w2.heap.size 132 ((pad4 b).map fun x => Value.int .u8 (x.toNat : Int)) := by
    have h := hg3.out
    rw [HSP.out] at h
    exact h
  have Y3 := Lib.hid (show Bytes w3 (some ⟨w2.heap.size, 0, none⟩) (pad4 b) from fun _ => ⟨w2.heap.size, 0, rfl, hk3.lt, fun j hj => by rw [hk3.cell]; simp [List.getD, hj]⟩)
  have hsb := hb3.size
  clear hg3 hk3 YA HC5 Y2
  go_wp2_with fail
  refine (New_any _ 4 4 (pad4 b) HPL.out.symm w3 Y3.out (by rw [HPL.out]; exact Nat.le_refl _) (by unfold maxLen; decide)).mono ?_
  rintro e w4 ⟨rfl, hr4, hb4'⟩
  have R4 := Lib.hid hr4
  have B4 := Lib.hid (hb3.trans (hb4'.mono hb3.size))
  clear hr4 hb4' hb3 Y3
  go_wp2_with fail
  have e4 : rdTake (pad4 b) false 4 = (pad4 b, [], false) := by
    have h := rdTake_appP (pad4 b) [] 4 HPL.out.symm
    rwa [List.append_nil] at h
  have q5 := U32_any _ _ _ _ _ R4.out
  rw [e4] at q5
  refine q5.mono ?_
  rintro e w5 ⟨rfl, _, hg5⟩
  have B5 := Lib.hid (B4.out.trans (below_of_grown hg5 B4.out.size hsb))
  clear hg5 q5 e4 R4 B4
  go_wp2_with fail
  refine (QN _).out.mono ?_
  rintro e w6 ⟨rfl, hb6⟩
  have hb6' := B5.out.trans (hb6.mono B5.out.size)
  have hk6 := K2.out.below hb6' K2.out.lt
  have R6 := Lib.hid (R2.out.below hb6' R2.out.lt)
  have G6 := Lib.hid (grown_trans G2.out (grown_of_below hb6' _))
  have c6 := cells2 hk6
  have f6 := free2 hk6
  have K6 := Lib.hid hk6
  have HBg := Lib.hid R2.out.1
  obtain ⟨X, hX⟩ : ∃ X, X = hi (num (pad4 b)) k := ⟨_, rfl⟩
  rw [← hX]
  have HX := Lib.hid hX
  clear hb6 hb6' hk6 B5 R2 K2 G2 hX
  go_wp2_with fail
  refine bodyPost_ret (v := .tuple #[.agg #[.int .u32 (X : Int), .int .i64 (k : Int)], .int .i64 0]) (by simp [results, Tryz.results57, go_sem, (res_cells (.int .u32 (X : Int)) (.int .i64 (k : Int)) K6.out).1, (res_cells (.int .u32 (X : Int)) (.int .i64 (k : Int)) K6.out).2]) rfl ⟨by rw [HX.out], ?_, ?_⟩
  · exact R6.out.grown (grown_setCell (grown_setCell (grown_refl _ _) _ _) _ _) (Nat.ne_of_lt hg0) (by have := HBg.out; omega)
  · exact grown_setCell_new (grown_setCell_new G6.out (Nat.le_refl _) _ _) (Nat.le_refl _) _ _
theorem hi_of_hi (c : Nat) {n m : Nat} (h : n ≤ m) (hm : m ≤ 32) : hi (hi c m) n = hi c n := by
  unfold hi
  have e : 2 ^ (32 - n) = 2 ^ (32 - m) * 2 ^ (m - n) := by rw [← Nat.pow_add]; congr 1; omega
  have hp : 0 < 2 ^ (32 - m) := Nat.pow_pos (by decide)
  rw [e, Nat.mul_comm (c / 2 ^ (32 - m)), Nat.mul_div_mul_left _ _ hp, Nat.div_div_eq_div_mul]

theorem num_be32P (a r : Nat) (ha : a < 4294967296) (hr : r ≤ 4) : num (pad4 ((be32 (a : Int)).take r)) = a / 2 ^ (32 - 8 * r) * 2 ^ (32 - 8 * r) := by
  have t : ∀ x : Int, 0 ≤ x → x < 256 → (UInt8.ofNat x.toNat).toNat = x.toNat := fun x h1 h2 => by rw [UInt8.toNat_ofNat', Nat.mod_eq_of_lt (by omega)]
  rcases (show r = 0 ∨ r = 1 ∨ r = 2 ∨ r = 3 ∨ r = 4 by omega) with rfl | rfl | rfl | rfl | rfl
  all_goals simp only [be32, pad4, num, List.take, List.foldl, List.length, List.replicate, List.append_nil, List.nil_append, List.cons_append, Nat.reduceSub, Nat.reduceAdd, Nat.reduceMul, Nat.reducePow]
  all_goals try simp only [t ((a : Int) / 16777216 % 256) (by omega) (by omega), t ((a : Int) / 65536 % 256) (by omega) (by omega), t ((a : Int) / 256 % 256) (by omega) (by omega), t ((a : Int) % 256) (by omega) (by omega)]
  all_goals try simp
  all_goals try omega
/-- The bytes of a right prefix say that prefix. -/
theorem hi_backP {a k : Nat} (ha : a < 4294967296) (hk : k ≤ 32) (hok : okPx (a : Int) (k : Int) = true) : hi (num (pad4 ((be32 (a : Int)).take ((k + 7) / 8)))) k = a := by
  have h1 : hi a k = a := by
    unfold okPx at hok
    simp only [decide_eq_true_eq, Int.toNat_natCast] at hok
    exact hok.2.2
  have h2 : num (pad4 ((be32 (a : Int)).take ((k + 7) / 8))) = hi a (8 * ((k + 7) / 8)) := num_be32P a _ ha (by omega)
  rw [h2, hi_of_hi a (by omega) (by omega), h1]
/-- A right prefix's bytes, and more behind them: the prefix is read. -/
theorem read_back5 {more : List UInt8} (a k B g : Nat) (w : World) (ha : a < 4294967296) (hk : k ≤ 32) (hok : okPx (a : Int) (k : Int) = true) (hl : (bytesP a k ++ more).length ≤ 1000000) (h : Rd w B g (bytesP a k ++ more) false) :
    Calls Tryz.prog 57 #[.pointer (some ⟨g, 0, none⟩)] w (ReadPostP w B g a k more) := by
  have hlen : ((be32 (a : Int)).take ((k + 7) / 8)).length = (k + 7) / 8 := by simp [be32]; omega
  have h2 := ReadP_ok k B g ((be32 (a : Int)).take ((k + 7) / 8)) more w h hk hlen (by
    have e : bytesP a k ++ more = UInt8.ofNat k :: ((be32 (a : Int)).take ((k + 7) / 8) ++ more) := rfl
    rw [e, List.length_cons] at hl
    omega)
  rw [hi_backP ha hk hok] at h2
  exact h2
end Go.Proofs.YtnaangnmlbgmkaaGreatDoor

/-
  A row of prefixes in memory, and what it comes to in bytes.
-/
namespace Go.Proofs.YtnaangnmlbgmkaaGreatDoor
set_option linter.unusedVariables false
set_option linter.unusedSimpArgs false
open Go.RowKit

/-- A prefix: its number and its length. -/
abbrev Px := Nat × Int
def PxAt (w : World) (b o : Nat) (x : Px) : Prop := w.cell? ⟨b, o, none⟩ = some (.int .u32 (x.1 : Int)) ∧ w.cell? ⟨b, o + 1, none⟩ = some (.int .i64 x.2)
/-- A row of prefixes. -/
def PxsIn (w : World) (B : Nat) (A : Option Addr) (L : List Px) : Prop :=
  L ≠ [] → ∃ b off, A = some ⟨b, off, none⟩ ∧ b < B ∧ ∀ (j : Nat) x, L[j]? = some x → PxAt w b (off + j * 2) x
theorem PxsIn.nil (w : World) (B : Nat) (A : Option Addr) : PxsIn w B A [] := fun h => absurd rfl h
theorem PxsIn.lift {w : World} {B B' : Nat} {A : Option Addr} {L : List Px} (h : PxsIn w B A L) (hB : B ≤ B') : PxsIn w B' A L := fun hl => by
  obtain ⟨b, off, hA, hlt, hc⟩ := h hl
  exact ⟨b, off, hA, Nat.lt_of_lt_of_le hlt hB, hc⟩
theorem PxsIn.below {w w' : World} {B B' : Nat} {A : Option Addr} {L : List Px} (h : PxsIn w B A L) (hb : Below B' w w') (hB : B ≤ B') : PxsIn w' B A L := by
  intro hl
  obtain ⟨b, off, hA, hlt, hc⟩ := h hl
  refine ⟨b, off, hA, hlt, fun j x hj => ?_⟩
  obtain ⟨h1, h2⟩ := hc j x hj
  exact ⟨(hb.cell (p := ⟨b, off + j * 2, none⟩) (Nat.lt_of_lt_of_le hlt hB)).trans h1, (hb.cell (p := ⟨b, off + j * 2 + 1, none⟩) (Nat.lt_of_lt_of_le hlt hB)).trans h2⟩
theorem PxsIn.at {w : World} {B : Nat} {A : Option Addr} {L : List Px} (h : PxsIn w B A L) {k : Nat} {x : Px} (hk : L[k]? = some x) :
    ∃ b off, A = some ⟨b, off, none⟩ ∧ b < B ∧ PxAt w b (off + k * 2) x := by
  obtain ⟨b, off, hA, hlt, hc⟩ := h (by intro e; subst e; simp at hk)
  exact ⟨b, off, hA, hlt, hc k x hk⟩
/-- What a prefix that came in is. -/
def PxFit (x : Px) : Prop := x.1 < 4294967296 ∧ (-9223372036854775808 ≤ x.2 ∧ x.2 ≤ 9223372036854775807)
/-- May a prefix be? -/
def pxOk (x : Px) : Bool := okPx (x.1 : Int) x.2
def pxsOk (L : List Px) : Bool := L.all pxOk
/-- Prefixes' bytes. -/
def pxB (L : List Px) : List UInt8 := L.flatMap fun x => bytesP x.1 x.2.toNat
theorem bytesP_len (a k : Nat) : 1 ≤ (bytesP a k).length ∧ (bytesP a k).length ≤ 5 := by
  unfold bytesP
  rw [List.length_cons, List.length_take]
  have : (be32 (a : Int)).length = 4 := rfl
  omega
theorem pxB_len : ∀ L : List Px, (pxB L).length ≤ 5 * L.length
  | [] => Nat.le_refl _
  | x :: L => by
    have h := pxB_len L
    have h2 := (bytesP_len x.1 x.2.toNat).2
    unfold pxB at h ⊢
    rw [List.flatMap_cons, List.length_append, List.length_cons]
    omega
theorem pxB_step {L : List Px} {j : Nat} {x : Px} (h : L[j]? = some x) : pxB (L.take (j + 1)) = pxB (L.take j) ++ bytesP x.1 x.2.toNat := by
  have hj := (List.getElem?_eq_some_iff.1 h).1
  have e : L[j] = x := (List.getElem?_eq_some_iff.1 h).2
  unfold pxB
  rw [List.take_succ_eq_append_getElem hj, e, List.flatMap_append]
  simp
theorem pxB_take_len {L : List Px} (j : Nat) : (pxB (L.take j)).length ≤ 5 * L.length := by
  have h := pxB_len (L.take j)
  have : (L.take j).length ≤ L.length := by rw [List.length_take]; omega
  omega
theorem pxsOk_step {L : List Px} {j : Nat} {x : Px} (h : L[j]? = some x) (hp : pxsOk (L.take j) = true) (hx : pxOk x = true) : pxsOk (L.take (j + 1)) = true := by
  have hj := (List.getElem?_eq_some_iff.1 h).1
  have e : L[j] = x := (List.getElem?_eq_some_iff.1 h).2
  unfold pxsOk at hp ⊢
  rw [List.take_succ_eq_append_getElem hj, e, List.all_append, hp]
  simpa using hx
theorem pxsOk_bad {L : List Px} {j : Nat} {x : Px} (h : L[j]? = some x) (hx : pxOk x = false) : pxsOk L = false := by
  cases hb : pxsOk L with
  | false => rfl
  | true =>
    unfold pxsOk at hb
    rw [List.all_eq_true] at hb
    rw [hb x (List.mem_of_getElem? h)] at hx
    cases hx
/-- A prefix that may be has a length of 32 at the most. -/
theorem pxOk_le {x : Px} (h : pxOk x = true) : ∃ k : Nat, x.2 = (k : Int) ∧ k ≤ 32 ∧ x.2.toNat = k := by
  unfold pxOk okPx at h
  have h1 := of_decide_eq_true h
  exact ⟨x.2.toNat, by omega, by omega, rfl⟩
end Go.Proofs.YtnaangnmlbgmkaaGreatDoor

/-
  A prefix's bytes, by the document.
-/
namespace Go.Proofs.YtnaangnmlbgmkaaGreatDoor
set_option linter.unusedVariables false
set_option linter.unusedSimpArgs false
open Go.RowKit

set_option maxHeartbeats 1600000 in
theorem RefPPut_bad (A : Option Addr) (c : Nat) (l : List UInt8) (a : Nat) (n : Int) (w : World) (ha : a < 4294967296) (hok : okPx (a : Int) n = false) :
    Calls Tryz.prog 49 #[.slice A l.length c, .agg #[.int .u32 (a : Int), .int .i64 n]] w fun e w' => e = .returned (retPut (.slice none 0 0) 1) ∧ Below w.heap.size w w' := by
  have QR := fun w => Lib.hid (RefRightP_any a n w ha)
  rw [hok] at QR
  clear hok
  go_enter Tryz.func49, Tryz.ntmps49
  go_wp2_with fail
  refine (QR _).out.mono ?_
  rintro e w1 ⟨rfl, hb1⟩
  go_wp2_with fail
  exact bodyPost_ret (v := retPut (.slice none 0 0) 1) (by simp [results, Tryz.results49, go_sem, retPut]) rfl ⟨rfl, below_boxP hb1⟩

/-- What a call leaves that returns bytes of its own and no error. -/
def RetPutP (w : World) (l : List UInt8) (e : Ending) (w' : World) : Prop :=
  ∃ A' c', e = .returned (retPut (.slice A' l.length c') 0) ∧ l.length ≤ c' ∧ c' ≤ maxLen ∧ Own w' w.heap.size 5 (.slice A' l.length c') l ∧ Below w.heap.size w w'

/-- What is left of a number's bytes behind the first j, as the highest of four. -/
def nP (a : Nat) : Nat → Nat
  | 0 => a
  | j + 1 => nP a j % 16777216 * 256
theorem nP_lt {a : Nat} (ha : a < 4294967296) (j : Nat) : nP a j < 4294967296 := by
  cases j with
  | zero => exact ha
  | succ j => simp only [nP]; omega
theorem nP_byte {a j : Nat} (ha : a < 4294967296) (hj : j < 4) : UInt8.ofNat (((nP a j : Nat) : Int) / 16777216).toNat = (be32 (a : Int)).getD j 0 := by
  have e : ∀ x y : Int, x = y → UInt8.ofNat x.toNat = UInt8.ofNat y.toNat := fun x y h => by rw [h]
  rcases (show j = 0 ∨ j = 1 ∨ j = 2 ∨ j = 3 by omega) with rfl | rfl | rfl | rfl
  · exact e _ _ (by simp only [nP]; omega)
  · exact e _ _ (by simp only [nP]; omega)
  · exact e _ _ (by simp only [nP]; omega)
  · exact e _ _ (by simp only [nP]; omega)

def PutPRel (w : World) (l : List UInt8) (a k : Nat) (v n i : Value) (wr : World) : Prop :=
  Below (w.alloc (.cells #[.int .u32 (a : Int), .int .i64 (k : Int)] 54)).heap.size (w.alloc (.cells #[.int .u32 (a : Int), .int .i64 (k : Int)] 54)) wr ∧
    ∃ j N : Nat, j ≤ (k + 7) / 8 ∧ i = .int .i64 (j : Int) ∧ n = .int .i64 (N : Int) ∧ Hid (N = nP a j) ∧ Own wr (w.alloc (.cells #[.int .u32 (a : Int), .int .i64 (k : Int)] 54)).heap.size 5 v ((l ++ [UInt8.ofNat k]) ++ (be32 a).take j)

set_option maxHeartbeats 6400000 in
theorem RefPPut_ok (A : Option Addr) (c : Nat) (l : List UInt8) (a k : Nat) (w : World) (ha : a < 4294967296) (hk : k ≤ 32) (hok : okPx (a : Int) (k : Int) = true) (hl : l.length ≤ 1000000) (hb : Bytes w A l) :
    Calls Tryz.prog 49 #[.slice A l.length c, .agg #[.int .u32 (a : Int), .int .i64 (k : Int)]] w (RetPutP w (l ++ bytesP a k)) := by
  have QR := fun w => Lib.hid (RefRightP_any a (k : Int) w ha)
  rw [hok] at QR
  clear hok
  have HS := Lib.hid (fun w' hb => box_cells w (.int .u32 (a : Int)) (.int .i64 (k : Int)) (w' := w') hb)
  have hb0 := Below.refl (w.alloc (.cells #[.int .u32 (a : Int), .int .i64 (k : Int)] 54)).heap.size (w.alloc (.cells #[.int .u32 (a : Int), .int .i64 (k : Int)] 54))
  have HBy := Lib.hid (hb.alloc (.cells #[.int .u32 (a : Int), .int .i64 (k : Int)] 54))
  have eS : (w.alloc (.cells #[.int .u32 (a : Int), .int .i64 (k : Int)] 54)).heap.size = w.heap.size + 1 := by simp
  have HE := Lib.hid eS
  have hw8 := wrap8 hk
  clear hb eS
  go_enter Tryz.func49, Tryz.ntmps49
  go_wp2_with fail
  refine (QR _).out.mono ?_
  rintro e w1 ⟨rfl, hb1'⟩
  have hb1 := hb0.trans (hb1'.mono hb0.size)
  clear hb1'
  have HC := HS.out _ hb1
  have hA1 := HBy.out.below hb1
  have HA1 := Lib.hid hA1; clear hA1
  go_wp2_with (at_builtin; refine wpList_append_bytes isBytes rfl (.tmp 12) (.tmp 13) rfl (w.alloc (.cells #[.int .u32 (a : Int), .int .i64 (k : Int)] 54)) (.slice none 0 0) [] rfl (Own.nil w1 _ _) A l l.length c rfl rfl HA1.out (by simp; omega) hb1 ?_)
  intro v2 w2 hown2 hg2 hb2
  rw [← HE.out] at hown2 hb2
  have HC2 := HS.out _ hb2
  have H2 := Lib.hid hown2; clear hown2 hg2 HC HA1
  go_wp2_with (at_builtin; refine wpList_append_byte isBytes rfl (.tmp 15) (.tmp 19) rfl (w.alloc (.cells #[.int .u32 (a : Int), .int .i64 (k : Int)] 54)) v2 l rfl w2 _ rfl H2.out rfl ?b0 ?b1 ?b2 hb2 ?_)
  case b0 => omega
  case b1 => omega
  case b2 => omega
  intro v3 w3 hown3 hg3 hb3
  rw [← HE.out] at hown3 hb3
  have HC3 := HS.out _ hb3
  have H3 := Lib.hid hown3; clear hown3 hg3 HC2 H2 hb2
  go_wp2_with fail
  go_loopw [6, 7, 8] (fun v n i wr => PutPRel w l a k v n i wr) (fun _ _ i _ => 5 - (intOf i).toNat)
  case atStart => exact ⟨hb3, 0, a, by omega, rfl, rfl, Lib.hid rfl, by simpa using H3.out⟩
  case round =>
    clear hb3 HC3 H3 hb1
    obtain ⟨hbr, j, N, hj, rfl, rfl, hNN, hown⟩ := hrel
    have HCr := HS.out _ hbr
    have hN := nP_lt ha j
    rw [← hNN.out] at hN
    have hll : ((l ++ [UInt8.ofNat k]) ++ (be32 a).take j).length ≤ 1000005 := by simp [be32]; omega
    by_cases hlt : 8 * j < k
    · have hltI : 8 * (j : Int) < (k : Int) := by omega
      have HB := Lib.hid (nP_byte ha (show j < 4 by omega))
      have hnx : ((nP a j : Nat) : Int) % 16777216 * 256 = ((nP a (j + 1) : Nat) : Int) := by simp only [nP]; omega
      have HNX := Lib.hid hnx
      have H := Lib.hid hown
      have HLL := Lib.hid hll
      rw [← hNN.out] at HB HNX
      clear hown hnx hll hNN hlt
      go_wp2_with (at_builtin; refine wpList_append_byte isBytes rfl (.tmp 31) (.tmp 35) rfl (w.alloc (.cells #[.int .u32 (a : Int), .int .i64 (k : Int)] 54)) _ _ rfl wr _ rfl H.out rfl ?b0 ?b1 ?b2 hbr ?_)
      case b0 => omega
      case b1 => omega
      case b2 => have := HLL.out; omega
      intro v4 w4 hown4 hg4 hb4
      rw [← HE.out] at hown4 hb4
      have H4 := Lib.hid hown4
      clear hown4 hg4
      go_wp2_with fail
      go_roundw
      case rel => exact ⟨hb4, j + 1, nP a (j + 1), by omega, by go_num, by rw [HNX.out], Lib.hid rfl, by
        have h := H4.out
        rw [HB.out] at h
        rw [take_snoc (be32 a) j (by simp [be32]; omega)]
        simpa using h⟩
      case measure => simp [intOf]; omega
    · have hltI : ¬ 8 * (j : Int) < (k : Int) := by omega
      have hj2 : j = (k + 7) / 8 := by omega
      have hE : (l ++ [UInt8.ofNat k]) ++ (be32 a).take j = l ++ bytesP a k := by rw [hj2, List.append_assoc]; rfl
      rw [hE] at hown
      obtain ⟨A', c', rfl, f1, f2⟩ := hown.form
      have H := Lib.hid (show Own wr w.heap.size 5 _ _ from hown.lower (by simp))
      have F1 := Lib.hid f1; have F2 := Lib.hid f2
      clear hown hll hE hj2 f1 f2 hlt hNN
      go_wp2_with fail
      exact bodyPost_ret (v := retPut (.slice A' (l ++ bytesP a k).length c') 0) (by simp [results, Tryz.results49, go_sem, retPut]) rfl ⟨A', c', rfl, F1.out, F2.out, H.out, below_boxP hbr⟩
end Go.Proofs.YtnaangnmlbgmkaaGreatDoor

/-
  Prefixes are put as long as there is room, which a closure holds: the program's.
-/
namespace Go.Proofs.YtnaangnmlbgmkaaGreatDoor
set_option linter.unusedVariables false
set_option linter.unusedSimpArgs false
open Go.RowKit

/-- A world in which the room is r. -/
def roomW (W : World) (g : Nat) (r : Int) : World := W.setCell ⟨g, 0, none⟩ (.int .i64 r)
theorem roomW_size (W : World) (g : Nat) (r : Int) : (roomW W g r).heap.size = W.heap.size := by simp [roomW, World.setCell]
theorem roomW_blk {W : World} {g : Nat} {u : Value} (h : Blk W g 3 [u]) (r : Int) : Blk (roomW W g r) g 3 [.int .i64 r] := h.set 0 _
theorem roomW_same {W : World} {g : Nat} {r : Int} (h : Blk W g 3 [.int .i64 r]) : Below W.heap.size (roomW W g r) W := by
  refine ⟨rfl, rfl, rfl, by rw [roomW_size]; exact Nat.le_refl _, fun k hk => ?_⟩
  by_cases e : k = g
  · subst e
    exact Eq.trans h (roomW_blk h r).symm
  · exact (Below.heap_setCell W ⟨g, 0, none⟩ _ k e).symm
theorem roomW_next {W w2 : World} {g : Nat} {u : Value} {r : Int} (h : Blk W g 3 [u]) (hb : Below W.heap.size (roomW W g r) w2) (r' : Int) : Below W.heap.size (roomW W g r') (roomW w2 g r') := by
  have k2 : Blk w2 g 3 [.int .i64 r] := (roomW_blk h r).below hb h.lt
  refine ⟨hb.os, hb.tape, hb.output, ?_, fun k hk => ?_⟩
  · have := hb.size
    rw [roomW_size] at this ⊢
    rw [roomW_size]
    exact this
  · by_cases e : k = g
    · subst e
      exact Eq.trans (roomW_blk k2 r') (roomW_blk h r').symm
    · have h1 : (roomW w2 g r').heap[k]? = w2.heap[k]? := Below.heap_setCell w2 ⟨g, 0, none⟩ _ k e
      have h2 : (roomW W g r').heap[k]? = W.heap[k]? := Below.heap_setCell W ⟨g, 0, none⟩ _ k e
      have h3 : (roomW W g r).heap[k]? = W.heap[k]? := Below.heap_setCell W ⟨g, 0, none⟩ _ k e
      rw [h1, h2, ← h3]
      exact hb.block k hk
theorem PxsIn.room {W wr : World} {g : Nat} {A : Option Addr} {L : List Px} {r : Int} (h : PxsIn W g A L) (hg : g < W.heap.size) (hb : Below W.heap.size (roomW W g r) wr) : PxsIn wr g A L :=
  (h.below ((Below.refl g W).setCell (p := ⟨g, 0, none⟩) (Nat.le_refl _) (.int .i64 r)) (Nat.le_refl _)).below hb (by omega)
theorem Own.room {w : World} {B g : Nat} {u v : Value} {l : List UInt8} (h : Own w B 5 v l) (hk : Blk w g 3 [u]) (r : Int) : Own (roomW w g r) B 5 v l := by
  refine World.ownsRow.kept h (grown_setCell (grown_refl w (some g)) 0 _) ?_
  exact .inr (h.ne_blk hk (by decide))
/-- Do all find room? -/
def roomB (L : List Px) (r : Int) : Prop := L = [] ∨ ((pxB L).length : Int) ≤ r
/-- What the closure leaves. -/
def RoomRet (W : World) (g : Nat) (r : Int) (L : List Px) (e : Ending) (w' : World) : Prop :=
  ∃ (A : Option Addr) (l : List UInt8) (c : Nat) (D : Option Addr) (m dc : Nat) (r' : Int), e = .returned (.tuple #[.slice A l.length c, .slice D m dc]) ∧ l.length ≤ c ∧ c ≤ maxLen ∧ r' ≤ r ∧ r - 500000 ≤ r' ∧ l.length ≤ 5 * L.length ∧ Below W.heap.size (roomW W g r') w' ∧ Own w' W.heap.size 5 (.slice A l.length c) l ∧
    (roomB L r → m = 0 ∧ l = pxB L ∧ r' = r - ((pxB L).length : Int)) ∧ (¬ roomB L r → 0 < m)
def RoomRel (W : World) (g : Nat) (r : Int) (L : List Px) (v i : Value) (wr : World) : Prop :=
  ∃ j : Nat, j ≤ L.length ∧ i = .int .i64 (j : Int) ∧ Own wr W.heap.size 5 v (pxB (L.take j)) ∧ Below W.heap.size (roomW W g (r - ((pxB (L.take j)).length : Int))) wr ∧ Hid (j = 0 ∨ ((pxB (L.take j)).length : Int) ≤ r)
theorem pxB_le_all (L : List Px) (j : Nat) : (pxB (L.take j)).length ≤ (pxB L).length := by
  have h : pxB L = pxB (L.take j) ++ pxB (L.drop j) := by
    unfold pxB
    rw [← List.flatMap_append, List.take_append_drop]
  rw [h, List.length_append]; omega
set_option maxHeartbeats 6400000 in
theorem Room5_any (A : Option Addr) (c : Nat) (L : List Px) (W : World) (g : Nat) (r : Int) (hk : Blk W g 3 [.int .i64 r]) (h : PxsIn W g A L) (hc : L.length ≤ c) (hm : c ≤ maxLen) (hf : ∀ x ∈ L, PxFit x) (hok : pxsOk L = true) (hl : L.length ≤ 100000) (hr : -1000000 ≤ r ∧ r ≤ 1000000) :
    Calls Tryz.prog 45 #[.slice A L.length c, .pointer (some ⟨g, 0, none⟩)] W (RoomRet W g r L) := by
  have HK := Lib.hid hk; have HS := Lib.hid h; have HF := Lib.hid hf; have HR := Lib.hid hr; have HC := Lib.hid (And.intro hc hm)
  have HOK := Lib.hid (show ∀ x ∈ L, pxOk x = true from fun x hx => (List.all_eq_true.1 hok) x hx)
  have HL := Lib.hid hl
  clear hk h hf hr hok hc hm hl
  go_enter Tryz.func45, Tryz.ntmps45
  go_wp2_with fail
  go_loopw [5, 12] (fun v i wr => RoomRel W g r L v i wr) (fun _ i _ => L.length - (intOf i).toNat)
  case atStart =>
    refine ⟨0, Nat.zero_le _, rfl, Own.nil _ _ _, ?_, Lib.hid (.inl rfl)⟩
    have e : r - ((pxB (L.take 0)).length : Int) = r := by simp [pxB]
    rw [e]
    exact roomW_same HK.out
  case round =>
    obtain ⟨j, hj, rfl, hown, hbr, hle⟩ := hrel
    have hl := HL.out
    by_cases hlt : j < L.length
    · obtain ⟨x, hx⟩ : ∃ x, L[j]? = some x := ⟨_, List.getElem?_eq_getElem hlt⟩
      obtain ⟨b, off, rfl, hb, k1, k2⟩ := (HS.out.room HK.out.lt hbr).at hx
      have hfit := HF.out x (List.mem_of_getElem? hx)
      obtain ⟨k, hkk, hk32, hkn⟩ := pxOk_le (HOK.out x (List.mem_of_getElem? hx))
      have hpo := HOK.out x (List.mem_of_getElem? hx)
      have hstep := pxB_step hx
      have hall := pxB_le_all L (j + 1)
      have htl := pxB_take_len (L := L) j
      obtain ⟨a, n⟩ := x
      dsimp only at k1 k2 hkk hkn hstep
      subst hkk
      obtain ⟨T, hT⟩ : ∃ T, T = (pxB (L.take j)).length := ⟨_, rfl⟩
      obtain ⟨R, hR⟩ : ∃ R, R = r - (T : Int) := ⟨_, rfl⟩
      rw [← hT, ← hR] at hbr
      rw [← hT] at hle
      rw [hkn] at hstep
      have hdl := bytesP_len a k
      have Q0 : ∀ w', Calls Tryz.prog 46 #[.slice none 0 0, .agg #[.int .u32 (a : Int), .int .i64 (k : Int)]] w' fun e w'' => ∃ A' c', e = .returned (retPut (.slice A' (bytesP a k).length c') 0) ∧ (bytesP a k).length ≤ c' ∧ c' ≤ maxLen ∧ Own w'' w'.heap.size 5 (.slice A' (bytesP a k).length c') (bytesP a k) ∧ Below w'.heap.size w' w'' := fun w' => by
        have := PPut_ok none 0 [] a k w' hfit.1 hk32 hpo (by simp) (At.nil _ _ _)
        simpa only [List.nil_append, List.length_nil] using this
      obtain ⟨d, hd⟩ : ∃ d, d = bytesP a k := ⟨_, rfl⟩
      rw [← hd] at Q0 hstep hdl
      have Q := fun w' => Lib.hid (Q0 w')
      obtain ⟨A1, c1, rfl, f1, f2⟩ := hown.form
      have HOW := Lib.hid hown; have HBR := Lib.hid hbr; have HX := Lib.hid hx; have HLE := Lib.hid hle
      have hl2 : (pxB (L.take (j + 1))).length = T + d.length := by rw [hstep, List.length_append, hT]
      have HST := Lib.hid hstep
      have HNUM := Lib.hid (show T + d.length ≤ (pxB L).length ∧ T ≤ 500000 by omega)
      have HT := Lib.hid hT; have HRR := Lib.hid hR; have HL2 := Lib.hid hl2
      have hbA := hbr.alloc (by have := hbr.size; rw [roomW_size] at this; exact this) (.cells #[.int .u32 (a : Int), .int .i64 (k : Int)] 54)
      have HBA := Lib.hid hbA
      clear hown hbr hx hle hstep hl2 hT hR Q0 hd hkn hpo hfit hk32 hall htl hbA
      go_wp2_with fail
      refine (Q _).out.mono ?_
      rintro e w2 ⟨A2, c2, rfl, g1, g2, ho2, hb2⟩
      have HB2 := Lib.hid (show Below W.heap.size (roomW W g R) w2 from HBA.out.trans (hb2.mono (by have := HBA.out.size; rw [roomW_size] at this; exact this)))
      have kg := (roomW_blk HK.out R).below HB2.out HK.out.lt
      have cg : w2.cell? ⟨g, 0, none⟩ = some (.int .i64 R) := kg.cell 0
      have fg : w2.frozen? ⟨g, 0, none⟩ = false := kg.free 0
      have HKG := Lib.hid kg
      have HO2 := Lib.hid ho2
      have hbw : Below wr.heap.size wr w2 := ((Below.refl wr.heap.size wr).alloc (Nat.le_refl _) (.cells #[.int .u32 (a : Int), .int .i64 (k : Int)] 54)).trans (hb2.mono (by simp))
      have HO1 := Lib.hid (HOW.out.below hbw)
      have hn := HNUM.out; have hrr := HRR.out; have hr := HR.out
      clear ho2 hb2 hbw kg
      by_cases hfit : (d.length : Int) ≤ R
      · have hw : wrap64 (R - (d.length : Int)) = R - (d.length : Int) := by unfold wrap64; omega
        obtain ⟨W2, hW2⟩ : ∃ W2, W2 = roomW W g (R - (d.length : Int)) := ⟨_, rfl⟩
        have hs2 : W.heap.size = W2.heap.size := by rw [hW2, roomW_size]
        have HN := Lib.hid (show Below W2.heap.size W2 (w2.setCell ⟨g, 0, none⟩ (.int .i64 (R - (d.length : Int)))) by rw [← hs2, hW2]; exact roomW_next HK.out HB2.out _)
        have HO1b := Lib.hid (show Own (w2.setCell ⟨g, 0, none⟩ (.int .i64 (R - (d.length : Int)))) W2.heap.size 5 (.slice A1 (pxB (L.take j)).length c1) (pxB (L.take j)) by rw [← hs2]; exact HO1.out.room HKG.out _)
        have HO2b := Lib.hid (show Bytes (w2.setCell ⟨g, 0, none⟩ (.int .i64 (R - (d.length : Int)))) A2 d from (HO2.out.room HKG.out _).bytes)
        have HSZ := Lib.hid (show (pxB (L.take j)).length + d.length ≤ 140737488355328 by have h1 := HNUM.out; have h2 := HT.out; omega)
        have HS2 := Lib.hid hs2; have HWW := Lib.hid hW2
        have HFIT := Lib.hid hfit
        have HJ := Lib.hid hlt
        clear hs2 hW2 hn hrr hr
        unfold retPut
        go_wp2_with (at_builtin; refine wpList_append_bytes isBytes rfl (.tmp 34) (.tmp 35) rfl W2 (.slice A1 (pxB (L.take j)).length c1) (pxB (L.take j)) rfl HO1b.out A2 d d.length c2 rfl rfl HO2b.out HSZ.out HN.out ?_)
        intro v3 w3 ho3 hg3 hb3
        have HO3 := Lib.hid (show Own w3 W.heap.size 5 v3 (pxB (L.take (j + 1))) by rw [HST.out, HS2.out]; exact ho3)
        have HB3 := Lib.hid (show Below W.heap.size (roomW W g (r - ((pxB (L.take (j + 1))).length : Int))) w3 by
          have e : r - ((pxB (L.take (j + 1))).length : Int) = R - (d.length : Int) := by rw [HL2.out, HRR.out]; omega
          rw [e, ← HWW.out, HS2.out]; exact hb3)
        clear ho3 hg3 hb3
        go_wp2_with fail
        go_roundw
        case rel => exact ⟨j + 1, HJ.out, by go_num, HO3.out, HB3.out, Lib.hid (.inr (by rw [HL2.out]; have h1 := HFIT.out; have h2 := HRR.out; omega))⟩
        case measure => have := HJ.out; simp [intOf]; omega
      · have hfitI : (R : Int) < (d.length : Int) := by omega
        clear hfit hn hrr hr
        have hcc := HC.out
        unfold retPut
        go_wp2_with fail
        go_region
        all_goals
          have HNF := Lib.hid (show ¬ roomB L r by
            rintro (h0 | h1)
            · rw [h0] at hlt; simp at hlt
            · have h2 := HNUM.out.1; have h3 := HRR.out; omega)
          go_wp2_with fail
          go_ret2
          refine ⟨A1, pxB (L.take j), c1, _, L.length - j, c - j, R, rfl, f1, f2, ?_, ?_, pxB_take_len j, HB2.out.drew, HO1.out.drew, fun hy => absurd hy HNF.out, fun _ => by omega⟩
          · have h1 := HNUM.out; have h2 := HRR.out; omega
          · have h1 := HNUM.out; have h2 := HRR.out; have h3 := HR.out; omega
    · obtain rfl : j = L.length := by omega
      rw [List.take_length] at hown hbr hle
      obtain ⟨A1, c1, rfl, f1, f2⟩ := hown.form
      have HBR := Lib.hid hbr; have HOW := Lib.hid hown; have HLE := Lib.hid hle
      have hpl := pxB_len L
      have HPL := Lib.hid hpl
      clear hbr hown hle hpl
      go_wp2_with fail
      go_ret2
      refine ⟨A1, pxB L, c1, none, 0, 0, _, rfl, f1, f2, ?_, ?_, HPL.out, HBR.out, HOW.out, fun _ => ⟨rfl, rfl, rfl⟩, fun hno => ?_⟩
      · omega
      · have := HR.out; have := HPL.out; omega
      · refine absurd ?_ hno
        rcases HLE.out with h0 | h1
        · exact .inl (List.eq_nil_of_length_eq_zero h0)
        · exact .inr h1
end Go.Proofs.YtnaangnmlbgmkaaGreatDoor

/-
  Whether two rows of prefixes are the same: slices.Equal, and the document's Same.
-/
namespace Go.Proofs.YtnaangnmlbgmkaaGreatDoor
set_option linter.unusedVariables false
set_option linter.unusedSimpArgs false
open Go.RowKit

def Px.val (x : Px) : Value := .agg #[.int .u32 (x.1 : Int), .int .i64 x.2]
theorem pfx_fields : ∃ f1 f2 : Field, (Tryz.prog.fieldsOf 54).toList = [f1, f2] ∧ f1.name ≠ "_" ∧ f2.name ≠ "_" ∧
    (∀ a b : Value, ∀ w, (part 24 #[a, b] f1.offset).run Tryz.prog w = .ok a w) ∧ (∀ a b : Value, ∀ w, (part 3 #[a, b] f2.offset).run Tryz.prog w = .ok b w) ∧
    f1.type = 24 ∧ f2.type = 3 := by
  refine ⟨_, _, by unfold Program.fieldsOf; rw [Tryz.underlying54], ?_, ?_, ?_, ?_, ?_, ?_⟩
  all_goals first | decide | rfl | (intro a b w; kernel_rfl)
theorem px_neq (x y : Px) (w : World) : (binOp .neq 54 x.val y.val).run Tryz.prog w = .ok (.bool (!decide (x = y))) w := by
  unfold Px.val
  rw [run_neq_struct]
  have ht : Tryz.prog.underlying 54 = some (.struct (Tryz.prog.fieldsOf 54)) := by kernel_rfl
  have hp : Tryz.prog.stoodInHeld 54 = false := by kernel_rfl
  rw [show (10000 : Nat) = 9998 + 1 + 1 from rfl, run_equalIn_struct _ _ _ _ _ ht hp]
  obtain ⟨f1, f2, hf, n1, n2, p1, p2, t1, t2⟩ := pfx_fields
  rw [hf]
  simp only [Op.eqFields, n1, n2, Sem.run_bind, Sem.run_ite, p1, p2, Result.andThen_ok, t1, t2, run_equalIn_int _ _ _ _ _ _ _ Tryz.underlying3, run_equalIn_int _ _ _ _ _ _ _ Tryz.underlying24, Sem.run_pure, if_true, ne_eq, not_false_eq_true, ite_true]
  obtain ⟨a, n⟩ := x
  obtain ⟨b, m⟩ := y
  by_cases h1 : a = b
  · by_cases h2 : n = m
    · subst h1; subst h2
      simp
    · simp [h1, h2]
  · have h1' : ¬ (a : Int) = (b : Int) := by omega
    simp [h1, h1']
set_option maxHeartbeats 3200000 in
theorem EqualP_any (A A' : Option Addr) (c c' : Nat) (X Y : List Px) (w : World) (ha : PxsIn w w.heap.size A X) (hb : PxsIn w w.heap.size A' Y) (hm : X.length ≤ 1000000000) :
    Calls Tryz.prog 39 #[.slice A X.length c, .slice A' Y.length c'] w fun e w' => e = .returned (.bool (decide (X = Y))) ∧ Below w.heap.size w w' := by
  by_cases hl : X.length = Y.length
  · have hz : ((X.length : Int) != (Y.length : Int)) = false := by simp [hl]
    have HA := Lib.hid ha; have HB := Lib.hid hb
    obtain ⟨R, hR⟩ : ∃ R, R = decide (X = Y) := ⟨_, rfl⟩
    rw [← hR]
    have HR := Lib.hid hR; have HL := Lib.hid hl
    clear ha hb hR hl
    go_enter Tryz.func39, Tryz.ntmps39
    go_wp2_with fail
    go_loopw [13] (fun i wr => Below w.heap.size w wr ∧ ∃ j : Nat, j ≤ X.length ∧ i = .int .i64 (j : Int) ∧ Hid (X.take j = Y.take j)) (fun i _ => X.length - (intOf i).toNat)
    case atStart => exact ⟨Below.refl _ _, 0, by omega, rfl, Lib.hid rfl⟩
    case round =>
      obtain ⟨hbw, j, hj, rfl, HJ⟩ := hrel
      have HBW := Lib.hid hbw
      by_cases hlt : j < X.length
      · have hjz : (j : Int) < (X.length : Int) := by omega
        have hly := HL.out
        have hjy : (j : Int) < (Y.length : Int) := by omega
        obtain ⟨x, hx⟩ : ∃ x, X[j]? = some x := ⟨_, List.getElem?_eq_getElem hlt⟩
        obtain ⟨y, hy⟩ : ∃ y, Y[j]? = some y := ⟨_, List.getElem?_eq_getElem (by omega)⟩
        obtain ⟨g, og, rfl, hg, cx1, cx2⟩ := (HA.out.below hbw (Nat.le_refl _)).at hx
        obtain ⟨g', og', rfl, hg', cy1, cy2⟩ := (HB.out.below hbw (Nat.le_refl _)).at hy
        have hne := px_neq x y
        unfold Px.val at hne
        have HX := Lib.hid hx; have HY := Lib.hid hy; have HLY := Lib.hid hly
        clear hx hy hbw hly
        by_cases hxy : x = y
        · have e : (!decide (x = y)) = false := by simp [hxy]
          rw [e] at hne
          have HE := Lib.hid hxy
          clear e hxy
          go_wp2_with fail
          go_quiet (fail)
          go_wp2_with fail
          go_roundw
          case rel => exact ⟨below_drewN HBW.out _, j + 1, by omega, by go_num, Lib.hid (by rw [List.take_add_one, List.take_add_one, HJ.out, HX.out, HY.out, HE.out])⟩
          case measure => simp [intOf]; omega
        · have e : (!decide (x = y)) = true := by simp [hxy]
          rw [e] at hne
          have HE := Lib.hid (show R = false by
            rw [HR.out]
            refine decide_eq_false fun k => hxy ?_
            have := HX.out
            rw [k, HY.out] at this
            exact (Option.some.inj this).symm)
          clear e hxy
          go_wp2_with fail
          go_quiet (fail)
          go_wp2_with fail
          go_ret
          exact ⟨by rw [HE.out]; rfl, below_drewN HBW.out _⟩
      · have hjz : ¬ (j : Int) < (X.length : Int) := by omega
        have HE := Lib.hid (show R = true by
          rw [HR.out]
          have e1 : X.take j = X := List.take_of_length_le (by omega)
          have e2 : Y.take j = Y := List.take_of_length_le (by have := HL.out; omega)
          have := HJ.out
          rw [e1, e2] at this
          exact decide_eq_true this)
        clear hbw
        go_wp2_with fail
        go_ret
        exact ⟨by rw [HE.out]; rfl, HBW.out⟩
  · have hz : ((X.length : Int) != (Y.length : Int)) = true := by simp; omega
    have e : decide (X = Y) = false := decide_eq_false fun k => hl (by rw [k])
    rw [e]
    clear ha hb hl e
    go_enter Tryz.func39, Tryz.ntmps39
    go_wp2_with fail
    go_ret
    exact ⟨rfl, Below.refl _ _⟩
set_option maxHeartbeats 3200000 in
theorem RefSameP_any (A A' : Option Addr) (c c' : Nat) (X Y : List Px) (w : World) (ha : PxsIn w w.heap.size A X) (hb : PxsIn w w.heap.size A' Y) (hm : X.length ≤ 1000000000) :
    Calls Tryz.prog 16 #[.slice A X.length c, .slice A' Y.length c'] w fun e w' => e = .returned (.bool (decide (X = Y))) ∧ Below w.heap.size w w' := by
  by_cases hl : X.length = Y.length
  · have hz : ((X.length : Int) != (Y.length : Int)) = false := by simp [hl]
    have HA := Lib.hid ha; have HB := Lib.hid hb
    obtain ⟨R, hR⟩ : ∃ R, R = decide (X = Y) := ⟨_, rfl⟩
    rw [← hR]
    have HR := Lib.hid hR; have HL := Lib.hid hl
    clear ha hb hR hl
    go_enter Tryz.func16, Tryz.ntmps16
    go_wp2_with fail
    go_loopw [5] (fun i wr => Below w.heap.size w wr ∧ ∃ j : Nat, j ≤ X.length ∧ i = .int .i64 (j : Int) ∧ Hid (X.take j = Y.take j)) (fun i _ => X.length - (intOf i).toNat)
    case atStart => exact ⟨Below.refl _ _, 0, by omega, rfl, Lib.hid rfl⟩
    case round =>
      obtain ⟨hbw, j, hj, rfl, HJ⟩ := hrel
      have HBW := Lib.hid hbw
      by_cases hlt : j < X.length
      · have hjz : (j : Int) < (X.length : Int) := by omega
        have hly := HL.out
        have hjy : (j : Int) < (Y.length : Int) := by omega
        obtain ⟨x, hx⟩ : ∃ x, X[j]? = some x := ⟨_, List.getElem?_eq_getElem hlt⟩
        obtain ⟨y, hy⟩ : ∃ y, Y[j]? = some y := ⟨_, List.getElem?_eq_getElem (by omega)⟩
        obtain ⟨g, og, rfl, hg, cx1, cx2⟩ := (HA.out.below hbw (Nat.le_refl _)).at hx
        obtain ⟨g', og', rfl, hg', cy1, cy2⟩ := (HB.out.below hbw (Nat.le_refl _)).at hy
        have hne := px_neq x y
        unfold Px.val at hne
        have HX := Lib.hid hx; have HY := Lib.hid hy; have HLY := Lib.hid hly
        clear hx hy hbw hly
        by_cases hxy : x = y
        · have e : (!decide (x = y)) = false := by simp [hxy]
          rw [e] at hne
          have HE := Lib.hid hxy
          clear e hxy
          go_wp2_with fail
          go_quiet (fail)
          go_wp2_with fail
          go_roundw
          case rel => exact ⟨below_drewN HBW.out _, j + 1, by omega, by go_num, Lib.hid (by rw [List.take_add_one, List.take_add_one, HJ.out, HX.out, HY.out, HE.out])⟩
          case measure => simp [intOf]; omega
        · have e : (!decide (x = y)) = true := by simp [hxy]
          rw [e] at hne
          have HE := Lib.hid (show R = false by
            rw [HR.out]
            refine decide_eq_false fun k => hxy ?_
            have := HX.out
            rw [k, HY.out] at this
            exact (Option.some.inj this).symm)
          clear e hxy
          go_wp2_with fail
          go_quiet (fail)
          go_wp2_with fail
          go_ret
          exact ⟨by rw [HE.out]; rfl, below_drewN HBW.out _⟩
      · have hjz : ¬ (j : Int) < (X.length : Int) := by omega
        have HE := Lib.hid (show R = true by
          rw [HR.out]
          have e1 : X.take j = X := List.take_of_length_le (by omega)
          have e2 : Y.take j = Y := List.take_of_length_le (by have := HL.out; omega)
          have := HJ.out
          rw [e1, e2] at this
          exact decide_eq_true this)
        clear hbw
        go_wp2_with fail
        go_ret
        exact ⟨by rw [HE.out]; rfl, HBW.out⟩
  · have hz : ((X.length : Int) != (Y.length : Int)) = true := by simp; omega
    have e : decide (X = Y) = false := decide_eq_false fun k => hl (by rw [k])
    rw [e]
    clear ha hb hl e
    go_enter Tryz.func16, Tryz.ntmps16
    go_wp2_with fail
    go_ret
    exact ⟨rfl, Below.refl _ _⟩
end Go.Proofs.YtnaangnmlbgmkaaGreatDoor

/-
  The closure that puts prefixes while there is room: what is told, and what is left.
-/
namespace Go.Proofs.YtnaangnmlbgmkaaGreatDoor
set_option linter.unusedVariables false
set_option linter.unusedSimpArgs false
open Go.RowKit

def RoomRet6 (W : World) (g B : Nat) (r : Int) (L : List Px) (e : Ending) (w' : World) : Prop :=
  ∃ (A : Option Addr) (l : List UInt8) (c : Nat) (D : Option Addr) (m dc : Nat) (r' : Int) (j : Nat), e = .returned (.tuple #[.slice A l.length c, .slice D m dc]) ∧ l.length ≤ c ∧ c ≤ maxLen ∧ r' ≤ r ∧ r - 500000 ≤ r' ∧ Below W.heap.size (roomW W g r') w' ∧ Own w' W.heap.size 5 (.slice A l.length c) l ∧
    j ≤ L.length ∧ l = pxB (L.take j) ∧ m = (L.drop j).length ∧ m ≤ dc ∧ dc ≤ maxLen ∧ PxsIn w' B D (L.drop j) ∧ (L ≠ [] → 5 ≤ r → 1 ≤ j)
set_option maxHeartbeats 6400000 in
theorem Room6_any (A : Option Addr) (c : Nat) (L : List Px) (W : World) (g : Nat) (r : Int) (hk : Blk W g 3 [.int .i64 r]) {B : Nat} (hBg : B ≤ g) (h0 : PxsIn W B A L) (hc : L.length ≤ c) (hm : c ≤ maxLen) (hf : ∀ x ∈ L, PxFit x) (hok : pxsOk L = true) (hl : L.length ≤ 100000) (hr : -1000000 ≤ r ∧ r ≤ 1000000) :
    Calls Tryz.prog 45 #[.slice A L.length c, .pointer (some ⟨g, 0, none⟩)] W (RoomRet6 W g B r L) := by
  have h := h0.lift hBg
  have HK := Lib.hid hk; have HS := Lib.hid h; have HS0 := Lib.hid h0; have HF := Lib.hid hf; have HR := Lib.hid hr; have HC := Lib.hid (And.intro hc hm)
  have HOK := Lib.hid (show ∀ x ∈ L, pxOk x = true from fun x hx => (List.all_eq_true.1 hok) x hx)
  have HL := Lib.hid hl
  clear hk h h0 hf hr hok hc hm hl
  go_enter Tryz.func45, Tryz.ntmps45
  go_wp2_with fail
  go_loopw [5, 12] (fun v i wr => RoomRel W g r L v i wr) (fun _ i _ => L.length - (intOf i).toNat)
  case atStart =>
    refine ⟨0, Nat.zero_le _, rfl, Own.nil _ _ _, ?_, Lib.hid (.inl rfl)⟩
    have e : r - ((pxB (L.take 0)).length : Int) = r := by simp [pxB]
    rw [e]
    exact roomW_same HK.out
  case round =>
    obtain ⟨j, hj, rfl, hown, hbr, hle⟩ := hrel
    have hl := HL.out
    by_cases hlt : j < L.length
    · obtain ⟨x, hx⟩ : ∃ x, L[j]? = some x := ⟨_, List.getElem?_eq_getElem hlt⟩
      obtain ⟨b, off, rfl, hb, k1, k2⟩ := (HS.out.room HK.out.lt hbr).at hx
      have hfit := HF.out x (List.mem_of_getElem? hx)
      obtain ⟨k, hkk, hk32, hkn⟩ := pxOk_le (HOK.out x (List.mem_of_getElem? hx))
      have hpo := HOK.out x (List.mem_of_getElem? hx)
      have hstep := pxB_step hx
      have hall := pxB_le_all L (j + 1)
      have htl := pxB_take_len (L := L) j
      obtain ⟨a, n⟩ := x
      dsimp only at k1 k2 hkk hkn hstep
      subst hkk
      obtain ⟨T, hT⟩ : ∃ T, T = (pxB (L.take j)).length := ⟨_, rfl⟩
      obtain ⟨R, hR⟩ : ∃ R, R = r - (T : Int) := ⟨_, rfl⟩
      rw [← hT, ← hR] at hbr
      rw [← hT] at hle
      rw [hkn] at hstep
      have hdl := bytesP_len a k
      have Q0 : ∀ w', Calls Tryz.prog 46 #[.slice none 0 0, .agg #[.int .u32 (a : Int), .int .i64 (k : Int)]] w' fun e w'' => ∃ A' c', e = .returned (retPut (.slice A' (bytesP a k).length c') 0) ∧ (bytesP a k).length ≤ c' ∧ c' ≤ maxLen ∧ Own w'' w'.heap.size 5 (.slice A' (bytesP a k).length c') (bytesP a k) ∧ Below w'.heap.size w' w'' := fun w' => by
        have := PPut_ok none 0 [] a k w' hfit.1 hk32 hpo (by simp) (At.nil _ _ _)
        simpa only [List.nil_append, List.length_nil] using this
      obtain ⟨d, hd⟩ : ∃ d, d = bytesP a k := ⟨_, rfl⟩
      rw [← hd] at Q0 hstep hdl
      have Q := fun w' => Lib.hid (Q0 w')
      obtain ⟨A1, c1, rfl, f1, f2⟩ := hown.form
      have HOW := Lib.hid hown; have HBR := Lib.hid hbr; have HX := Lib.hid hx; have HLE := Lib.hid hle
      have hl2 : (pxB (L.take (j + 1))).length = T + d.length := by rw [hstep, List.length_append, hT]
      have HST := Lib.hid hstep
      have HNUM := Lib.hid (show T + d.length ≤ (pxB L).length ∧ T ≤ 500000 by omega)
      have HT := Lib.hid hT; have HRR := Lib.hid hR; have HL2 := Lib.hid hl2
      have hbA := hbr.alloc (by have := hbr.size; rw [roomW_size] at this; exact this) (.cells #[.int .u32 (a : Int), .int .i64 (k : Int)] 54)
      have HBA := Lib.hid hbA
      clear hown hbr hx hle hstep hl2 hT hR Q0 hd hkn hpo hfit hk32 hall htl hbA
      go_wp2_with fail
      refine (Q _).out.mono ?_
      rintro e w2 ⟨A2, c2, rfl, g1, g2, ho2, hb2⟩
      have HB2 := Lib.hid (show Below W.heap.size (roomW W g R) w2 from HBA.out.trans (hb2.mono (by have := HBA.out.size; rw [roomW_size] at this; exact this)))
      have kg := (roomW_blk HK.out R).below HB2.out HK.out.lt
      have cg : w2.cell? ⟨g, 0, none⟩ = some (.int .i64 R) := kg.cell 0
      have fg : w2.frozen? ⟨g, 0, none⟩ = false := kg.free 0
      have HKG := Lib.hid kg
      have HO2 := Lib.hid ho2
      have hbw : Below wr.heap.size wr w2 := ((Below.refl wr.heap.size wr).alloc (Nat.le_refl _) (.cells #[.int .u32 (a : Int), .int .i64 (k : Int)] 54)).trans (hb2.mono (by simp))
      have HO1 := Lib.hid (HOW.out.below hbw)
      have hn := HNUM.out; have hrr := HRR.out; have hr := HR.out
      clear ho2 hb2 hbw kg
      by_cases hfit : (d.length : Int) ≤ R
      · have hw : wrap64 (R - (d.length : Int)) = R - (d.length : Int) := by unfold wrap64; omega
        obtain ⟨W2, hW2⟩ : ∃ W2, W2 = roomW W g (R - (d.length : Int)) := ⟨_, rfl⟩
        have hs2 : W.heap.size = W2.heap.size := by rw [hW2, roomW_size]
        have HN := Lib.hid (show Below W2.heap.size W2 (w2.setCell ⟨g, 0, none⟩ (.int .i64 (R - (d.length : Int)))) by rw [← hs2, hW2]; exact roomW_next HK.out HB2.out _)
        have HO1b := Lib.hid (show Own (w2.setCell ⟨g, 0, none⟩ (.int .i64 (R - (d.length : Int)))) W2.heap.size 5 (.slice A1 (pxB (L.take j)).length c1) (pxB (L.take j)) by rw [← hs2]; exact HO1.out.room HKG.out _)
        have HO2b := Lib.hid (show Bytes (w2.setCell ⟨g, 0, none⟩ (.int .i64 (R - (d.length : Int)))) A2 d from (HO2.out.room HKG.out _).bytes)
        have HSZ := Lib.hid (show (pxB (L.take j)).length + d.length ≤ 140737488355328 by have h1 := HNUM.out; have h2 := HT.out; omega)
        have HS2 := Lib.hid hs2; have HWW := Lib.hid hW2
        have HFIT := Lib.hid hfit
        have HJ := Lib.hid hlt
        clear hs2 hW2 hn hrr hr
        unfold retPut
        go_wp2_with (at_builtin; refine wpList_append_bytes isBytes rfl (.tmp 34) (.tmp 35) rfl W2 (.slice A1 (pxB (L.take j)).length c1) (pxB (L.take j)) rfl HO1b.out A2 d d.length c2 rfl rfl HO2b.out HSZ.out HN.out ?_)
        intro v3 w3 ho3 hg3 hb3
        have HO3 := Lib.hid (show Own w3 W.heap.size 5 v3 (pxB (L.take (j + 1))) by rw [HST.out, HS2.out]; exact ho3)
        have HB3 := Lib.hid (show Below W.heap.size (roomW W g (r - ((pxB (L.take (j + 1))).length : Int))) w3 by
          have e : r - ((pxB (L.take (j + 1))).length : Int) = R - (d.length : Int) := by rw [HL2.out, HRR.out]; omega
          rw [e, ← HWW.out, HS2.out]; exact hb3)
        clear ho3 hg3 hb3
        go_wp2_with fail
        go_roundw
        case rel => exact ⟨j + 1, HJ.out, by go_num, HO3.out, HB3.out, Lib.hid (.inr (by rw [HL2.out]; have h1 := HFIT.out; have h2 := HRR.out; omega))⟩
        case measure => have := HJ.out; simp [intOf]; omega
      · have hfitI : (R : Int) < (d.length : Int) := by omega
        clear hfit hn hrr hr
        have hcc := HC.out
        unfold retPut
        go_wp2_with fail
        go_region
        all_goals
          have HNF := Lib.hid (show ¬ roomB L r by
            rintro (h0 | h1)
            · rw [h0] at hlt; simp at hlt
            · have h2 := HNUM.out.1; have h3 := HRR.out; omega)
          go_wp2_with fail
          go_ret2
          refine ⟨A1, pxB (L.take j), c1, _, L.length - j, c - j, R, j, rfl, f1, f2, ?_, ?_, HB2.out.drew, HO1.out.drew, by omega, rfl, by rw [List.length_drop], by omega, by have := HC.out.2; omega, ?_, fun _ h5 => ?_⟩
          · have h1 := HNUM.out; have h2 := HRR.out; omega
          · have h1 := HNUM.out; have h2 := HRR.out; have h3 := HR.out; omega
          · have hs := PxsIn.room HS.out HK.out.lt (HB2.out.drew)
            intro _
            obtain ⟨b2, off2, hA2, hlt2, hc2⟩ := hs (by intro e; rw [e] at hlt; simp at hlt)
            obtain ⟨b3, off3, hA3, hlt3, _⟩ := HS0.out (by intro e; rw [e] at hlt; simp at hlt)
            injection hA2 with hA2
            injection hA3 with hA3
            injection hA2 with e1 e2 _
            injection hA3 with e3 e4 _
            subst e1
            subst e2
            subst e3
            refine ⟨_, _, rfl, hlt3, fun i x hi => ?_⟩
            rw [List.getElem?_drop] at hi
            have := hc2 (j + i) x hi
            have e : off + (j + i) * 2 = off + j * 2 + i * 2 := by omega
            rw [e] at this
            exact this
          · have h1 := HT.out; have h2 := HRR.out
            rcases Nat.eq_zero_or_pos j with h0 | h0
            · exfalso
              rw [h0] at h1
              simp [pxB] at h1
              omega
            · exact h0
    · obtain rfl : j = L.length := by omega
      rw [List.take_length] at hown hbr hle
      obtain ⟨A1, c1, rfl, f1, f2⟩ := hown.form
      have HBR := Lib.hid hbr; have HOW := Lib.hid hown; have HLE := Lib.hid hle
      have hpl := pxB_len L
      have HPL := Lib.hid hpl
      clear hbr hown hle hpl
      go_wp2_with fail
      go_ret2
      refine ⟨A1, pxB L, c1, none, 0, 0, _, L.length, rfl, f1, f2, ?_, ?_, HBR.out, HOW.out, Nat.le_refl _, by rw [List.take_length], by simp, Nat.le_refl _, Nat.zero_le _, by rw [List.drop_length]; exact PxsIn.nil _ _ _, fun hne _ => List.length_pos_iff.2 hne⟩
      · omega
      · have := HR.out; have := HPL.out; omega
end Go.Proofs.YtnaangnmlbgmkaaGreatDoor

/-
  Prefixes' bytes: the document's. Is one among them that may not be: the program's.
-/
namespace Go.Proofs.YtnaangnmlbgmkaaGreatDoor
set_option linter.unusedVariables false
set_option linter.unusedSimpArgs false
open Go.RowKit

/-- What the document's list leaves. -/
def RetList (w : World) (L : List Px) (e : Ending) (w' : World) : Prop :=
  Below w.heap.size w w' ∧ ((pxsOk L = true ∧ ∃ A c, e = .returned (.tuple #[.slice A (pxB L).length c, .bool true]) ∧ (pxB L).length ≤ c ∧ c ≤ maxLen ∧ Own w' w.heap.size 5 (.slice A (pxB L).length c) (pxB L)) ∨ (pxsOk L = false ∧ e = .returned (.tuple #[.slice none 0 0, .bool false])))
def ListRel (w : World) (L : List Px) (v i : Value) (wr : World) : Prop :=
  Below w.heap.size w wr ∧ ∃ j : Nat, j ≤ L.length ∧ i = .int .i64 (j : Int) ∧ Own wr w.heap.size 5 v (pxB (L.take j)) ∧ Hid (pxsOk (L.take j) = true)
set_option maxHeartbeats 3200000 in
theorem RefList5_any (A : Option Addr) (c : Nat) (L : List Px) (w : World) (h : PxsIn w w.heap.size A L) (hf : ∀ x ∈ L, PxFit x) (hl : L.length ≤ 100000) :
    Calls Tryz.prog 22 #[.slice A L.length c] w (RetList w L) := by
  have HS := Lib.hid h; have HF := Lib.hid hf; clear h hf
  go_enter Tryz.func22, Tryz.ntmps22
  go_wp2_with fail
  go_loopw [4, 5] (fun v i wr => ListRel w L v i wr) (fun _ i _ => L.length - (intOf i).toNat)
  case atStart => exact ⟨Below.refl _ _, 0, Nat.zero_le _, rfl, Own.nil _ _ _, Lib.hid rfl⟩
  case round =>
    obtain ⟨hbr, j, hj, rfl, hown, hok⟩ := hrel
    by_cases hlt : j < L.length
    · obtain ⟨x, hx⟩ : ∃ x, L[j]? = some x := ⟨_, List.getElem?_eq_getElem hlt⟩
      obtain ⟨b, off, rfl, hb, k1, k2⟩ := (HS.out.below hbr (Nat.le_refl _)).at hx
      obtain ⟨A1, c1, rfl, f1, f2⟩ := hown.form
      have hfit := HF.out x (List.mem_of_getElem? hx)
      have HBR := Lib.hid hbr; have HOW := Lib.hid hown
      have hpl := pxB_take_len (L := L) j
      have HX := Lib.hid hx
      obtain ⟨a, n⟩ := x
      dsimp only at k1 k2
      clear hbr hown hx
      cases hp : pxOk (a, n) with
      | true =>
        obtain ⟨k, hk, hk32, hkn⟩ := pxOk_le hp
        dsimp only at hk hkn
        subst hk
        have Q := Lib.hid (RefPPut_ok A1 c1 (pxB (L.take j)) a k wr hfit.1 hk32 hp (by omega) HOW.out.bytes)
        have HST := Lib.hid (show pxB (L.take (j + 1)) = pxB (L.take j) ++ bytesP a k from pxB_step HX.out)
        have HOK := Lib.hid (pxsOk_step HX.out hok.out hp)
        have HJ := Lib.hid hlt
        clear hp hok hfit hpl hkn hk32
        go_wp2_with fail
        refine Q.out.mono ?_
        rintro e w2 ⟨A2, c2, rfl, g1, g2, ho2, hb2⟩
        have HO2 := Lib.hid (Own.lower ho2 HBR.out.size)
        have HB2 := Lib.hid (HBR.out.trans (hb2.mono HBR.out.size))
        clear ho2 hb2 k1 k2
        unfold retPut
        go_wp2_with fail
        go_roundw
        case rel => exact ⟨HB2.out, j + 1, HJ.out, by go_num, by rw [HST.out]; have h := HO2.out; rw [List.length_append] at h; exact h, HOK⟩
        case measure => have := HJ.out; simp [intOf]; omega
      | false =>
        have Q := Lib.hid (RefPPut_bad A1 c1 (pxB (L.take j)) a n wr hfit.1 hp)
        have HBD := Lib.hid (pxsOk_bad HX.out hp)
        clear hp hok hfit hpl
        go_wp2_with fail
        refine Q.out.mono ?_
        rintro e w2 ⟨rfl, hb2⟩
        have HB2 := Lib.hid (HBR.out.trans (hb2.mono HBR.out.size))
        clear hb2 k1 k2
        unfold retPut
        go_wp2_with fail
        go_ret2
        exact ⟨HB2.out, .inr ⟨HBD.out, rfl⟩⟩
    · obtain rfl : j = L.length := by omega
      have hok' := hok.out
      rw [List.take_length] at hown hok'
      obtain ⟨A1, c1, rfl, f1, f2⟩ := hown.form
      have HBR := Lib.hid hbr; have HOW := Lib.hid hown; have HOK := Lib.hid hok'
      clear hbr hown hok hok'
      go_wp2_with fail
      go_ret2
      exact ⟨HBR.out, .inl ⟨HOK.out, _, _, rfl, f1, f2, HOW.out⟩⟩

theorem wrong_any (x : Px) (w : World) (hx : PxFit x) :
    Calls Tryz.prog 41 #[.agg #[.int .u32 (x.1 : Int), .int .i64 x.2]] w fun e w' => e = .returned (.bool (!pxOk x)) ∧ Below w.heap.size w w' := by
  obtain ⟨a, n⟩ := x
  have Q := fun w' => Lib.hid (RightP_any a n w' hx.1 hx.2.1 hx.2.2)
  have hb0 := (Below.refl w.heap.size w).alloc (Nat.le_refl _) (.cells #[.int .u32 (a : Int), .int .i64 n] 54)
  have HB0 := Lib.hid hb0
  have HE := Lib.hid (show okPx (a : Int) n = pxOk (a, n) from rfl)
  clear hx hb0
  go_enter Tryz.func41, Tryz.ntmps41
  go_wp2_with fail
  refine (Q _).out.mono ?_
  rintro e w2 ⟨rfl, hb2⟩
  have HB2 := Lib.hid (HB0.out.trans (hb2.mono HB0.out.size))
  clear hb2
  go_wp2_with fail
  go_ret
  exact ⟨by rw [← HE.out]; rfl, HB2.out⟩
/-- What a search leaves. -/
def Found5 (b : Bool) (e : Ending) : Prop := ∃ k : Int, e = .returned (.int .i64 k) ∧ -1 ≤ k ∧ k ≤ 1152921504606846976 ∧ decide (0 ≤ k) = b
def IdxRel (w : World) (L : List Px) (i : Value) (wr : World) : Prop :=
  Below w.heap.size w wr ∧ ∃ j : Nat, j ≤ L.length ∧ i = .int .i64 (j : Int) ∧ Hid (pxsOk (L.take j) = true)
set_option maxHeartbeats 1600000 in
theorem IndexFunc5_any (A : Option Addr) (c : Nat) (L : List Px) (w : World) (h : PxsIn w w.heap.size A L) (hf : ∀ x ∈ L, PxFit x) (hl : L.length ≤ 1152921504606846976) :
    Calls Tryz.prog 74 #[.slice A L.length c, .func (.func 41) #[] #[]] w fun e w' => Found5 (!pxsOk L) e ∧ Below w.heap.size w w' := by
  have HS := Lib.hid h; have HF := Lib.hid hf; clear h hf
  go_enter Tryz.func74, Tryz.ntmps74
  go_wp2_with fail
  go_loopw [8] (fun i wr => IdxRel w L i wr) (fun i _ => L.length - (intOf i).toNat)
  case atStart => exact ⟨Below.refl _ _, 0, Nat.zero_le _, rfl, Lib.hid rfl⟩
  case round =>
    obtain ⟨hbr, j, hj, rfl, hok⟩ := hrel
    by_cases hlt : j < L.length
    · obtain ⟨x, hx⟩ : ∃ x, L[j]? = some x := ⟨_, List.getElem?_eq_getElem hlt⟩
      obtain ⟨b, off, rfl, hb, k1, k2⟩ := (HS.out.below hbr (Nat.le_refl _)).at hx
      have Q := Lib.hid (wrong_any x wr (HF.out x (List.mem_of_getElem? hx)))
      have HBR := Lib.hid hbr
      have HX := Lib.hid hx
      obtain ⟨a, n⟩ := x
      dsimp only at k1 k2
      have HJ := Lib.hid hlt
      clear hbr hx
      cases hp : pxOk (a, n) with
      | true =>
        rw [hp] at Q
        have HOK := Lib.hid (pxsOk_step HX.out hok.out hp)
        clear hp hok
        go_wp2_with (go_at_call 41; refine Q.out.mono ?_; rintro e w2 ⟨rfl, hb2⟩)
        have HB2 := Lib.hid (HBR.out.trans (hb2.mono HBR.out.size))
        go_roundw
        case rel => exact ⟨HB2.out, j + 1, HJ.out, by go_num, HOK⟩
        case measure => have := HJ.out; simp [intOf]; omega
      | false =>
        rw [hp] at Q
        have HBD := Lib.hid (pxsOk_bad HX.out hp)
        clear hp hok
        go_wp2_with (go_at_call 41; refine Q.out.mono ?_; rintro e w2 ⟨rfl, hb2⟩)
        have HB2 := Lib.hid (HBR.out.trans (hb2.mono HBR.out.size))
        go_ret
        exact ⟨⟨_, rfl, by omega, by omega, by rw [HBD.out]; simp⟩, HB2.out⟩
    · obtain rfl : j = L.length := by omega
      have hok' := hok.out
      rw [List.take_length] at hok'
      have HOK := Lib.hid hok'
      have HBR := Lib.hid hbr
      clear hok hok' hbr
      go_wp2_with fail
      go_ret
      exact ⟨⟨_, rfl, by omega, by omega, by rw [HOK.out]; rfl⟩, HBR.out⟩
theorem ContainsFunc5_any (A : Option Addr) (c : Nat) (L : List Px) (w : World) (h : PxsIn w w.heap.size A L) (hf : ∀ x ∈ L, PxFit x) (hl : L.length ≤ 1152921504606846976) :
    Calls Tryz.prog 43 #[.slice A L.length c, .func (.func 41) #[] #[]] w fun e w' => e = .returned (.bool (!pxsOk L)) ∧ Below w.heap.size w w' := by
  have Q := Lib.hid (IndexFunc5_any A c L w h hf hl); clear h hf
  go_enter Tryz.func43, Tryz.ntmps43
  go_wp2_with fail
  refine Q.out.mono ?_
  rintro e w1 ⟨⟨k, rfl, f1, f2, hk⟩, hb⟩
  have HK := Lib.hid hk; have HB := Lib.hid hb; clear hk hb
  go_wp2_with fail
  go_ret
  exact ⟨by rw [← HK.out]; rfl, HB.out⟩
end Go.Proofs.YtnaangnmlbgmkaaGreatDoor

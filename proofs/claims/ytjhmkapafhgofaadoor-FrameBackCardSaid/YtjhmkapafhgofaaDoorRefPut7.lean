/-
  A message's bytes, as the document puts them.
-/
import Derived.Test.YtjhmkapafhgofaaDoorFr7
import Derived.Test.YtjhmkapafhgofaaDoorStr7
import Derived.Test.YtjhmkapafhgofaaDoorRefPutA
namespace Go.Proofs.YtjhmkapafhgofaaDoor
set_option linter.unusedVariables false
set_option linter.unusedSimpArgs false
open Go.RowKit

/-- A message's bytes. -/
def msgL (k : Nat) (l : List UInt8) : List UInt8 := ((List.replicate 16 255 ++ be16 ((19 + l.length : Nat) : Int)) ++ [UInt8.ofNat k]) ++ l
/-- What Put tells: bytes, or an error's number. -/
def PutVal (w : World) (k : Int) (l : List UInt8) (e : Ending) (w' : World) : Prop :=
  Below w.heap.size w w' ∧
  ((leastN k = 0 ∧ e = .returned (.tuple #[.slice none 0 0, .int .i64 1])) ∨
   (leastN k ≠ 0 ∧ 4077 < l.length ∧ e = .returned (.tuple #[.slice none 0 0, .int .i64 4])) ∨
   (leastN k ≠ 0 ∧ l.length ≤ 4077 ∧ ∃ A c, e = .returned (.tuple #[.slice A (msgL k.toNat l).length c, .int .i64 0]) ∧ (msgL k.toNat l).length ≤ c ∧ c ≤ maxLen ∧ Own w' w.heap.size 5 (.slice A (msgL k.toNat l).length c) (msgL k.toNat l)))
theorem msgL_len (k : Nat) (l : List UInt8) : (msgL k l).length = 19 + l.length := by simp [msgL, be16]; omega
theorem leastN_iff {k : Int} : leastN k ≠ 0 ↔ 1 ≤ k ∧ k ≤ 4 := by
  constructor
  · intro h; have := leastN_pos h; omega
  · intro h
    rcases (show k = 1 ∨ k = 2 ∨ k = 3 ∨ k = 4 by omega) with rfl | rfl | rfl | rfl <;> decide
theorem rep_snoc (j : Nat) : List.replicate j (255 : UInt8) ++ [255] = List.replicate (j + 1) 255 := by
  rw [List.replicate_succ']

set_option maxHeartbeats 3200000 in
theorem RefPut7_any (k : Int) (A : Option Addr) (c : Nat) (l : List UInt8) (w : World) (h : Bytes w A l) (hm : l.length ≤ 1000000) :
    Calls Tryd.prog 10 #[.int .i64 k, .slice A l.length c] w (PutVal w k l) := by
  by_cases hk0 : k < 1
  · have HX := Lib.hid (show leastN k = 0 by have := leastN_iff (k := k); by_cases h0 : leastN k = 0; exact h0; exact absurd (this.1 h0) (by omega))
    go_enter Tryd.func10, Tryd.ntmps10
    go_wp2_with fail
    go_ret2
    exact ⟨Below.refl _ _, .inl ⟨HX.out, rfl⟩⟩
  by_cases hk4 : 4 < k
  · have HX := Lib.hid (show leastN k = 0 by have := leastN_iff (k := k); by_cases h0 : leastN k = 0; exact h0; exact absurd (this.1 h0) (by omega))
    go_enter Tryd.func10, Tryd.ntmps10
    go_wp2_with fail
    go_ret2
    exact ⟨Below.refl _ _, .inl ⟨HX.out, rfl⟩⟩
  have HX := Lib.hid (show leastN k ≠ 0 from leastN_iff.2 (by omega))
  by_cases hl : 4077 < l.length
  · have hlI : (4077 : Int) < (l.length : Int) := by omega
    have HL := Lib.hid hl
    clear h hl
    go_enter Tryd.func10, Tryd.ntmps10
    go_wp2_with fail
    go_ret2
    exact ⟨Below.refl _ _, .inr (.inl ⟨HX.out, HL.out, rfl⟩)⟩
  have hlI : ¬ (4077 : Int) < (l.length : Int) := by omega
  have HB := Lib.hid h; clear h
  go_enter Tryd.func10, Tryd.ntmps10
  go_wp2_with fail
  go_loopw [6, 7] (fun v i wr => Below w.heap.size w wr ∧ ∃ j : Nat, j ≤ 16 ∧ i = .int .i64 (j : Int) ∧ Own wr w.heap.size 5 v (List.replicate j 255)) (fun _ i _ => 16 - (intOf i).toNat)
  case atStart => exact ⟨Below.refl _ _, 0, by omega, rfl, Own.nil _ _ _⟩
  case round =>
    obtain ⟨hbr, j, hj, rfl, hown⟩ := hrel
    have HO := Lib.hid hown; clear hown
    by_cases hlt : j < 16
    · go_wp2_with (at_builtin; refine wpList_append_byte isBytes rfl (.tmp 21) (.tmp 22) rfl w _ _ rfl wr _ rfl HO.out rfl (by omega) (by omega) (by simp; omega) hbr ?_)
      intro v' w' hown' _ hb'
      have H' := Lib.hid hown'; clear hown' hbr HO
      go_wp2_with fail
      go_roundw
      case rel => exact ⟨hb', j + 1, by omega, by go_num, by rw [← rep_snoc]; exact H'.out⟩
      case measure => simp [intOf]; omega
    · obtain rfl : j = 16 := by omega
      obtain ⟨A1, c1, rfl, f1, g1⟩ := HO.out.form
      have hrl : (List.replicate 16 (255 : UInt8)).length = 16 := by simp
      obtain ⟨R, hR⟩ : ∃ R, R = List.replicate 16 (255 : UInt8) := ⟨_, rfl⟩
      rw [← hR] at HO hrl
      simp only [← hR]
      rw [← hR] at f1
      have HR := Lib.hid hR; have HRL := Lib.hid hrl
      clear hR hrl
      have Q := Lib.hid (refPut16_any A1 R.length c1 R rfl ((19 + l.length : Nat) : Int) wr (by have := HRL.out; omega) HO.out.bytes (by omega) (by omega))
      go_wp2_with fail
      refine Q.out.mono ?_
      rintro e w2 ⟨A2, c2, rfl, f2, g2, ho2, hb2⟩
      obtain ⟨R2, hR2⟩ : ∃ R2, R2 = R ++ be16 ((19 + l.length : Nat) : Int) := ⟨_, rfl⟩
      have hl2 : R2.length = 18 := by rw [hR2, List.length_append, HRL.out]; rfl
      rw [← hR2] at ho2 f2
      simp only [← hR2]
      have HO2 := Lib.hid ho2; have HL2 := Lib.hid hl2; have HR2 := Lib.hid hR2
      have HBR := Lib.hid hbr; have HB2 := Lib.hid hb2
      have hk0' : 0 ≤ k := by omega
      have hk9' : k < 256 := by omega
      clear ho2 hl2 hR2 Q hbr hb2
      go_wp2_with (at_builtin; refine wpList_append_byte isBytes rfl (.tmp 29) (.tmp 32) rfl wr _ _ rfl w2 k rfl HO2.out rfl hk0' hk9' (by have := HL2.out; omega) HB2.out ?_)
      intro v3 w3 hown3 _ hb3
      have HO3 := Lib.hid hown3; have HB3 := Lib.hid hb3
      have HY := Lib.hid (HB.out.below (HBR.out.trans (hb3.mono HBR.out.size)))
      clear hown3 hb3
      go_wp2_with (at_builtin; refine wpList_append_bytes isBytes rfl (.tmp 34) (.tmp 35) rfl wr _ _ rfl HO3.out A l _ c rfl rfl HY.out (by have := HL2.out; simp; omega) HB3.out ?_)
      intro v4 w4 hown4 _ hb4
      obtain ⟨A4, c4, rfl, f4, g4⟩ := hown4.form
      have hfin : (R2 ++ UInt8.ofNat k.toNat :: l) = msgL k.toNat l := by rw [HR2.out, HR.out]; unfold msgL; rw [List.append_assoc _ [_] l]; rfl
      obtain ⟨F, hF⟩ : ∃ F, F = (R2 ++ UInt8.ofNat k.toNat :: l) := ⟨_, rfl⟩
      rw [← hF] at hown4 f4 hfin
      simp only [← hF]
      have HO4 := Lib.hid hown4; have HFI := Lib.hid hfin
      have HB4 := Lib.hid (HBR.out.trans (hb4.mono HBR.out.size))
      clear hF hown4 hb4 hfin
      go_wp2_with fail
      go_ret2
      exact ⟨HB4.out, .inr (.inr ⟨HX.out, by omega, A4, c4, by rw [← HFI.out]; rfl, by rw [← HFI.out]; exact f4, g4, by rw [← HFI.out]; exact HO4.out.lower HBR.out.size⟩)⟩
end Go.Proofs.YtjhmkapafhgofaaDoor

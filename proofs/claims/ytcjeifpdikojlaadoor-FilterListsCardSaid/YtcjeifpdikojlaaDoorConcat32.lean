/-
  Any number of rows of numbers, one behind another.
-/
import Derived.Test.YtcjeifpdikojlaaDoorOwn3
import Derived.Lib.AppendZeros
import Derived.WalkLawsBesides
namespace Go.Proofs.YtcjeifpdikojlaaDoor
set_option linter.unusedVariables false
set_option linter.unusedSimpArgs false
open Go.RowKit

set_option maxHeartbeats 1600000 in
theorem GrowNil32_any (n : Nat) (w : World) (hn : n ≤ 1000000) :
    Calls Tryd.prog 57 #[.slice none 0 0, .int .i64 (n : Int)] w fun e w' => ∃ A c, e = .returned (.slice A 0 c) ∧ Own32 w' w.heap.size (.slice A 0 c) [] ∧ Below w.heap.size w w' := by
  by_cases h0 : n = 0
  · subst h0
    go_enter Tryd.func57, Tryd.ntmps57
    go_wp2
    go_ret
    exact ⟨none, 0, rfl, Own32.nil _ _, Below.refl _ _⟩
  · have hG1 := grownCap_ge w n 0 22
    have hG2 := grownCap_le_maxLen w n 0 22 (by unfold maxLen; omega)
    have hsz : (Builtin.zeroCells #[Value.int .u32 0] n ++ Builtin.zeroCells #[Value.int .u32 0] (grownCap w n 0 22 - n)).size = grownCap w n 0 22 * 1 := by
      rw [Array.size_append, size_zeroCells, size_zeroCells]
      have e : (#[Value.int .u32 0]).size = 1 := rfl
      rw [e]; omega
    have HG := Lib.hid hG2; have HS := Lib.hid hsz
    clear hG1 hG2 hsz
    have hp : (0 : Int) < (n : Int) := by omega
    have eb : Tryd.t22.bytes = 4 := rfl
    have g1 : ¬ 281474976710656 < (n : Int) * (Tryd.t22.bytes : Int) := by rw [eb]; omega
    have g2 : ¬ 281474976710656 < Builtin.nextslicecap n 0 * Tryd.t22.bytes := by rw [eb, nextslicecap_zero (by omega)]; omega
    clear eb
    go_enter Tryd.func57, Tryd.ntmps57
    go_wp2
    go_ret
    exact ⟨_, grownCap w n 0 22, rfl, ⟨rfl, .inr ⟨w.heap.size, grownCap w n 0 22, _, rfl, Nat.le_refl _, heap_alloc_new w _, Nat.zero_le _, HG.out, HS.out, rfl⟩⟩, ((Below.refl _ _).alloc (Nat.le_refl _) _).drew⟩

/-- Rows of numbers: where each is, what room it has, its numbers. -/
abbrev Sl32 := Option Addr × Nat × List Nat
def join32 (L : List Sl32) : List Nat := (L.map (·.2.2)).flatten
theorem join32_step {L : List Sl32} {j : Nat} {x : Sl32} (h : L[j]? = some x) : join32 (L.take (j + 1)) = join32 (L.take j) ++ x.2.2 := by
  have hj := (List.getElem?_eq_some_iff.1 h).1
  have e : L[j] = x := (List.getElem?_eq_some_iff.1 h).2
  rw [List.take_succ_eq_append_getElem hj, e]
  simp [join32]
theorem join32_le {L : List Sl32} {j : Nat} : (join32 (L.take j)).length ≤ (join32 L).length := by
  have e : join32 L = join32 (L.take j) ++ join32 (L.drop j) := by
    unfold join32
    rw [← List.flatten_append, ← List.map_append, List.take_append_drop]
  rw [e, List.length_append]
  omega
def Sls32 (w : World) (k : Nat) (L : List Sl32) : Prop :=
  k < w.heap.size ∧ (∀ (j : Nat) (x : Sl32), L[j]? = some x → w.cell? ⟨k, j, none⟩ = some (.slice x.1 x.2.2.length x.2.1)) ∧ ∀ x ∈ L, At32 w w.heap.size x.1 x.2.2
theorem Sls32.below {w w' : World} {k : Nat} {L : List Sl32} (h : Sls32 w k L) (hb : Below w.heap.size w w') : Sls32 w' k L :=
  ⟨Nat.lt_of_lt_of_le h.1 hb.size, fun j x hx => (hb.cell (p := ⟨k, j, none⟩) h.1).trans (h.2.1 j x hx), fun x hx => ((h.2.2 x hx).below hb (Nat.le_refl _)).lift hb.size⟩
def Concat32Rel (w : World) (L : List Sl32) (v i : Value) (wr : World) : Prop := Below w.heap.size w wr ∧ ∃ j : Nat, j ≤ L.length ∧ i = .int .i64 (j : Int) ∧ Own32 wr w.heap.size v (join32 (L.take j))

set_option maxHeartbeats 3200000 in
theorem Concat32_any (k n c : Nat) (L : List Sl32) (w : World) (hn : n = L.length) (h : Sls32 w k L) (hT : (join32 L).length ≤ 1000000) (hnm : L.length ≤ 1000000) :
    Calls Tryd.prog 37 #[.slice (some ⟨k, 0, none⟩) n c] w (Ret32 w (join32 L)) := by
  subst hn
  have H := Lib.hid h; clear h
  have HTT := Lib.hid hT
  have q61 := Lib.hid (GrowNil32_any (join32 L).length w hT)
  clear hT
  go_enter Tryd.func37, Tryd.ntmps37
  go_wp2_with fail
  go_loop [3, 5, 11] (fun s _ i => ∃ j : Nat, j ≤ L.length ∧ i = .int .i64 (j : Int) ∧ s = .int .i64 (((join32 (L.take j)).length : Nat) : Int)) (fun _ _ i => L.length - (intOf i).toNat)
  case atStart => exact ⟨0, by omega, rfl, rfl⟩
  case round =>
    obtain ⟨j, hj, rfl, rfl⟩ := hrel
    by_cases hlt : j < L.length
    · obtain ⟨x, hx⟩ : ∃ x, L[j]? = some x := ⟨_, List.getElem?_eq_getElem hlt⟩
      have hc := H.out.2.1 j x hx
      have HS := Lib.hid (join32_step hx)
      have hle : (join32 (L.take j)).length + x.2.2.length ≤ 1000000 := by
        have h1 := join32_le (L := L) (j := j + 1)
        have h2 := HTT.out
        rw [HS.out, List.length_append] at h1
        omega
      obtain ⟨A, ca, l⟩ := x
      obtain ⟨T, hTt⟩ : ∃ T, T = (join32 (L.take j)).length := ⟨_, rfl⟩
      rw [← hTt] at hle
      simp only [← hTt]
      have HTt := Lib.hid hTt
      clear hTt hx
      dsimp only at hc hle
      go_wp2_with fail
      go_round
      case rel => exact ⟨j + 1, by omega, by go_num, by rw [HS.out, List.length_append, ← HTt.out]; go_num⟩
      case measure => simp [intOf]; omega
    · obtain rfl : j = L.length := by omega
      simp only [List.take_length]
      go_wp2_with fail
      refine q61.out.mono ?_
      rintro e w1 ⟨A, c1, rfl, hown, hb1⟩
      have HO := Lib.hid hown; clear hown
      go_wp2_with fail
      go_loopw [6, 8, 27] (fun v _ i wr => Concat32Rel w L v i wr) (fun _ _ i _ => L.length - (intOf i).toNat)
      case atStart => exact ⟨hb1, 0, by omega, rfl, HO.out⟩
      case round =>
        clear hb1 HO q61
        obtain ⟨hbr, j, hj, rfl, hown⟩ := hrel
        have HO := Lib.hid hown; clear hown
        by_cases hlt : j < L.length
        · obtain ⟨x, hx⟩ : ∃ x, L[j]? = some x := ⟨_, List.getElem?_eq_getElem hlt⟩
          have hc := (H.out.below hbr).2.1 j x hx
          have HY := Lib.hid ((H.out.below hbr).2.2 x (List.mem_of_getElem? hx))
          have HS := Lib.hid (join32_step hx)
          have HSZ := Lib.hid (show ((join32 (L.take j)).length + x.2.2.length) * 4 ≤ 140737488355328 by
            have h1 := join32_le (L := L) (j := j + 1)
            have h2 := HTT.out
            rw [HS.out, List.length_append] at h1
            omega)
          obtain ⟨A', ca, l⟩ := x
          have HBR := Lib.hid hbr
          clear hx
          dsimp only at hc
          go_wp2_with (at_builtin; refine wpList_app isU32 rfl (.tmp 31) (.tmp 32) rfl w _ _ (cells32 (join32 (L.take j))) rfl HO.out A' l.length ca (cells32 l) rfl (by simp [cells32]) HY.out.news (cells32_one _) HSZ.out HBR.out ?_)
          intro v' w' hown' _ hb'
          have H' := Lib.hid (show Own32 w' w.heap.size v' (join32 (L.take (j + 1))) from by
            rw [HS.out]
            unfold Own32 cells32 at *
            rw [List.length_append, List.map_append]
            exact hown')
          clear hown' hbr HO HY
          go_wp2
          go_roundw
          case rel => exact ⟨hb', j + 1, by omega, by go_num, H'.out⟩
          case measure => simp [intOf]; omega
        · obtain rfl : j = L.length := by omega
          have h9 := HO.out
          rw [List.take_length] at h9
          obtain ⟨A', c', rfl, hc1, hc2⟩ := h9.form
          have HO9 := Lib.hid h9
          clear h9 HO
          go_wp2
          go_ret
          exact ⟨_, _, rfl, hc1, hc2, HO9.out, hbr⟩
end Go.Proofs.YtcjeifpdikojlaaDoor

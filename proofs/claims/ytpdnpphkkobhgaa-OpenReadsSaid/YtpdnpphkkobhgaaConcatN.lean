/-
  slices.Concat of however many slices of bytes.
-/
import Derived.Test.YtpdnpphkkobhgaaConcat
namespace Go.Proofs.Ytpdnpphkkobhgaa
set_option linter.unusedVariables false
set_option linter.unusedSimpArgs false
open Go.RowKit

/-- A slice of bytes: its address, its capacity, its bytes. -/
abbrev Sl := Option Addr × Nat × List UInt8
def joinB (L : List Sl) : List UInt8 := (L.map (·.2.2)).flatten
theorem joinB_step {L : List Sl} {j : Nat} {x : Sl} (h : L[j]? = some x) : joinB (L.take (j + 1)) = joinB (L.take j) ++ x.2.2 := by
  have hj := (List.getElem?_eq_some_iff.1 h).1
  have e : L[j] = x := (List.getElem?_eq_some_iff.1 h).2
  unfold joinB
  rw [List.take_succ_eq_append_getElem hj, e]
  simp
theorem joinB_le {L : List Sl} {j : Nat} : (joinB (L.take j)).length ≤ (joinB L).length := by
  have h : joinB L = joinB (L.take j) ++ joinB (L.drop j) := by
    unfold joinB
    rw [← List.flatten_append, ← List.map_append, List.take_append_drop]
  rw [h, List.length_append]; omega
/-- The slices lie in a block, one behind the other, and their bytes where they say. -/
def Sls (w : World) (k : Nat) (L : List Sl) : Prop :=
  k < w.heap.size ∧ (∀ (j : Nat) (x : Sl), L[j]? = some x → w.cell? ⟨k, j, none⟩ = some (.slice x.1 x.2.2.length x.2.1)) ∧ ∀ x ∈ L, Bytes w x.1 x.2.2
theorem Sls.below {w w' : World} {k : Nat} {L : List Sl} (h : Sls w k L) (hb : Below w.heap.size w w') : Sls w' k L :=
  ⟨Nat.lt_of_lt_of_le h.1 hb.size, fun j x hx => (hb.cell (p := ⟨k, j, none⟩) h.1).trans (h.2.1 j x hx), fun x hx => (h.2.2 x hx).below hb⟩
theorem sls_of_blk {w : World} {k t : Nat} {L : List Sl} (hk : Blk w k t (L.map fun x => Value.slice x.1 x.2.2.length x.2.1)) (hb : ∀ x ∈ L, Bytes w x.1 x.2.2) : Sls w k L :=
  ⟨hk.lt, fun j x hx => by rw [hk.cell]; simp [hx], hb⟩
def ConcatRel (w : World) (L : List Sl) (v i : Value) (wr : World) : Prop := Below w.heap.size w wr ∧ ∃ j : Nat, j ≤ L.length ∧ i = .int .i64 (j : Int) ∧ Own wr w.heap.size 5 v (joinB (L.take j))

set_option maxHeartbeats 3200000 in
theorem ConcatN_any (k n c : Nat) (L : List Sl) (w : World) (hn : n = L.length) (h : Sls w k L) (hT : (joinB L).length ≤ 70368744177664) (hnm : L.length ≤ 1000000) :
    Calls Try.prog 29 #[.slice (some ⟨k, 0, none⟩) n c] w (RetBytes w (joinB L)) := by
  subst hn
  have H := Lib.hid h; clear h
  have HTT := Lib.hid hT
  have q61 := Lib.hid (GrowNil_any (joinB L).length w hT)
  clear hT
  go_enter Try.func29, Try.ntmps29
  go_wp2_with fail
  go_loop [3, 5, 11] (fun s _ i => ∃ j : Nat, j ≤ L.length ∧ i = .int .i64 (j : Int) ∧ s = .int .i64 (((joinB (L.take j)).length : Nat) : Int)) (fun _ _ i => L.length - (intOf i).toNat)
  case atStart => exact ⟨0, by omega, rfl, rfl⟩
  case round =>
    obtain ⟨j, hj, rfl, rfl⟩ := hrel
    by_cases hlt : j < L.length
    · obtain ⟨x, hx⟩ : ∃ x, L[j]? = some x := ⟨_, List.getElem?_eq_getElem hlt⟩
      have hc := H.out.2.1 j x hx
      have HS := Lib.hid (joinB_step hx)
      have hle : (joinB (L.take j)).length + x.2.2.length ≤ 70368744177664 := by
        have h1 := joinB_le (L := L) (j := j + 1)
        have h2 := HTT.out
        rw [HS.out, List.length_append] at h1
        omega
      obtain ⟨A, ca, l⟩ := x
      obtain ⟨T, hTt⟩ : ∃ T, T = (joinB (L.take j)).length := ⟨_, rfl⟩
      rw [← hTt] at hle
      simp only [← hTt]
      have HTt := Lib.hid hTt
      clear hTt hx
      dsimp only at hc hle
      go_wp2_with fail
      go_round
      case rel => exact ⟨j + 1, by omega, by go_num, by rw [HS.out, List.length_append, ← HTt.out]; go_num⟩
      case measure => simp [intOf]; omega
    · obtain rfl : j = L.length := by omega
      simp only [List.take_length]
      go_wp2_with fail
      refine q61.out.mono ?_
      rintro e w1 ⟨A, c1, rfl, hown, hb1⟩
      have HO := Lib.hid hown; clear hown
      go_wp2_with fail
      go_loopw [6, 8, 27] (fun v _ i wr => ConcatRel w L v i wr) (fun _ _ i _ => L.length - (intOf i).toNat)
      case atStart => exact ⟨hb1, 0, by omega, rfl, HO.out⟩
      case round =>
        clear hb1 HO q61
        obtain ⟨hbr, j, hj, rfl, hown⟩ := hrel
        have HO := Lib.hid hown; clear hown
        by_cases hlt : j < L.length
        · obtain ⟨x, hx⟩ : ∃ x, L[j]? = some x := ⟨_, List.getElem?_eq_getElem hlt⟩
          have hc := (H.out.below hbr).2.1 j x hx
          have HY := Lib.hid ((H.out.below hbr).2.2 x (List.mem_of_getElem? hx))
          have HS := Lib.hid (joinB_step hx)
          have hle : (joinB (L.take j)).length + x.2.2.length ≤ 140737488355328 := by
            have h1 := joinB_le (L := L) (j := j + 1)
            have h2 := HTT.out
            rw [HS.out, List.length_append] at h1
            omega
          obtain ⟨A', ca, l⟩ := x
          have HLn := Lib.hid hle
          clear hle hx
          dsimp only at hc
          go_wp2_with (at_builtin; refine wpList_append_bytes isBytes rfl (.tmp 31) (.tmp 32) rfl w _ _ rfl HO.out A' l _ ca rfl rfl HY.out HLn.out hbr ?_)
          intro v' w' hown' _ hb'
          have H' := Lib.hid hown'; clear hown' hbr HO HY
          go_wp2
          go_roundw
          case rel => exact ⟨hb', j + 1, by omega, by go_num, by rw [HS.out]; exact H'.out⟩
          case measure => simp [intOf]; omega
        · obtain rfl : j = L.length := by omega
          have h9 := HO.out
          rw [List.take_length] at h9
          obtain ⟨A', c', rfl, hc1, hc2⟩ := h9.form
          have HO9 := Lib.hid h9
          clear h9 HO
          go_wp2
          go_ret
          exact ret_own rfl hc1 hc2 HO9.out hbr rfl
end Go.Proofs.Ytpdnpphkkobhgaa

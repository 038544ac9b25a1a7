/-
  The document's split.
-/
import Derived.Test.YtgaoonnokhlgjaaRef26
namespace Go.Proofs.Ytgaoonnokhlgjaa
set_option linter.unusedVariables false
set_option linter.unusedSimpArgs false
open Go.RowKit

def SplRel (w : World) (p : Cu → Bool) (L : List Cu) (s t i : Value) (wr : World) : Prop :=
  Below w.heap.size w wr ∧ ∃ j : Nat, j ≤ L.length ∧ i = .int .i64 (j : Int) ∧ TwoU wr 45 w.heap.size t s ((L.take j).filter p) ((L.take j).filter fun c => !p c)
def RetSplit (w : World) (p : Cu → Bool) (L : List Cu) (e : Ending) (w' : World) : Prop :=
  ∃ s u, e = .returned (.tuple #[s, u]) ∧ SlU w' 45 w.heap.size s (L.filter fun c => !p c) ∧ SlU w' 45 w.heap.size u (L.filter p) ∧ Below w.heap.size w w'
set_option maxRecDepth 100000 in
set_option maxHeartbeats 6400000 in
theorem RefSplit0_any (A : Option Addr) (d B : Nat) (L : List Cu) (n : Int) (w : World) (h : RowsU w 45 B A L) (hl : L.length ≤ 100) :
    Calls Try.prog 33 #[.slice A L.length d, .int .i64 0, .int .i64 n] w (RetSplit w (fun c => c.id == n) L) := by
  have HA := Lib.hid h; have HFew := Lib.hid hl
  obtain ⟨p, hpE⟩ : ∃ p : Cu → Bool, p = fun c => c.id == n := ⟨_, rfl⟩
  rw [← hpE]
  have HPE := Lib.hid hpE
  clear h hl hpE
  go_enter Try.func33, Try.ntmps33
  go_wp2_with fail
  go_loopw [8, 9, 10] (fun s t i wr => SplRel w p L s t i wr) (fun _ _ i _ => L.length - (intOf i).toNat)
  case atStart => exact ⟨Below.refl _ _, 0, Nat.zero_le _, rfl, OwnU.nil _ _ _, OwnU.nil _ _ _, .inl rfl⟩
  case round =>
    obtain ⟨hbr, j, hj, rfl, ht⟩ := hrel
    replace hbr := Lib.hid hbr
    by_cases hlt : j < L.length
    · obtain ⟨c, hc⟩ : ∃ c, L[j]? = some c := ⟨_, List.getElem?_eq_getElem hlt⟩
      obtain ⟨b, off, rfl, hb, hr⟩ := (HA.out.below hbr.out).at hc
      have HR := Lib.hid hr; have HT := Lib.hid ht; have HLT := Lib.hid hlt; have HCC := Lib.hid hc
      have r0 : wr.cell? ⟨b, off + j * 16, none⟩ = some (.int .i64 c.id) := hr 0 _ rfl
      have hjb : (j : Int) ≤ 100 := by have := HFew.out; omega
      have hi0 : (0 : Int) ≤ (j : Int) := by omega
      have hi1 : (j : Int) < (L.length : Int) := by omega
      have hpc : p c = (c.id == n) := by rw [HPE.out]
      clear hr ht hj hb hc
      by_cases ht1 : c.id = n
      · have hp : p c = true := by rw [hpc]; simp [ht1]
        clear hpc
        have HF := Lib.hid (filter_yes (p := p) HCC.out hp)
        clear hp
        go_wp2_with (first
          | (refine wpList_loadS _ (isR c) rfl (.tmp 59) rfl b (off + j * 16) rfl HR.out ?_)
          | (refine wpList_build1S _ 42 rfl (.tmp 60) rfl (run_build1R _ c) rfl ?_)
          | (at_builtin; refine wpList_appU undR infoR26 _ rfl (.tmp 56) (.tmp 61) rfl w.heap.size _ _ _ _ [c] rfl (HT.out.below ((Below.refl _ _).alloc (Nat.le_refl _) _)) (Nat.le_trans hbr.out.size (by simp)) ⟨wr.heap.size, 0, none⟩ 1 1 rfl rfl (cu_one wr _ c) (by have := filter_short p L j; have := filter_short (fun c => !p c) L j; have := HFew.out; omega) ?_))
        intro v4 w4 h4 hg4 hl4
        have B4 := Lib.hid ((hbr.out.alloc hbr.out.size _).grown hg4 (Nat.le_trans hbr.out.size (by simp)) (fun k hk => (HT.out.one.lt k hk).1))
        have T4 := Lib.hid h4
        clear h4 hg4 hl4 HT
        go_wp2_with fail
        go_roundw
        case rel => exact ⟨B4.out, j + 1, HLT.out, by go_num, by rw [HF.out.1, HF.out.2]; exact T4.out⟩
        case measure => have hm := HLT.out; simp [intOf] at hm ⊢; try omega
      · have hp : p c = false := by rw [hpc]; simp [ht1]
        have ht2 : (c.id == n) = false := by simpa using ht1
        clear hpc
        have HF := Lib.hid (filter_no (p := p) HCC.out hp)
        clear hp
        go_wp2_with (first
          | (refine wpList_loadS _ (isR c) rfl (.tmp 66) rfl b (off + j * 16) rfl HR.out ?_)
          | (refine wpList_build1S _ 42 rfl (.tmp 67) rfl (run_build1R _ c) rfl ?_)
          | (at_builtin; refine wpList_appU undR infoR26 _ rfl (.tmp 63) (.tmp 68) rfl w.heap.size _ _ _ _ [c] rfl (HT.out.turn.below ((Below.refl _ _).alloc (Nat.le_refl _) _)) (Nat.le_trans hbr.out.size (by simp)) ⟨wr.heap.size, 0, none⟩ 1 1 rfl rfl (cu_one wr _ c) (by have := filter_short p L j; have := filter_short (fun c => !p c) L j; have := HFew.out; omega) ?_))
        intro v4 w4 h4 hg4 hl4
        have B4 := Lib.hid ((hbr.out.alloc hbr.out.size _).grown hg4 (Nat.le_trans hbr.out.size (by simp)) (fun k hk => (HT.out.turn.one.lt k hk).1))
        have T4 := Lib.hid h4.turn
        clear h4 hg4 hl4 HT
        go_wp2_with fail
        go_roundw
        case rel => exact ⟨B4.out, j + 1, HLT.out, by go_num, by rw [HF.out.1, HF.out.2]; exact T4.out⟩
        case measure => have hm := HLT.out; simp [intOf] at hm ⊢; try omega
    · obtain rfl : j = L.length := by omega
      rw [List.take_length] at ht
      obtain ⟨A1, d1, rfl, _, _⟩ := ht.one.form
      obtain ⟨A2, d2, rfl, _, _⟩ := ht.two.form
      have HT := Lib.hid ht
      clear ht hj
      go_wp2_with fail
      go_ret2
      exact ⟨_, _, rfl, HT.out.two.sl, HT.out.one.sl, hbr.out⟩
set_option maxRecDepth 100000 in
set_option maxHeartbeats 6400000 in
theorem RefSplit1_any (A : Option Addr) (d B : Nat) (L : List Cu) (n : Int) (w : World) (h : RowsU w 45 B A L) (hl : L.length ≤ 100) :
    Calls Try.prog 33 #[.slice A L.length d, .int .i64 1, .int .i64 n] w (RetSplit w (fun c => c.owner == n) L) := by
  have HA := Lib.hid h; have HFew := Lib.hid hl
  obtain ⟨p, hpE⟩ : ∃ p : Cu → Bool, p = fun c => c.owner == n := ⟨_, rfl⟩
  rw [← hpE]
  have HPE := Lib.hid hpE
  clear h hl hpE
  go_enter Try.func33, Try.ntmps33
  go_wp2_with fail
  go_loopw [8, 9, 10] (fun s t i wr => SplRel w p L s t i wr) (fun _ _ i _ => L.length - (intOf i).toNat)
  case atStart => exact ⟨Below.refl _ _, 0, Nat.zero_le _, rfl, OwnU.nil _ _ _, OwnU.nil _ _ _, .inl rfl⟩
  case round =>
    obtain ⟨hbr, j, hj, rfl, ht⟩ := hrel
    replace hbr := Lib.hid hbr
    by_cases hlt : j < L.length
    · obtain ⟨c, hc⟩ : ∃ c, L[j]? = some c := ⟨_, List.getElem?_eq_getElem hlt⟩
      obtain ⟨b, off, rfl, hb, hr⟩ := (HA.out.below hbr.out).at hc
      have HR := Lib.hid hr; have HT := Lib.hid ht; have HLT := Lib.hid hlt; have HCC := Lib.hid hc
      have r0 : wr.cell? ⟨b, off + j * 16 + 1, none⟩ = some (.int .i64 c.owner) := hr 1 _ rfl
      have hjb : (j : Int) ≤ 100 := by have := HFew.out; omega
      have hi0 : (0 : Int) ≤ (j : Int) := by omega
      have hi1 : (j : Int) < (L.length : Int) := by omega
      have hpc : p c = (c.owner == n) := by rw [HPE.out]
      clear hr ht hj hb hc
      by_cases ht1 : c.owner = n
      · have hp : p c = true := by rw [hpc]; simp [ht1]
        clear hpc
        have HF := Lib.hid (filter_yes (p := p) HCC.out hp)
        clear hp
        go_wp2_with (first
          | (refine wpList_loadS _ (isR c) rfl (.tmp 59) rfl b (off + j * 16) rfl HR.out ?_)
          | (refine wpList_build1S _ 42 rfl (.tmp 60) rfl (run_build1R _ c) rfl ?_)
          | (at_builtin; refine wpList_appU undR infoR26 _ rfl (.tmp 56) (.tmp 61) rfl w.heap.size _ _ _ _ [c] rfl (HT.out.below ((Below.refl _ _).alloc (Nat.le_refl _) _)) (Nat.le_trans hbr.out.size (by simp)) ⟨wr.heap.size, 0, none⟩ 1 1 rfl rfl (cu_one wr _ c) (by have := filter_short p L j; have := filter_short (fun c => !p c) L j; have := HFew.out; omega) ?_))
        intro v4 w4 h4 hg4 hl4
        have B4 := Lib.hid ((hbr.out.alloc hbr.out.size _).grown hg4 (Nat.le_trans hbr.out.size (by simp)) (fun k hk => (HT.out.one.lt k hk).1))
        have T4 := Lib.hid h4
        clear h4 hg4 hl4 HT
        go_wp2_with fail
        go_roundw
        case rel => exact ⟨B4.out, j + 1, HLT.out, by go_num, by rw [HF.out.1, HF.out.2]; exact T4.out⟩
        case measure => have hm := HLT.out; simp [intOf] at hm ⊢; try omega
      · have hp : p c = false := by rw [hpc]; simp [ht1]
        have ht2 : (c.owner == n) = false := by simpa using ht1
        clear hpc
        have HF := Lib.hid (filter_no (p := p) HCC.out hp)
        clear hp
        go_wp2_with (first
          | (refine wpList_loadS _ (isR c) rfl (.tmp 66) rfl b (off + j * 16) rfl HR.out ?_)
          | (refine wpList_build1S _ 42 rfl (.tmp 67) rfl (run_build1R _ c) rfl ?_)
          | (at_builtin; refine wpList_appU undR infoR26 _ rfl (.tmp 63) (.tmp 68) rfl w.heap.size _ _ _ _ [c] rfl (HT.out.turn.below ((Below.refl _ _).alloc (Nat.le_refl _) _)) (Nat.le_trans hbr.out.size (by simp)) ⟨wr.heap.size, 0, none⟩ 1 1 rfl rfl (cu_one wr _ c) (by have := filter_short p L j; have := filter_short (fun c => !p c) L j; have := HFew.out; omega) ?_))
        intro v4 w4 h4 hg4 hl4
        have B4 := Lib.hid ((hbr.out.alloc hbr.out.size _).grown hg4 (Nat.le_trans hbr.out.size (by simp)) (fun k hk => (HT.out.turn.one.lt k hk).1))
        have T4 := Lib.hid h4.turn
        clear h4 hg4 hl4 HT
        go_wp2_with fail
        go_roundw
        case rel => exact ⟨B4.out, j + 1, HLT.out, by go_num, by rw [HF.out.1, HF.out.2]; exact T4.out⟩
        case measure => have hm := HLT.out; simp [intOf] at hm ⊢; try omega
    · obtain rfl : j = L.length := by omega
      rw [List.take_length] at ht
      obtain ⟨A1, d1, rfl, _, _⟩ := ht.one.form
      obtain ⟨A2, d2, rfl, _, _⟩ := ht.two.form
      have HT := Lib.hid ht
      clear ht hj
      go_wp2_with fail
      go_ret2
      exact ⟨_, _, rfl, HT.out.two.sl, HT.out.one.sl, hbr.out⟩
set_option maxRecDepth 100000 in
set_option maxHeartbeats 6400000 in
theorem RefSplit2_any (A : Option Addr) (d B : Nat) (L : List Cu) (n : Int) (w : World) (h : RowsU w 45 B A L) (hl : L.length ≤ 100) :
    Calls Try.prog 33 #[.slice A L.length d, .int .i64 2, .int .i64 n] w (RetSplit w (fun c => decide (n ≤ c.age)) L) := by
  have HA := Lib.hid h; have HFew := Lib.hid hl
  obtain ⟨p, hpE⟩ : ∃ p : Cu → Bool, p = fun c => decide (n ≤ c.age) := ⟨_, rfl⟩
  rw [← hpE]
  have HPE := Lib.hid hpE
  clear h hl hpE
  go_enter Try.func33, Try.ntmps33
  go_wp2_with fail
  go_loopw [8, 9, 10] (fun s t i wr => SplRel w p L s t i wr) (fun _ _ i _ => L.length - (intOf i).toNat)
  case atStart => exact ⟨Below.refl _ _, 0, Nat.zero_le _, rfl, OwnU.nil _ _ _, OwnU.nil _ _ _, .inl rfl⟩
  case round =>
    obtain ⟨hbr, j, hj, rfl, ht⟩ := hrel
    replace hbr := Lib.hid hbr
    by_cases hlt : j < L.length
    · obtain ⟨c, hc⟩ : ∃ c, L[j]? = some c := ⟨_, List.getElem?_eq_getElem hlt⟩
      obtain ⟨b, off, rfl, hb, hr⟩ := (HA.out.below hbr.out).at hc
      have HR := Lib.hid hr; have HT := Lib.hid ht; have HLT := Lib.hid hlt; have HCC := Lib.hid hc
      have r0 : wr.cell? ⟨b, off + j * 16 + 15, none⟩ = some (.int .i64 c.age) := hr 15 _ rfl
      have hjb : (j : Int) ≤ 100 := by have := HFew.out; omega
      have hi0 : (0 : Int) ≤ (j : Int) := by omega
      have hi1 : (j : Int) < (L.length : Int) := by omega
      have hpc : p c = (decide (n ≤ c.age)) := by rw [HPE.out]
      clear hr ht hj hb hc
      by_cases ht1 : n ≤ c.age
      · have hp : p c = true := by rw [hpc]; simp [ht1]
        clear hpc
        have HF := Lib.hid (filter_yes (p := p) HCC.out hp)
        clear hp
        go_wp2_with (first
          | (refine wpList_loadS _ (isR c) rfl (.tmp 59) rfl b (off + j * 16) rfl HR.out ?_)
          | (refine wpList_build1S _ 42 rfl (.tmp 60) rfl (run_build1R _ c) rfl ?_)
          | (at_builtin; refine wpList_appU undR infoR26 _ rfl (.tmp 56) (.tmp 61) rfl w.heap.size _ _ _ _ [c] rfl (HT.out.below ((Below.refl _ _).alloc (Nat.le_refl _) _)) (Nat.le_trans hbr.out.size (by simp)) ⟨wr.heap.size, 0, none⟩ 1 1 rfl rfl (cu_one wr _ c) (by have := filter_short p L j; have := filter_short (fun c => !p c) L j; have := HFew.out; omega) ?_))
        intro v4 w4 h4 hg4 hl4
        have B4 := Lib.hid ((hbr.out.alloc hbr.out.size _).grown hg4 (Nat.le_trans hbr.out.size (by simp)) (fun k hk => (HT.out.one.lt k hk).1))
        have T4 := Lib.hid h4
        clear h4 hg4 hl4 HT
        go_wp2_with fail
        go_roundw
        case rel => exact ⟨B4.out, j + 1, HLT.out, by go_num, by rw [HF.out.1, HF.out.2]; exact T4.out⟩
        case measure => have hm := HLT.out; simp [intOf] at hm ⊢; try omega
      · have hp : p c = false := by rw [hpc]; simp [ht1]
        have ht2 : ¬ n ≤ c.age := ht1
        clear hpc
        have HF := Lib.hid (filter_no (p := p) HCC.out hp)
        clear hp
        go_wp2_with (first
          | (refine wpList_loadS _ (isR c) rfl (.tmp 66) rfl b (off + j * 16) rfl HR.out ?_)
          | (refine wpList_build1S _ 42 rfl (.tmp 67) rfl (run_build1R _ c) rfl ?_)
          | (at_builtin; refine wpList_appU undR infoR26 _ rfl (.tmp 63) (.tmp 68) rfl w.heap.size _ _ _ _ [c] rfl (HT.out.turn.below ((Below.refl _ _).alloc (Nat.le_refl _) _)) (Nat.le_trans hbr.out.size (by simp)) ⟨wr.heap.size, 0, none⟩ 1 1 rfl rfl (cu_one wr _ c) (by have := filter_short p L j; have := filter_short (fun c => !p c) L j; have := HFew.out; omega) ?_))
        intro v4 w4 h4 hg4 hl4
        have B4 := Lib.hid ((hbr.out.alloc hbr.out.size _).grown hg4 (Nat.le_trans hbr.out.size (by simp)) (fun k hk => (HT.out.turn.one.lt k hk).1))
        have T4 := Lib.hid h4.turn
        clear h4 hg4 hl4 HT
        go_wp2_with fail
        go_roundw
        case rel => exact ⟨B4.out, j + 1, HLT.out, by go_num, by rw [HF.out.1, HF.out.2]; exact T4.out⟩
        case measure => have hm := HLT.out; simp [intOf] at hm ⊢; try omega
    · obtain rfl : j = L.length := by omega
      rw [List.take_length] at ht
      obtain ⟨A1, d1, rfl, _, _⟩ := ht.one.form
      obtain ⟨A2, d2, rfl, _, _⟩ := ht.two.form
      have HT := Lib.hid ht
      clear ht hj
      go_wp2_with fail
      go_ret2
      exact ⟨_, _, rfl, HT.out.two.sl, HT.out.one.sl, hbr.out⟩
end Go.Proofs.Ytgaoonnokhlgjaa

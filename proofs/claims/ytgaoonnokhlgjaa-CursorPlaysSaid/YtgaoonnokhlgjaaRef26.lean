/-
  The document's table of cursors: New, Get.
-/
import Derived.Test.YtgaoonnokhlgjaaFind26
namespace Go.Proofs.Ytgaoonnokhlgjaa
set_option linter.unusedVariables false
set_option linter.unusedSimpArgs false
open Go.RowKit

/-- Block h holds the document's table. -/
structure RT (w : World) (h : Nat) (mo li la : Int) (v : Value) (L : List Cu) : Prop where
  blk : Blk w h 60 [.int .i64 mo, .int .i64 li, .int .i64 la, v]
  rows : SlU w 45 0 v L
  few : L.length ≤ 100
theorem RT.below {w w' : World} {g : Nat} {mo li la : Int} {v : Value} {L : List Cu} (h : RT w g mo li la v L) (hb : Below w.heap.size w w') : RT w' g mo li la v L := ⟨h.blk.below hb h.blk.lt, h.rows.below hb, h.few⟩
theorem undR : Try.prog.underlying 42 = some (.slice 45) := Try.underlying42
/-- Rows of cursors do not lie in a block of another type. -/
theorem RowsU.grown {w w' : World} {T B g T' : Nat} {A : Option Addr} {L : List Cu} {cs : List Value} (h : RowsU w T B A L) (hk : Blk w g T' cs) (ht : T ≠ T') (hg : w.grownBy w' (some g)) : RowsU w' T B A L :=
  h.same fun b o _ ho ⟨cur, fr, e⟩ => (hg.block b (lt_of_some ho) (fun e2 => by
    have e3 : b = g := by simpa using e2
    subst e3
    have e4 := ho.symm.trans hk
    rw [e] at e4
    simp at e4
    exact ht e4.2.1)).trans ho
theorem SlU.grown {w w' : World} {T B g T' : Nat} {v : Value} {L : List Cu} {cs : List Value} (h : SlU w T B v L) (hk : Blk w g T' cs) (ht : T ≠ T') (hg : w.grownBy w' (some g)) : SlU w' T B v L := by
  obtain ⟨A, c, rfl, h⟩ := h
  exact ⟨A, c, rfl, h.grown hk ht hg⟩
set_option maxHeartbeats 3200000 in
theorem RefNew26_any (m l : Int) (w : World) :
    Calls Try.prog 10 #[.int .i64 m, .int .i64 l] w fun e w' => e = .returned (.pointer (some ⟨w.heap.size, 0, none⟩)) ∧ RT w' w.heap.size (mostC m) (lifeC l) 0 (.slice none 0 0) [] ∧ Below w.heap.size w w' := by
  have fin : ∀ a b : Int, ∀ w' : World, Blk w' w.heap.size 60 [.int .i64 a, .int .i64 b, .int .i64 0, .slice none 0 0] → Below w.heap.size w w' → RT w' w.heap.size a b 0 (.slice none 0 0) [] ∧ Below w.heap.size w w' :=
    fun a b w' k hb => ⟨⟨k, SlU.nil _ _ _, by simp⟩, hb⟩
  have hb0 := (Below.refl w.heap.size w).alloc (Nat.le_refl _) (.cells #[.int .i64 m, .int .i64 l, .int .i64 0, .slice none 0 0] 60)
  have k0 := Blk.new w 60 [.int .i64 m, .int .i64 l, .int .i64 0, .slice none 0 0]
  have HB := Lib.hid hb0; have HK := Lib.hid k0
  clear hb0 k0
  unfold mostC lifeC
  rcases (show m < 0 ∨ ¬ m < 0 ∧ 8 < m ∨ ¬ m < 0 ∧ ¬ 8 < m by omega) with h1 | ⟨h1, h2⟩ | ⟨h1, h2⟩ <;> rcases (show l < 1 ∨ ¬ l < 1 by omega) with h3 | h3
  · rw [if_pos h1]
    rw [if_pos h3]
    go_enter Try.func10, Try.ntmps10
    go_wp2_with fail
    go_ret
    refine ⟨rfl, fin _ _ _ ?_ ?_⟩
    · first
        | exact HK.out
        | exact Blk.new w _ _
        | exact HK.out.set 0 _
        | exact HK.out.set 1 _
        | exact (HK.out.set 0 _).set 1 _
    · first
        | exact HB.out
        | exact (Below.refl w.heap.size w).alloc (Nat.le_refl _) _
        | exact HB.out.setCell (Nat.le_refl _) _
        | exact (HB.out.setCell (Nat.le_refl _) _).setCell (Nat.le_refl _) _
  · rw [if_pos h1]
    rw [if_neg h3]
    go_enter Try.func10, Try.ntmps10
    go_wp2_with fail
    go_ret
    refine ⟨rfl, fin _ _ _ ?_ ?_⟩
    · first
        | exact HK.out
        | exact Blk.new w _ _
        | exact HK.out.set 0 _
        | exact HK.out.set 1 _
        | exact (HK.out.set 0 _).set 1 _
    · first
        | exact HB.out
        | exact (Below.refl w.heap.size w).alloc (Nat.le_refl _) _
        | exact HB.out.setCell (Nat.le_refl _) _
        | exact (HB.out.setCell (Nat.le_refl _) _).setCell (Nat.le_refl _) _
  · rw [if_neg h1, if_pos h2]
    rw [if_pos h3]
    go_enter Try.func10, Try.ntmps10
    go_wp2_with fail
    go_ret
    refine ⟨rfl, fin _ _ _ ?_ ?_⟩
    · first
        | exact HK.out
        | exact Blk.new w _ _
        | exact HK.out.set 0 _
        | exact HK.out.set 1 _
        | exact (HK.out.set 0 _).set 1 _
    · first
        | exact HB.out
        | exact (Below.refl w.heap.size w).alloc (Nat.le_refl _) _
        | exact HB.out.setCell (Nat.le_refl _) _
        | exact (HB.out.setCell (Nat.le_refl _) _).setCell (Nat.le_refl _) _
  · rw [if_neg h1, if_pos h2]
    rw [if_neg h3]
    go_enter Try.func10, Try.ntmps10
    go_wp2_with fail
    go_ret
    refine ⟨rfl, fin _ _ _ ?_ ?_⟩
    · first
        | exact HK.out
        | exact Blk.new w _ _
        | exact HK.out.set 0 _
        | exact HK.out.set 1 _
        | exact (HK.out.set 0 _).set 1 _
    · first
        | exact HB.out
        | exact (Below.refl w.heap.size w).alloc (Nat.le_refl _) _
        | exact HB.out.setCell (Nat.le_refl _) _
        | exact (HB.out.setCell (Nat.le_refl _) _).setCell (Nat.le_refl _) _
  · rw [if_neg h1, if_neg h2]
    rw [if_pos h3]
    go_enter Try.func10, Try.ntmps10
    go_wp2_with fail
    go_ret
    refine ⟨rfl, fin _ _ _ ?_ ?_⟩
    · first
        | exact HK.out
        | exact Blk.new w _ _
        | exact HK.out.set 0 _
        | exact HK.out.set 1 _
        | exact (HK.out.set 0 _).set 1 _
    · first
        | exact HB.out
        | exact (Below.refl w.heap.size w).alloc (Nat.le_refl _) _
        | exact HB.out.setCell (Nat.le_refl _) _
        | exact (HB.out.setCell (Nat.le_refl _) _).setCell (Nat.le_refl _) _
  · rw [if_neg h1, if_neg h2]
    rw [if_neg h3]
    go_enter Try.func10, Try.ntmps10
    go_wp2_with fail
    go_ret
    refine ⟨rfl, fin _ _ _ ?_ ?_⟩
    · first
        | exact HK.out
        | exact Blk.new w _ _
        | exact HK.out.set 0 _
        | exact HK.out.set 1 _
        | exact (HK.out.set 0 _).set 1 _
    · first
        | exact HB.out
        | exact (Below.refl w.heap.size w).alloc (Nat.le_refl _) _
        | exact HB.out.setCell (Nat.le_refl _) _
        | exact (HB.out.setCell (Nat.le_refl _) _).setCell (Nat.le_refl _) _
set_option maxRecDepth 100000 in
set_option maxHeartbeats 6400000 in
theorem RefGet26_any (h : Nat) (mo li la : Int) (v : Value) (L : List Cu) (o i : Int) (z : Cu) (b : Bool) (w : World) (hT : RT w h mo li la v L)
    (hz : (b = true ∧ ∃ k, posU L o i = some k ∧ L[k]? = some z) ∨ (b = false ∧ z = Cu0 ∧ posU L o i = none)) :
    Calls Try.prog 16 #[.pointer (some ⟨h, 0, none⟩), .int .i64 o, .int .i64 i] w fun e w' => e = .returned (.tuple #[aggS z.row, .bool b]) ∧ Below w.heap.size w w' := by
  have hb1 := (Below.refl w.heap.size w).alloc (Nat.le_refl _) (.cells zerosU.toArray 45)
  have hT1 := hT.below hb1
  have k1 := Blk.new w 45 zerosU
  obtain ⟨W1, hW1⟩ : ∃ W1, W1 = w.alloc (.cells zerosU.toArray 45) := ⟨_, rfl⟩
  rw [← hW1] at hb1 hT1 k1
  obtain ⟨A, d, rfl, hrows⟩ := hT1.rows
  obtain ⟨c0, c1, c2, c3⟩ := cells4 hT1.blk
  have HW := Lib.hid (show W1 = w.alloc (.cells #[.int .i64 0, .int .i64 0, .int .i64 0, .int .i64 0, .int .i64 0, .int .u32 0, .int .i64 0, .int .i64 0, .int .i64 0, .string ⟨#[]⟩, .slice none 0 0, .int .i64 0, .bool false, .int .u32 0, .int .i64 0, .int .i64 0] 45) from hW1)
  have HK := Lib.hid k1; have HB := Lib.hid hb1; have HR := Lib.hid hrows; have HZ := Lib.hid hz; have HF := Lib.hid hT.few
  clear hT hT1 hb1 k1 hW1 hrows hz
  go_enter Try.func16, Try.ntmps16
  go_wp2_with (rw [← HW.out])
  clear HW
  go_loop [8] (fun x => ∃ j : Nat, j ≤ L.length ∧ x = .int .i64 (j : Int) ∧ Hid (∀ x ∈ L.take j, hitU o i x = false)) (fun x => L.length - (intOf x).toNat)
  case atStart => exact ⟨0, Nat.zero_le _, rfl, Lib.hid (fun x hx => by simp at hx)⟩
  case round =>
    obtain ⟨j, hj, rfl, hno⟩ := hrel
    by_cases hlt : j < L.length
    · obtain ⟨c, hc⟩ : ∃ c, L[j]? = some c := ⟨_, List.getElem?_eq_getElem hlt⟩
      obtain ⟨b1, off, rfl, hb, hr⟩ := HR.out.at hc
      have HC := Lib.hid hr; have HLT := Lib.hid hlt
      have r0 : W1.cell? ⟨b1, off + j * 16, none⟩ = some (.int .i64 c.id) := hr 0 _ rfl
      have r1 : W1.cell? ⟨b1, off + j * 16 + 1, none⟩ = some (.int .i64 c.owner) := hr 1 _ rfl
      have hi0 : (0 : Int) ≤ (j : Int) := by omega
      have hi1 : (j : Int) < (L.length : Int) := by omega
      have hjb : (j : Int) ≤ 100 := by have := HF.out; omega
      have HP := Lib.hid (fun h => posU_at hc h hno.out)
      have HQ := Lib.hid (fun h => take_no hc h hno.out)
      have HCC := Lib.hid hc
      clear hr hb hc hno hj
      cases h1 : c.id == i with
      | false =>
        have HN := Lib.hid (HQ.out (by unfold hitU; rw [h1]; rfl))
        clear HP HQ
        go_wp2_with fail
        go_round
        case rel => exact ⟨j + 1, HLT.out, by go_num, HN⟩
        case measure => have hm := HLT.out; simp [intOf] at hm ⊢; try omega
      | true =>
        cases h2 : c.owner == o with
        | false =>
          have HN := Lib.hid (HQ.out (by unfold hitU; rw [h1, h2]; rfl))
          clear HP HQ
          go_wp2_with fail
          go_round
          case rel => exact ⟨j + 1, HLT.out, by go_num, HN⟩
          case measure => have hm := HLT.out; simp [intOf] at hm ⊢; try omega
        | true =>
          have hp := HP.out (by unfold hitU; rw [h1, h2]; rfl)
          obtain ⟨rfl, rfl⟩ : b = true ∧ z = c := by
            rcases HZ.out with ⟨hb, k, hk, hz⟩ | ⟨_, _, hk⟩
            · rw [hp] at hk
              cases hk
              rw [HCC.out] at hz
              exact ⟨hb, (Option.some.inj hz).symm⟩
            · rw [hp] at hk; cases hk
          clear HP HQ HZ hp
          go_wp2_with (first
            | (refine wpList_loadS _ (isR z) rfl (.tmp 45) rfl b1 (off + j * 16) rfl HC.out ?_)
            | (refine wpList_storeS _ (isR z) z.one rfl rfl (.tmp 6) (.tmp 46) rfl w.heap.size _ zerosU rfl rfl HK.out rfl ?_))
          intro w3 k3 hg3 hz3
          have HK3 := Lib.hid k3
          have HB3 := Lib.hid (HB.out.grown hg3 HB.out.size (fun k hk => by cases hk; exact Nat.le_refl _))
          clear k3 hg3 hz3
          go_wp2_with fail
          (try simp only [Exit.inBlock, Exit.then])
          exact bodyPost_ret (results_cell2S (isR z) rfl _ _ w.heap.size rfl HK3.out.rowAt _ rfl) rfl ⟨rfl, HB3.out⟩
    · obtain rfl : j = L.length := by omega
      have hno2 := hno.out
      rw [List.take_length] at hno2
      obtain ⟨rfl, rfl⟩ : b = false ∧ z = Cu0 := by
        rcases HZ.out with ⟨hb, k, hk, hz⟩ | ⟨h1, h2, _⟩
        · rw [posU_no hno2] at hk; cases hk
        · exact ⟨h1, h2⟩
      clear hno hno2 HZ hj
      go_wp2_with (refine wpList_storeS _ (isR Cu0) Cu0.one rfl rfl (.tmp 6) (.tmp 47) rfl w.heap.size _ zerosU rfl rfl HK.out rfl ?_)
      intro w3 k3 hg3 hz3
      have HK3 := Lib.hid k3
      have HB3 := Lib.hid (HB.out.grown hg3 HB.out.size (fun k hk => by cases hk; exact Nat.le_refl _))
      clear k3 hg3 hz3
      go_wp2_with fail
      (try simp only [Exit.inBlock, Exit.then])
      exact bodyPost_ret (results_cell2S (isR Cu0) rfl _ _ w.heap.size rfl HK3.out.rowAt _ rfl) rfl ⟨rfl, HB3.out⟩
end Go.Proofs.Ytgaoonnokhlgjaa

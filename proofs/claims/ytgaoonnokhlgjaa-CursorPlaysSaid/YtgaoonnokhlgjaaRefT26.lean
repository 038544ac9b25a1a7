/-
  The document's Tick and Move.
-/
import Derived.Test.YtgaoonnokhlgjaaRefL26
import Derived.Test.YtgaoonnokhlgjaaTick26
import Derived.Test.YtgaoonnokhlgjaaMove26
namespace Go.Proofs.Ytgaoonnokhlgjaa
set_option linter.unusedVariables false
set_option linter.unusedSimpArgs false
open Go.RowKit

theorem cells_age {w : World} {g T : Nat} {c : Cu} (h : Blk w g T c.row) : w.cell? ⟨g, 15, none⟩ = some (.int .i64 c.age) ∧ w.frozen? ⟨g, 15, none⟩ = false := ⟨h.cell 15, h.free 15⟩
structure RTickRel (B : Nat) (w : World) (f : Cu → Cu) (L : List Cu) (v i : Value) (wr : World) (j : Nat) : Prop where
  le : j ≤ L.length
  i : i = .int .i64 (j : Int)
  own : OwnU wr 45 B v ((L.take j).map f)
  bel : Below w.heap.size w wr
theorem map_step {f : Cu → Cu} {L : List Cu} {j : Nat} {c : Cu} (hc : L[j]? = some c) : (L.take (j + 1)).map f = (L.take j).map f ++ [f c] := by
  obtain ⟨hj, rfl⟩ := List.getElem?_eq_some_iff.1 hc
  rw [List.take_succ_eq_append_getElem hj, List.map_append]
  rfl
theorem TwoU.single {w : World} {T B : Nat} {v : Value} {M : List Cu} (h : OwnU w T B v M) : TwoU w T B v (.slice none 0 0) M [] := ⟨h, OwnU.nil _ _ _, by
  cases hv : v.ownBlock with
  | none => exact .inl rfl
  | some k => exact .inr (by simp [Value.ownBlock])⟩
set_option maxRecDepth 100000 in
set_option maxHeartbeats 6400000 in
theorem RefTick26_any (h : Nat) (mo li la : Int) (v : Value) (L : List Cu) (w : World) (hT : RT w h mo li la v L) (ha : ∀ c ∈ L, 0 ≤ c.age ∧ c.age ≤ 9223372036854775806) :
    Calls Try.prog 25 #[.pointer (some ⟨h, 0, none⟩)] w (RetRef w h mo li la ((L.map older).filter fun c => !(decide (li ≤ c.age))) ((L.map older).filter fun c => decide (li ≤ c.age))) := by
  obtain ⟨A, d, rfl, hrows⟩ := hT.rows
  have HT := Lib.hid hT; have HR := Lib.hid hrows; have HA := Lib.hid ha
  have HFew := Lib.hid hT.few
  clear hT hrows ha
  go_enter Try.func25, Try.ntmps25
  go_wp2_with fail
  go_loopw [3, 4] (fun v i wr => ∃ j, RTickRel w.heap.size w older L v i wr j) (fun _ i _ => L.length - (intOf i).toNat)
  case atStart => exact ⟨0, Nat.zero_le _, rfl, OwnU.nil _ _ _, Below.refl _ _⟩
  case round =>
    obtain ⟨j, hj, rfl, ho, hb⟩ := hrel
    have ht := HT.out.below hb
    obtain ⟨c0, c1, c2, c3⟩ := cells4 ht.blk
    have HO := Lib.hid ho; have HB := Lib.hid hb
    by_cases hlt : j < L.length
    · obtain ⟨c, hc⟩ : ∃ c, L[j]? = some c := ⟨_, List.getElem?_eq_getElem hlt⟩
      obtain ⟨b, off, rfl, hbl, hr⟩ := (HR.out.below hb).at hc
      have HROW := Lib.hid hr; have HLT := Lib.hid hlt; have HM := Lib.hid (map_step (f := older) hc)
      have hage := HA.out c (List.mem_of_getElem? hc)
      have hw : wrap64 (c.age + 1) = c.age + 1 := by unfold wrap64; omega
      have hjb : (j : Int) ≤ 100 := by have := HFew.out; omega
      have hi0 : (0 : Int) ≤ (j : Int) := by omega
      have hi1 : (j : Int) < (L.length : Int) := by omega
      clear hr hage hj ho hb hc hbl ht
      go_wp2_with (first
        | (refine wpList_loadS _ (isR c) rfl (.tmp 22) rfl b (off + j * 16) rfl HROW.out ?_)
        | (refine wpList_storeNewS _ wr zerosU 45 rfl (isR c) c.one rfl rfl (.tmp 5) (.tmp 23) rfl rfl rfl rfl ?_))
      intro w2 k2 hb2 hz2
      obtain ⟨a15, f15⟩ := cells_age k2
      have B2 := Lib.hid (HB.out.trans (hb2.mono HB.out.size))
      obtain ⟨W3, hW3⟩ : ∃ W3, W3 = w2.setCell ⟨wr.heap.size, 15, none⟩ (.int .i64 (c.age + 1)) := ⟨_, rfl⟩
      have hg3 : w2.grownBy W3 (some wr.heap.size) := by rw [hW3]; exact grown_setCell (grown_refl _ _) _ _
      have K3 := Lib.hid (show Blk W3 wr.heap.size 45 (older c).row from by rw [hW3]; exact k2.set 15 _)
      have B3 := Lib.hid (B2.out.grown hg3 B2.out.size (fun k hk => by cases hk; exact HB.out.size))
      have O3 := Lib.hid (World.ownsRow.kept (HO.out.below hb2) hg3 (.inr fun e => by have := (HO.out.lt _ e).2; omega))
      have HW3 := Lib.hid hW3
      clear k2 hb2 hz2 hW3 hg3 c0 c1 c2 c3
      go_wp2_with (first
        | (rw [← HW3.out]; refine wpList_loadS _ (isR (older c)) rfl (.tmp 5) rfl wr.heap.size 0 rfl K3.out.rowAt ?_)
        | (refine wpList_build1S _ 42 rfl (.tmp 29) rfl (run_build1R _ (older c)) rfl ?_)
        | (at_builtin; refine wpList_appU undR infoR26 _ rfl (.tmp 28) (.tmp 30) rfl w.heap.size _ (.slice none 0 0) _ [] [older c] rfl ((TwoU.single (show OwnU W3 45 w.heap.size _ _ from O3.out)).below ((Below.refl _ _).alloc (Nat.le_refl _) _)) (Nat.le_trans B3.out.size (by simp)) ⟨W3.heap.size, 0, none⟩ 1 1 rfl rfl (cu_one W3 _ (older c)) (by have := HFew.out; have := HLT.out; rw [List.length_map, List.length_take]; omega) ?_))
      intro v4 w4 h4 hg4 hl4
      have B4 := Lib.hid ((B3.out.alloc B3.out.size _).grown hg4 (Nat.le_trans B3.out.size (by simp)) (fun k hk => (World.ownsRow.lt O3.out k hk).1))
      have O4 := Lib.hid h4.one
      clear h4 hg4 hl4 a15 f15
      go_wp2_with fail
      go_roundw
      case rel => exact ⟨j + 1, HLT.out, by go_num, by rw [HM.out, List.map_take]; exact O4.out, B4.out⟩
      case measure => have hm := HLT.out; simp [intOf] at hm ⊢; try omega
    · obtain rfl : j = L.length := by omega
      rw [List.take_length] at ho
      obtain ⟨A1, d1, rfl, _, _⟩ := ho.form
      have QS := Lib.hid (RefSplit2_any A1 d1 w.heap.size (L.map older) li wr ho.rows (by rw [List.length_map]; exact HFew.out))
      have hml : (L.map older).length = L.length := List.length_map _
      rw [hml] at QS
      have HT2 := Lib.hid ht
      clear ho hml hj
      rw [List.length_map]
      go_wp2_with fail
      refine QS.out.mono ?_
      rintro e w4 ⟨s, u, rfl, hs, hu, hb4⟩
      have ht4 := HT2.out.below hb4
      obtain ⟨q0, q1, q2, q3⟩ := cells4 ht4.blk
      obtain ⟨f0, f1, f2, f3⟩ := free4 ht4.blk
      have HT4 := Lib.hid ht4; have HS := Lib.hid (hs.lower (Nat.zero_le _)); have HU := Lib.hid (hu.lower (Nat.zero_le _)); have HB4 := Lib.hid (HB.out.trans (hb4.mono HB.out.size))
      clear ht4 hs hu hb4 QS HT2 c0 c1 c2 c3 ht hb
      obtain ⟨S1, hS1⟩ : ∃ S, S = ((L.map older).filter fun c => !(decide (li ≤ c.age))) := ⟨_, rfl⟩
      obtain ⟨U1, hU1⟩ : ∃ S, S = ((L.map older).filter fun c => decide (li ≤ c.age)) := ⟨_, rfl⟩
      rw [← hS1] at HS
      rw [← hU1] at HU
      have HS1 := Lib.hid hS1; have HU1 := Lib.hid hU1
      clear hS1 hU1
      obtain ⟨A2, d2, rfl, _⟩ := id HS.out
      obtain ⟨A3, d3, rfl, _⟩ := id HU.out
      go_wp2_with fail
      go_ret
      have hS1 := HS1.out; have hU1 := HU1.out
      subst hS1 hU1
      exact ⟨_, _, rfl, rt_set HT4.out HS.out (Nat.le_trans (List.length_filter_le _ _) (by rw [List.length_map]; exact HFew.out)), HU.out.grown HT4.out.blk (by decide) (grown_setCell (grown_refl _ _) _ _), grown_setCell (grown_of_below HB4.out (some h)) _ _⟩
/-- What Move makes of each. -/
def moveU (o i a l : Int) (c : Cu) : Cu := if hitU o i c then movedU c a l else c
def RetRefM (w : World) (h : Nat) (mo li la : Int) (L : List Cu) (b : Bool) (e : Ending) (w' : World) : Prop := e = .returned (.bool b) ∧ ∃ v', RT w' h mo li la v' L ∧ w.grownBy w' (some h)
theorem any_step {p : Cu → Bool} {L : List Cu} {j : Nat} {c : Cu} (hc : L[j]? = some c) : (L.take (j + 1)).any p = ((L.take j).any p || p c) := by
  obtain ⟨hj, rfl⟩ := List.getElem?_eq_some_iff.1 hc
  rw [List.take_succ_eq_append_getElem hj, List.any_append]
  simp
theorem cells_mv {w : World} {g T : Nat} {c : Cu} (h : Blk w g T c.row) : w.cell? ⟨g, 0, none⟩ = some (.int .i64 c.id) ∧ w.cell? ⟨g, 1, none⟩ = some (.int .i64 c.owner) ∧ w.cell? ⟨g, 13, none⟩ = some (.int .u32 c.aa) ∧ w.cell? ⟨g, 14, none⟩ = some (.int .i64 c.al) ∧ w.cell? ⟨g, 15, none⟩ = some (.int .i64 c.age) := ⟨h.cell 0, h.cell 1, h.cell 13, h.cell 14, h.cell 15⟩
theorem free_mv {w : World} {g T : Nat} {cs : List Value} (h : Blk w g T cs) : w.frozen? ⟨g, 13, none⟩ = false ∧ w.frozen? ⟨g, 14, none⟩ = false ∧ w.frozen? ⟨g, 15, none⟩ = false := ⟨h.free 13, h.free 14, h.free 15⟩
theorem MoveRel (w : World) : True := trivial
set_option maxRecDepth 100000 in
set_option maxHeartbeats 6400000 in
theorem RefMove26_any (h : Nat) (mo li la : Int) (v : Value) (L : List Cu) (o i a l : Int) (w : World) (hT : RT w h mo li la v L) :
    Calls Try.prog 19 #[.pointer (some ⟨h, 0, none⟩), .int .i64 o, .int .i64 i, .agg #[.int .u32 a, .int .i64 l]] w (RetRefM w h mo li la (L.map (moveU o i a l)) (L.any (hitU o i))) := by
  obtain ⟨A, d, rfl, hrows⟩ := hT.rows
  have hb0 := (Below.refl w.heap.size w).alloc (Nat.le_refl _) (.cells #[.int .u32 a, .int .i64 l] 31)
  have HP := Lib.hid (Blk.new w 31 [.int .u32 a, .int .i64 l])
  have HT := Lib.hid hT; have HR := Lib.hid hrows; have HB0 := Lib.hid hb0
  have HFew := Lib.hid hT.few
  clear hT hrows hb0
  go_enter Try.func19, Try.ntmps19
  go_wp2_with fail
  go_loopw [9, 10, 11] (fun q v i9 wr => ∃ j : Nat, q = .bool ((L.take j).any (hitU o i)) ∧ Below (w.heap.size + 1) (w.alloc (.cells #[.int .u32 a, .int .i64 l] 31)) wr ∧ RTickRel (w.heap.size + 1) w (moveU o i a l) L v i9 wr j) (fun _ _ i9 _ => L.length - (intOf i9).toNat)
  case atStart => exact ⟨0, by simp, Below.refl _ _, Nat.zero_le _, rfl, OwnU.nil _ _ _, HB0.out⟩
  case round =>
    obtain ⟨j, rfl, hbp, hj, rfl, ho, hb⟩ := hrel
    have ht := HT.out.below hb
    obtain ⟨c0, c1, c2, c3⟩ := cells4 ht.blk
    have kp := HP.out.below hbp (Nat.lt_succ_self _)
    have p0 : wr.cell? ⟨w.heap.size, 0, none⟩ = some (.int .u32 a) := kp.cell 0
    have p1 : wr.cell? ⟨w.heap.size, 1, none⟩ = some (.int .i64 l) := kp.cell 1
    have HO := Lib.hid ho; have HB := Lib.hid hb; have HBP := Lib.hid hbp; have HKP := Lib.hid kp
    by_cases hlt : j < L.length
    · obtain ⟨c, hc⟩ : ∃ c, L[j]? = some c := ⟨_, List.getElem?_eq_getElem hlt⟩
      obtain ⟨b, off, rfl, hbl, hr⟩ := (HR.out.below hb).at hc
      have HROW := Lib.hid hr; have HLT := Lib.hid hlt; have HM := Lib.hid (map_step (f := moveU o i a l) hc)
      have HAN := Lib.hid (any_step (p := hitU o i) hc)
      have hjb : (j : Int) ≤ 100 := by have := HFew.out; omega
      have hi0 : (0 : Int) ≤ (j : Int) := by omega
      have hi1 : (j : Int) < (L.length : Int) := by omega
      obtain ⟨q9, hq9⟩ : ∃ q, q = (L.take j).any (hitU o i) := ⟨_, rfl⟩
      rw [← hq9] at HAN ⊢
      clear hr hj ho hb hc hbl ht hbp kp hq9
      go_wp2_with (first
        | (refine wpList_loadS _ (isR c) rfl (.tmp 27) rfl b (off + j * 16) rfl HROW.out ?_)
        | (refine wpList_storeNewS _ wr zerosU 45 rfl (isR c) c.one rfl rfl (.tmp 12) (.tmp 28) rfl rfl rfl rfl ?_))
      intro w2 k2 hb2 hz2
      obtain ⟨a0, a1, a13, a14, a15⟩ := cells_mv k2
      obtain ⟨f13, f14, f15⟩ := free_mv k2
      have B2 := Lib.hid (HB.out.trans (hb2.mono HB.out.size))
      have hkp2 := HKP.out.below hb2 HKP.out.lt
      have pp0 : w2.cell? ⟨w.heap.size, 0, none⟩ = some (.int .u32 a) := hkp2.cell 0
      have pp1 : w2.cell? ⟨w.heap.size, 1, none⟩ = some (.int .i64 l) := hkp2.cell 1
      have O2 := Lib.hid (HO.out.below hb2)
      have BP2 := Lib.hid (HBP.out.trans (hb2.mono (by simpa using HBP.out.size)))
      have hnp : ¬ (wr.heap.size = w.heap.size) := by have := HKP.out.lt; omega
      clear hkp2 c0 c1 c2 c3 p0 p1
      cases h1 : c.id == i with
      | false =>
        have HMU := Lib.hid (show moveU o i a l c = c from by unfold moveU hitU; rw [h1]; rfl)
        have HH := Lib.hid (show hitU o i c = false from by unfold hitU; rw [h1]; rfl)
        have K2 := Lib.hid k2
        clear k2 hb2 hz2
        go_wp2_with (first
          | (refine wpList_loadS _ (isR (c)) rfl (.tmp 12) rfl wr.heap.size 0 rfl K2.out.rowAt ?_)
          | (refine wpList_build1S _ 42 rfl (.tmp 43) rfl (run_build1R _ (c)) rfl ?_)
          | (at_builtin; refine wpList_appU undR infoR26 _ rfl (.tmp 42) (.tmp 44) rfl (w.heap.size + 1) _ (.slice none 0 0) _ [] [c] rfl ((TwoU.single (show OwnU w2 45 (w.heap.size + 1) _ _ from O2.out)).below ((Below.refl _ _).alloc (Nat.le_refl _) _)) (by have := BP2.out.size; simp at this ⊢; omega) ⟨w2.heap.size, 0, none⟩ 1 1 rfl rfl (cu_one w2 _ (c)) (by have := HFew.out; have := HLT.out; rw [List.length_map, List.length_take]; omega) ?_))
        intro v4 w4 h4 hg4 hl4
        have B4 := Lib.hid ((B2.out.alloc B2.out.size _).grown hg4 (Nat.le_trans B2.out.size (by simp)) (fun k hk => Nat.le_of_succ_le (World.ownsRow.lt O2.out k hk).1))
        have BP4 := Lib.hid ((BP2.out.alloc (by have := BP2.out.size; simpa using this) _).grown hg4 (by have := BP2.out.size; simp at this ⊢; omega) (fun k hk => (World.ownsRow.lt O2.out k hk).1))
        have O4 := Lib.hid h4.one
        clear h4 hg4 hl4
        go_wp2_with fail
        go_roundw
        case rel => exact ⟨j + 1, by rw [HAN.out, HH.out]; simp, BP4.out, HLT.out, by go_num, by rw [HM.out, HMU.out, List.map_take]; exact O4.out, B4.out⟩
        case measure => have hm := HLT.out; simp [intOf] at hm ⊢; try omega
      | true =>
        cases h2 : c.owner == o with
        | false =>
          have HMU := Lib.hid (show moveU o i a l c = c from by unfold moveU hitU; rw [h1, h2]; rfl)
          have HH := Lib.hid (show hitU o i c = false from by unfold hitU; rw [h1, h2]; rfl)
          have K2 := Lib.hid k2
          clear k2 hb2 hz2
          go_wp2_with (first
            | (refine wpList_loadS _ (isR (c)) rfl (.tmp 12) rfl wr.heap.size 0 rfl K2.out.rowAt ?_)
            | (refine wpList_build1S _ 42 rfl (.tmp 43) rfl (run_build1R _ (c)) rfl ?_)
            | (at_builtin; refine wpList_appU undR infoR26 _ rfl (.tmp 42) (.tmp 44) rfl (w.heap.size + 1) _ (.slice none 0 0) _ [] [c] rfl ((TwoU.single (show OwnU w2 45 (w.heap.size + 1) _ _ from O2.out)).below ((Below.refl _ _).alloc (Nat.le_refl _) _)) (by have := BP2.out.size; simp at this ⊢; omega) ⟨w2.heap.size, 0, none⟩ 1 1 rfl rfl (cu_one w2 _ (c)) (by have := HFew.out; have := HLT.out; rw [List.length_map, List.length_take]; omega) ?_))
          intro v4 w4 h4 hg4 hl4
          have B4 := Lib.hid ((B2.out.alloc B2.out.size _).grown hg4 (Nat.le_trans B2.out.size (by simp)) (fun k hk => Nat.le_of_succ_le (World.ownsRow.lt O2.out k hk).1))
          have BP4 := Lib.hid ((BP2.out.alloc (by have := BP2.out.size; simpa using this) _).grown hg4 (by have := BP2.out.size; simp at this ⊢; omega) (fun k hk => (World.ownsRow.lt O2.out k hk).1))
          have O4 := Lib.hid h4.one
          clear h4 hg4 hl4
          go_wp2_with fail
          go_roundw
          case rel => exact ⟨j + 1, by rw [HAN.out, HH.out]; simp, BP4.out, HLT.out, by go_num, by rw [HM.out, HMU.out, List.map_take]; exact O4.out, B4.out⟩
          case measure => have hm := HLT.out; simp [intOf] at hm ⊢; try omega
        | true =>
          have HMU := Lib.hid (show moveU o i a l c = movedU c a l from by unfold moveU hitU; rw [h1, h2]; rfl)
          have HH := Lib.hid (show hitU o i c = true from by unfold hitU; rw [h1, h2]; rfl)
          obtain ⟨W3, hW3⟩ : ∃ W3, W3 = ((w2.setCell ⟨wr.heap.size, 13, none⟩ (.int .u32 a)).setCell ⟨wr.heap.size, 14, none⟩ (.int .i64 l)).setCell ⟨wr.heap.size, 15, none⟩ (.int .i64 0) := ⟨_, rfl⟩
          have hg3 : w2.grownBy W3 (some wr.heap.size) := by rw [hW3]; exact grown_setCell (grown_setCell (grown_setCell (grown_refl _ _) _ _) _ _) _ _
          have K3 := Lib.hid (show Blk W3 wr.heap.size 45 (movedU c a l).row from by rw [hW3]; exact ((k2.set 13 _).set 14 _).set 15 _)
          have B3 := Lib.hid (B2.out.grown hg3 B2.out.size (fun k hk => by cases hk; exact HB.out.size))
          have BP3 := Lib.hid (BP2.out.grown hg3 (by have := BP2.out.size; simpa using this) (fun k hk => by cases hk; have := HKP.out.lt; omega))
          have O3 := Lib.hid (World.ownsRow.kept O2.out hg3 (.inr fun e => by have := (HO.out.lt _ e).2; omega))
          have HW3 := Lib.hid hW3
          clear k2 hb2 hz2 hW3 hg3
          go_wp2_with (first
            | (rw [← HW3.out]; refine wpList_loadS _ (isR (movedU c a l)) rfl (.tmp 12) rfl wr.heap.size 0 rfl K3.out.rowAt ?_)
            | (refine wpList_build1S _ 42 rfl (.tmp 43) rfl (run_build1R _ (movedU c a l)) rfl ?_)
            | (at_builtin; refine wpList_appU undR infoR26 _ rfl (.tmp 42) (.tmp 44) rfl (w.heap.size + 1) _ (.slice none 0 0) _ [] [movedU c a l] rfl ((TwoU.single (show OwnU W3 45 (w.heap.size + 1) _ _ from O3.out)).below ((Below.refl _ _).alloc (Nat.le_refl _) _)) (by have := BP3.out.size; simp at this ⊢; omega) ⟨W3.heap.size, 0, none⟩ 1 1 rfl rfl (cu_one W3 _ (movedU c a l)) (by have := HFew.out; have := HLT.out; rw [List.length_map, List.length_take]; omega) ?_))
          intro v4 w4 h4 hg4 hl4
          have B4 := Lib.hid ((B3.out.alloc B3.out.size _).grown hg4 (Nat.le_trans B3.out.size (by simp)) (fun k hk => Nat.le_of_succ_le (World.ownsRow.lt O3.out k hk).1))
          have BP4 := Lib.hid ((BP3.out.alloc (by have := BP3.out.size; simpa using this) _).grown hg4 (by have := BP3.out.size; simp at this ⊢; omega) (fun k hk => (World.ownsRow.lt O3.out k hk).1))
          have O4 := Lib.hid h4.one
          clear h4 hg4 hl4
          go_wp2_with fail
          go_roundw
          case rel => exact ⟨j + 1, by rw [HAN.out, HH.out]; simp, BP4.out, HLT.out, by go_num, by rw [HM.out, HMU.out, List.map_take]; exact O4.out, B4.out⟩
          case measure => have hm := HLT.out; simp [intOf] at hm ⊢; try omega
    · obtain rfl : j = L.length := by omega
      rw [List.take_length] at ho ⊢
      obtain ⟨A1, d1, rfl, _, _⟩ := ho.form
      obtain ⟨f0, f1, f2, f3⟩ := free4 ht.blk
      have HT2 := Lib.hid ht; have HS := Lib.hid ho.sl
      obtain ⟨q9, hq9⟩ : ∃ q, q = L.any (hitU o i) := ⟨_, rfl⟩
      rw [← hq9]
      have HQ9 := Lib.hid hq9
      rw [List.length_map] at HS ⊢
      clear ho hj hq9 ht hb
      go_wp2_with fail
      go_ret
      have hh := HQ9.out
      subst hh
      have hs2 := HS.out
      rw [← List.length_map (f := moveU o i a l)] at hs2 ⊢
      exact ⟨rfl, _, rt_set HT2.out (hs2.lower (Nat.zero_le _)) (by rw [List.length_map]; exact HFew.out), grown_setCell (grown_of_below HB.out (some h)) _ _⟩
end Go.Proofs.Ytgaoonnokhlgjaa

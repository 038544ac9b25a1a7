/-
  The document's Leave and Close.
-/
import Derived.Test.YtgaoonnokhlgjaaSpl26
namespace Go.Proofs.Ytgaoonnokhlgjaa
set_option linter.unusedVariables false
set_option linter.unusedSimpArgs false
open Go.RowKit

/-- What a call of the document leaves that lets some go, and tells them. -/
def RetRef (w : World) (h : Nat) (mo li la : Int) (L G : List Cu) (e : Ending) (w' : World) : Prop :=
  ∃ u v', e = .returned u ∧ RT w' h mo li la v' L ∧ SlU w' 45 0 u G ∧ w.grownBy w' (some h)
theorem rt_set {w : World} {h : Nat} {mo li la : Int} {v : Value} {L L' : List Cu} {A : Option Addr} {n d : Nat} (hT : RT w h mo li la v L) (hs : SlU w 45 0 (.slice A n d) L') (hl : L'.length ≤ 100) : RT (w.setCell ⟨h, 3, none⟩ (.slice A n d)) h mo li la (.slice A n d) L' :=
  ⟨hT.blk.set 3 _, hs.grown hT.blk (by decide) (grown_setCell (grown_refl _ _) _ _), hl⟩
theorem RefLeave26_any (h : Nat) (mo li la : Int) (v : Value) (L : List Cu) (o : Int) (w : World) (hT : RT w h mo li la v L) :
    Calls Try.prog 23 #[.pointer (some ⟨h, 0, none⟩), .int .i64 o] w (RetRef w h mo li la (L.filter fun c => !(c.owner == o)) (L.filter fun c => c.owner == o)) := by
  obtain ⟨A, d, rfl, hrows⟩ := hT.rows
  have Q := Lib.hid (RefSplit1_any A d 0 L o w hrows hT.few)
  obtain ⟨c0, c1, c2, c3⟩ := cells4 hT.blk
  have HT := Lib.hid hT
  clear hT hrows
  go_enter Try.func23, Try.ntmps23
  go_wp2_with fail
  refine Q.out.mono ?_
  rintro e w2 ⟨s, u, rfl, hs, hu, hb⟩
  have ht := HT.out.below hb
  obtain ⟨k0, k1, k2, k3⟩ := cells4 ht.blk
  obtain ⟨f0, f1, f2, f3⟩ := free4 ht.blk
  have HT2 := Lib.hid ht; have HS := Lib.hid (hs.lower (Nat.zero_le _)); have HU := Lib.hid (hu.lower (Nat.zero_le _)); have HB := Lib.hid hb
  clear ht hs hu hb Q HT
  obtain ⟨A1, d1, rfl, _⟩ := id HS.out
  obtain ⟨A2, d2, rfl, _⟩ := id HU.out
  go_wp2_with fail
  go_ret
  refine ⟨.slice A2 (L.filter fun c => c.owner == o).length d2, _, rfl, rt_set HT2.out HS.out (Nat.le_trans (List.length_filter_le _ _) HT2.out.few), HU.out.grown HT2.out.blk (by decide) (grown_setCell (grown_refl _ _) _ _), grown_setCell (grown_of_below HB.out (some h)) _ _⟩
def RetRefC (w : World) (h : Nat) (mo li la : Int) (L : List Cu) (c : Cu) (b : Bool) (e : Ending) (w' : World) : Prop :=
  e = .returned (.tuple #[aggS c.row, .bool b]) ∧ ∃ v', RT w' h mo li la v' L ∧ w.grownBy w' (some h)
theorem RowsU.past {w w' : World} {T B g : Nat} {A : Option Addr} {L : List Cu} (h : RowsU w T B A L) (hg : w.grownBy w' (some g)) (hB : g < B) : RowsU w' T B A L :=
  h.same fun b o hb ho _ => (hg.block b (lt_of_some ho) (fun e => by
    have e3 : b = g := by simpa using e
    omega)).trans ho
theorem SlU.past {w w' : World} {T B g : Nat} {v : Value} {L : List Cu} (h : SlU w T B v L) (hg : w.grownBy w' (some g)) (hB : g < B) : SlU w' T B v L := by
  obtain ⟨A, c, rfl, h⟩ := h
  exact ⟨A, c, rfl, h.past hg hB⟩
theorem grown_past {w w3 w6 : World} {g h : Nat} (hb : w.grownBy w3 (some h)) (hg : w3.grownBy w6 (some g)) (hw : w.heap.size ≤ g) : w.grownBy w6 (some h) :=
  ⟨hg.os.trans hb.os, hg.tape.trans hb.tape, hg.output.trans hb.output, Nat.le_trans hb.size hg.size, fun k hk hne => (hg.block k (Nat.lt_of_lt_of_le hk hb.size) (by simp; omega)).trans (hb.block k hk hne)⟩
set_option maxRecDepth 100000 in
set_option maxHeartbeats 6400000 in
theorem RefClose26_none (h : Nat) (mo li la : Int) (v : Value) (L : List Cu) (o i : Int) (w : World) (hT : RT w h mo li la v L) (hk : posU L o i = none) :
    Calls Try.prog 21 #[.pointer (some ⟨h, 0, none⟩), .int .i64 o, .int .i64 i] w (RetRefC w h mo li la L Cu0 false) := by
  have hb1 := (Below.refl w.heap.size w).alloc (Nat.le_refl _) (.cells zerosU.toArray 45)
  have hT1 := hT.below hb1
  have k1 := Blk.new w 45 zerosU
  obtain ⟨W1, hW1⟩ : ∃ W1, W1 = w.alloc (.cells zerosU.toArray 45) := ⟨_, rfl⟩
  rw [← hW1] at hb1 hT1 k1
  have HW := Lib.hid (show W1 = w.alloc (.cells #[.int .i64 0, .int .i64 0, .int .i64 0, .int .i64 0, .int .i64 0, .int .u32 0, .int .i64 0, .int .i64 0, .int .i64 0, .string ⟨#[]⟩, .slice none 0 0, .int .i64 0, .bool false, .int .u32 0, .int .i64 0, .int .i64 0] 45) from hW1)
  have Q := Lib.hid (RefGet26_any h mo li la v L o i Cu0 false W1 hT1 (.inr ⟨rfl, rfl, hk⟩))
  obtain ⟨A, d, rfl, hrows⟩ := hT.rows
  have HK := Lib.hid k1; have HB := Lib.hid hb1; have HT1 := Lib.hid hT1; have HT0 := Lib.hid hT; have HL := Lib.hid hT.blk.lt; have HR0 := Lib.hid hrows
  clear hT hT1 hb1 k1 hW1 hrows hk
  go_enter Try.func21, Try.ntmps21
  go_wp2_with (rw [← HW.out])
  refine Q.out.mono ?_
  rintro e w2 ⟨rfl, hb2⟩
  have HB2 := Lib.hid hb2
  clear hb2 Q HW
  go_wp2_with (refine wpList_storeNewS _ w2 zerosU 45 rfl (isR Cu0) Cu0.one rfl rfl (.tmp 8) (.tmp 17) rfl rfl rfl rfl ?_)
  intro w3 k3 hb3 hz3
  have B3 := Lib.hid (HB2.out.trans (hb3.mono HB2.out.size))
  have HK3 := Lib.hid k3
  have HZ3 := Lib.hid (show w.heap.size + 1 ≤ w2.heap.size from Nat.le_trans HK.out.lt HB2.out.size)
  have HBW := Lib.hid (HB.out.trans (B3.out.mono HB.out.size))
  clear k3 hb3 hz3 HB2
  have HK1 := Lib.hid (HK.out.below B3.out HK.out.lt)
  go_wp2_with (first
    | (refine wpList_loadS _ (isR Cu0) rfl (.tmp 8) rfl w2.heap.size 0 rfl HK3.out.rowAt ?_)
    | (refine wpList_storeS _ (isR Cu0) Cu0.one rfl rfl (.tmp 6) (.tmp 33) rfl w.heap.size _ zerosU rfl rfl HK1.out rfl ?_))
  intro w6 k6 hg6 hz6
  have HK6 := Lib.hid k6; have HG6 := Lib.hid hg6
  clear k6 hg6 hz6
  go_wp2_with fail
  (try simp only [Exit.inBlock, Exit.then])
  refine bodyPost_ret (results_cell2S (isR Cu0) rfl _ _ w.heap.size rfl HK6.out.rowAt _ rfl) rfl ?_
  have hgw := grown_past (grown_of_below HBW.out (some h)) HG6.out (Nat.le_refl _)
  exact ⟨rfl, _, ⟨((HT0.out.below HBW.out).blk).grown HG6.out (by have := HL.out; omega), HT0.out.rows.grown HT0.out.blk (by decide) hgw, HT0.out.few⟩, hgw⟩
set_option maxRecDepth 100000 in
set_option maxHeartbeats 6400000 in
theorem RefClose26_some (h : Nat) (mo li la : Int) (v : Value) (L : List Cu) (k : Nat) (c : Cu) (o i : Int) (w : World) (hT : RT w h mo li la v L) (hk : posU L o i = some k) (hc : L[k]? = some c) :
    Calls Try.prog 21 #[.pointer (some ⟨h, 0, none⟩), .int .i64 o, .int .i64 i] w (RetRefC w h mo li la (L.filter fun c => !(c.id == i)) c true) := by
  have hb1 := (Below.refl w.heap.size w).alloc (Nat.le_refl _) (.cells zerosU.toArray 45)
  have hT1 := hT.below hb1
  have k1 := Blk.new w 45 zerosU
  obtain ⟨W1, hW1⟩ : ∃ W1, W1 = w.alloc (.cells zerosU.toArray 45) := ⟨_, rfl⟩
  rw [← hW1] at hb1 hT1 k1
  have HW := Lib.hid (show W1 = w.alloc (.cells #[.int .i64 0, .int .i64 0, .int .i64 0, .int .i64 0, .int .i64 0, .int .u32 0, .int .i64 0, .int .i64 0, .int .i64 0, .string ⟨#[]⟩, .slice none 0 0, .int .i64 0, .bool false, .int .u32 0, .int .i64 0, .int .i64 0] 45) from hW1)
  have Q := Lib.hid (RefGet26_any h mo li la v L o i c true W1 hT1 (.inl ⟨rfl, k, hk, hc⟩))
  obtain ⟨A, d, rfl, hrows⟩ := hT.rows
  have HK := Lib.hid k1; have HB := Lib.hid hb1; have HT1 := Lib.hid hT1; have HT0 := Lib.hid hT; have HL := Lib.hid hT.blk.lt; have HR0 := Lib.hid hrows
  clear hT hT1 hb1 k1 hW1 hrows hk hc
  go_enter Try.func21, Try.ntmps21
  go_wp2_with (rw [← HW.out])
  refine Q.out.mono ?_
  rintro e w2 ⟨rfl, hb2⟩
  have HB2 := Lib.hid hb2
  clear hb2 Q HW
  go_wp2_with (refine wpList_storeNewS _ w2 zerosU 45 rfl (isR c) c.one rfl rfl (.tmp 8) (.tmp 17) rfl rfl rfl rfl ?_)
  intro w3 k3 hb3 hz3
  have B3 := Lib.hid (HB2.out.trans (hb3.mono HB2.out.size))
  have HK3 := Lib.hid k3
  have HZ3 := Lib.hid (show w.heap.size + 1 ≤ w2.heap.size from Nat.le_trans HK.out.lt HB2.out.size)
  have HBW := Lib.hid (HB.out.trans (B3.out.mono HB.out.size))
  clear k3 hb3 hz3 HB2
  have ht3 := HT0.out.below HBW.out
  obtain ⟨c0, c1, c2, c3⟩ := cells4 ht3.blk
  have QS := Lib.hid (RefSplit0_any A d 0 L i w3 (HR0.out.below HBW.out) HT0.out.few)
  have HT3 := Lib.hid ht3
  clear ht3
  go_wp2_with fail
  refine QS.out.mono ?_
  rintro e w4 ⟨s, u, rfl, hs, _, hb⟩
  have ht := HT3.out.below hb
  obtain ⟨q0, q1, q2, q3⟩ := cells4 ht.blk
  obtain ⟨f0, f1, f2, f3⟩ := free4 ht.blk
  have HT4 := Lib.hid ht; have HS := Lib.hid hs; have HB4 := Lib.hid (B3.out.trans (hb.mono B3.out.size)); have HBW4 := Lib.hid (HBW.out.trans (hb.mono HBW.out.size))
  have HK4 := Lib.hid (HK3.out.below hb HK3.out.lt)
  have HSZ := Lib.hid (show w.heap.size < w3.heap.size from Nat.lt_of_lt_of_le HK.out.lt B3.out.size)
  clear ht hs hb QS HT3 c0 c1 c2 c3
  obtain ⟨A1, d1, rfl, _⟩ := id HS.out
  obtain ⟨W5, hW5⟩ : ∃ W5, W5 = w4.setCell ⟨h, 3, none⟩ (.slice A1 (L.filter fun c => !(c.id == i)).length d1) := ⟨_, rfl⟩
  have hg5 : w4.grownBy W5 (some h) := by rw [hW5]; exact grown_setCell (grown_refl _ _) _ _
  have HK5 := Lib.hid (HK4.out.grown hg5 (by have := HL.out; have := HZ3.out; omega))
  have HK15 := Lib.hid ((HK.out.below HB4.out HK.out.lt).grown hg5 (by have := HL.out; omega))
  have HB5 := Lib.hid (show Blk W5 h 60 _ from by rw [hW5]; exact HT4.out.blk.set 3 _)
  have HS5 := Lib.hid (HS.out.grown HT4.out.blk (by decide) hg5)
  have HG5 := Lib.hid (grown_trans (grown_of_below HBW4.out (some h)) hg5)
  have HW5 := Lib.hid hW5
  clear hW5 hg5
  go_wp2_with (first
    | (rw [← HW5.out]; refine wpList_loadS _ (isR c) rfl (.tmp 8) rfl w2.heap.size 0 rfl HK5.out.rowAt ?_)
    | (refine wpList_storeS _ (isR c) c.one rfl rfl (.tmp 6) (.tmp 33) rfl w.heap.size _ zerosU rfl rfl HK15.out rfl ?_))
  intro w6 k6 hg6 hz6
  have HK6 := Lib.hid k6; have HG6 := Lib.hid hg6
  clear k6 hg6 hz6
  go_wp2_with fail
  (try simp only [Exit.inBlock, Exit.then])
  refine bodyPost_ret (results_cell2S (isR c) rfl _ _ w.heap.size rfl HK6.out.rowAt _ rfl) rfl ?_
  exact ⟨rfl, _, ⟨HB5.out.grown HG6.out (by have := HL.out; omega), (HS5.out.past HG6.out HSZ.out).lower (Nat.zero_le _), Nat.le_trans (List.length_filter_le _ _) HT0.out.few⟩, grown_past HG5.out HG6.out (Nat.le_refl _)⟩
end Go.Proofs.Ytgaoonnokhlgjaa

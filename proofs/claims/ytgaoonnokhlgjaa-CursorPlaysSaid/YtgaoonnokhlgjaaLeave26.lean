/-
  Leave and Close.
-/
import Derived.Test.YtgaoonnokhlgjaaGet26
import Derived.Test.YtgaoonnokhlgjaaGoL26
import Derived.Test.YtgaoonnokhlgjaaGoC26
namespace Go.Proofs.Ytgaoonnokhlgjaa
set_option linter.unusedVariables false
set_option linter.unusedSimpArgs false
open Go.RowKit

/-- What a call leaves that lets some go, and tells them. -/
def RetTab (w : World) (g : Nat) (mo li la : Int) (v : Value) (L G : List Cu) (e : Ending) (w' : World) : Prop :=
  ∃ u v', e = .returned u ∧ Tab w' g mo li la v' L ∧ SlU w' 36 w.heap.size u G ∧ KeepA w w' g v v'
theorem box_one (w : World) (T : Nat) (x : Value) : (w.alloc (.cells #[x] T)).cell? ⟨w.heap.size, 0, none⟩ = some x := (Blk.new w T [x]).cell 0
theorem Leave26_any (g : Nat) (mo li la : Int) (v : Value) (L : List Cu) (o : Int) (w : World) (h : Tab w g mo li la v L) :
    Calls Try.prog 22 #[.pointer (some ⟨g, 0, none⟩), .int .i64 o] w (RetTab w g mo li la v (L.filter fun c => !(c.owner == o)) (L.filter fun c => c.owner == o)) := by
  have hb1 := (Below.refl w.heap.size w).alloc (Nat.le_refl _) (.cells #[.int .i64 o] 3)
  have Q := Lib.hid (letGoL_any w.heap.size (fun c => c.owner == o) g mo li la v L _ (h.below hb1) (fun W hW c => Leave1_any c w.heap.size o W (Nat.lt_of_lt_of_le (by simp) hW.size) ((hW.cell (p := ⟨w.heap.size, 0, none⟩) (by simp)).trans (box_one w _ _))))
  have HB1 := Lib.hid hb1
  clear h hb1
  go_enter Try.func22, Try.ntmps22
  go_wp2_with fail
  refine Q.out.mono ?_
  rintro e w2 ⟨u, v', rfl, ht, hs, hg, hv⟩
  have HT := Lib.hid ht; have HS := Lib.hid (hs.lower HB1.out.size)
  have HK := Lib.hid (show KeepA w w2 g v v' from (KeepA.of_below HB1.out).trans (KeepA.of_grown hg (.inr hv)))
  clear ht hs hg hv
  obtain ⟨A2, d2, rfl, _⟩ := id HS.out
  go_wp2_with fail
  go_ret
  exact ⟨_, v', rfl, HT.out, HS.out, HK.out⟩
theorem Leave26_nil (o : Int) (w : World) :
    Calls Try.prog 22 #[.pointer none, .int .i64 o] w fun e w' => e = .returned (.slice none 0 0) ∧ Below w.heap.size w w' := by
  go_enter Try.func22, Try.ntmps22
  go_wp2_with fail
  go_ret
  exact ⟨rfl, (Below.refl _ _).alloc (Nat.le_refl _) _⟩
/-- What Close leaves. -/
def RetClose (w : World) (g : Nat) (mo li la : Int) (v : Value) (L : List Cu) (c : Cu) (b : Bool) (e : Ending) (w' : World) : Prop :=
  e = .returned (.tuple #[aggS c.row, .bool b]) ∧ ∃ v', Tab w' g mo li la v' L ∧ KeepA w w' g v v'
theorem blk_two (w : World) (x : Value) (T : Nat) : Blk ((w.alloc (.cells #[x] T)).alloc (.cells zerosU.toArray 36)) w.heap.size T [x] ∧ Blk ((w.alloc (.cells #[x] T)).alloc (.cells zerosU.toArray 36)) (w.heap.size + 1) 36 zerosU ∧ Below w.heap.size w ((w.alloc (.cells #[x] T)).alloc (.cells zerosU.toArray 36)) := by
  refine ⟨(Blk.new w T [x]).below ((Below.refl _ _).alloc (Nat.le_refl _) _) (by simp), ?_, ((Below.refl _ _).alloc (Nat.le_refl _) _).alloc (by simp) _⟩
  have := Blk.new (w.alloc (.cells #[x] T)) 36 zerosU
  simpa using this
set_option maxRecDepth 100000 in
set_option maxHeartbeats 3200000 in
theorem Close26_nil (o i : Int) (w : World) :
    Calls Try.prog 20 #[.pointer none, .int .i64 o, .int .i64 i] w fun e w' => e = .returned (.tuple #[aggS Cu0.row, .bool false]) ∧ Below w.heap.size w w' := by
  obtain ⟨k0, k1, hb⟩ := blk_two w (.int .i64 i) 3
  obtain ⟨W1, hW1⟩ : ∃ W1, W1 = (w.alloc (.cells #[.int .i64 i] 3)).alloc (.cells zerosU.toArray 36) := ⟨_, rfl⟩
  rw [← hW1] at k0 k1 hb
  have Q := Lib.hid (Get26_nil o i W1)
  have HW := Lib.hid (show W1 = (w.alloc (.cells #[.int .i64 i] 3)).alloc (.cells #[.int .i64 0, .int .i64 0, .int .i64 0, .int .i64 0, .int .i64 0, .int .u32 0, .int .i64 0, .int .i64 0, .int .i64 0, .string ⟨#[]⟩, .slice none 0 0, .int .i64 0, .bool false, .int .u32 0, .int .i64 0, .int .i64 0] 36) from hW1)
  have HK0 := Lib.hid k0; have HK1 := Lib.hid k1; have HB := Lib.hid hb
  have c0 : W1.cell? ⟨w.heap.size, 0, none⟩ = some (.int .i64 i) := k0.cell 0
  clear k0 k1 hb hW1
  go_enter Try.func20, Try.ntmps20
  go_wp2_with (rw [← HW.out])
  refine Q.out.mono ?_
  rintro e w2 ⟨rfl, hb2⟩
  have HB2 := Lib.hid hb2
  clear hb2 c0 Q
  go_wp2_with (refine wpList_storeNewS _ w2 zerosU 36 rfl (isP Cu0) Cu0.one rfl rfl (.tmp 8) (.tmp 15) rfl rfl rfl rfl ?_)
  intro w3 k3 hb3 hz3
  have HK3 := Lib.hid k3
  have HB3 := Lib.hid (HB2.out.trans (hb3.mono HB2.out.size))
  clear k3 hb3 hz3 HB2
  have HK13 := Lib.hid (HK1.out.below HB3.out HK1.out.lt)
  go_wp2_with (first
    | (refine wpList_loadS _ (isP Cu0) rfl (.tmp 8) rfl w2.heap.size 0 rfl HK3.out.rowAt ?_)
    | (refine wpList_storeS _ (isP Cu0) Cu0.one rfl rfl (.tmp 6) (.tmp 21) rfl (w.heap.size + 1) _ zerosU rfl rfl HK13.out rfl ?_))
  intro w4 k4 hg4 hz4
  have HK4 := Lib.hid k4
  have HB4 := Lib.hid ((HB.out.trans (HB3.out.mono HB.out.size)).grown hg4 (HB.out.trans (HB3.out.mono HB.out.size)).size (fun k hk => by cases hk; omega))
  clear k4 hg4 hz4
  go_wp2_with fail
  (try simp only [Exit.inBlock, Exit.then])
  refine bodyPost_ret (results_cell2S (isP Cu0) rfl _ _ (w.heap.size + 1) rfl HK4.out.rowAt _ rfl) rfl ?_
  exact ⟨rfl, HB4.out⟩
set_option maxRecDepth 100000 in
set_option maxHeartbeats 3200000 in
theorem Close26_none (g : Nat) (mo li la : Int) (v : Value) (L : List Cu) (o i : Int) (w : World) (h : Tab w g mo li la v L) (hk : posU L o i = none) :
    Calls Try.prog 20 #[.pointer (some ⟨g, 0, none⟩), .int .i64 o, .int .i64 i] w (RetClose w g mo li la v L Cu0 false) := by
  obtain ⟨k0, k1, hb⟩ := blk_two w (.int .i64 i) 3
  obtain ⟨W1, hW1⟩ : ∃ W1, W1 = (w.alloc (.cells #[.int .i64 i] 3)).alloc (.cells zerosU.toArray 36) := ⟨_, rfl⟩
  rw [← hW1] at k0 k1 hb
  have HT := Lib.hid h
  have Q := Lib.hid (Get26_none g mo li la v L o i W1 (h.below hb) hk)
  clear h hk
  have HW := Lib.hid (show W1 = (w.alloc (.cells #[.int .i64 i] 3)).alloc (.cells #[.int .i64 0, .int .i64 0, .int .i64 0, .int .i64 0, .int .i64 0, .int .u32 0, .int .i64 0, .int .i64 0, .int .i64 0, .string ⟨#[]⟩, .slice none 0 0, .int .i64 0, .bool false, .int .u32 0, .int .i64 0, .int .i64 0] 36) from hW1)
  have HK0 := Lib.hid k0; have HK1 := Lib.hid k1; have HB := Lib.hid hb
  have c0 : W1.cell? ⟨w.heap.size, 0, none⟩ = some (.int .i64 i) := k0.cell 0
  clear k0 k1 hb hW1
  go_enter Try.func20, Try.ntmps20
  go_wp2_with (rw [← HW.out])
  refine Q.out.mono ?_
  rintro e w2 ⟨rfl, hb2⟩
  have HB2 := Lib.hid hb2
  clear hb2 c0 Q
  go_wp2_with (refine wpList_storeNewS _ w2 zerosU 36 rfl (isP Cu0) Cu0.one rfl rfl (.tmp 8) (.tmp 15) rfl rfl rfl rfl ?_)
  intro w3 k3 hb3 hz3
  have HK3 := Lib.hid k3
  have HB3 := Lib.hid (HB2.out.trans (hb3.mono HB2.out.size))
  clear k3 hb3 hz3 HB2
  have HK13 := Lib.hid (HK1.out.below HB3.out HK1.out.lt)
  go_wp2_with (first
    | (refine wpList_loadS _ (isP Cu0) rfl (.tmp 8) rfl w2.heap.size 0 rfl HK3.out.rowAt ?_)
    | (refine wpList_storeS _ (isP Cu0) Cu0.one rfl rfl (.tmp 6) (.tmp 21) rfl (w.heap.size + 1) _ zerosU rfl rfl HK13.out rfl ?_))
  intro w4 k4 hg4 hz4
  have HK4 := Lib.hid k4
  have HB4 := Lib.hid ((HB.out.trans (HB3.out.mono HB.out.size)).grown hg4 (HB.out.trans (HB3.out.mono HB.out.size)).size (fun k hk => by cases hk; omega))
  clear k4 hg4 hz4
  go_wp2_with fail
  (try simp only [Exit.inBlock, Exit.then])
  refine bodyPost_ret (results_cell2S (isP Cu0) rfl _ _ (w.heap.size + 1) rfl HK4.out.rowAt _ rfl) rfl ?_
  exact ⟨rfl, v, HT.out.below HB4.out, KeepA.of_below HB4.out⟩
set_option maxRecDepth 100000 in
set_option maxHeartbeats 3200000 in
theorem Close26_some (g : Nat) (mo li la : Int) (v : Value) (L : List Cu) (k : Nat) (c : Cu) (o i : Int) (w : World) (h : Tab w g mo li la v L) (hk : posU L o i = some k) (hc : L[k]? = some c) :
    Calls Try.prog 20 #[.pointer (some ⟨g, 0, none⟩), .int .i64 o, .int .i64 i] w (RetClose w g mo li la v (L.filter fun c => !(c.id == i)) c true) := by
  obtain ⟨k0, k1, hb⟩ := blk_two w (.int .i64 i) 3
  obtain ⟨W1, hW1⟩ : ∃ W1, W1 = (w.alloc (.cells #[.int .i64 i] 3)).alloc (.cells zerosU.toArray 36) := ⟨_, rfl⟩
  rw [← hW1] at k0 k1 hb
  have HT := Lib.hid (h.below hb)
  have HGL := Lib.hid h.lt
  have Q := Lib.hid (Get26_some g mo li la v L k c o i W1 (h.below hb) hk hc)
  clear h hk hc
  have HW := Lib.hid (show W1 = (w.alloc (.cells #[.int .i64 i] 3)).alloc (.cells #[.int .i64 0, .int .i64 0, .int .i64 0, .int .i64 0, .int .i64 0, .int .u32 0, .int .i64 0, .int .i64 0, .int .i64 0, .string ⟨#[]⟩, .slice none 0 0, .int .i64 0, .bool false, .int .u32 0, .int .i64 0, .int .i64 0] 36) from hW1)
  have HK0 := Lib.hid k0; have HK1 := Lib.hid k1; have HB := Lib.hid hb
  have c0 : W1.cell? ⟨w.heap.size, 0, none⟩ = some (.int .i64 i) := k0.cell 0
  clear k0 k1 hb hW1
  go_enter Try.func20, Try.ntmps20
  go_wp2_with (rw [← HW.out])
  refine Q.out.mono ?_
  rintro e w2 ⟨rfl, hb2⟩
  have HB2 := Lib.hid hb2
  clear hb2 c0 Q
  go_wp2_with (refine wpList_storeNewS _ w2 zerosU 36 rfl (isP c) c.one rfl rfl (.tmp 8) (.tmp 15) rfl rfl rfl rfl ?_)
  intro w3 k3 hb3 hz3
  have HK3 := Lib.hid k3
  have HB3 := Lib.hid (HB2.out.trans (hb3.mono HB2.out.size))
  have HZ2 := Lib.hid HB2.out.size
  clear k3 hb3 hz3 HB2
  have HQ := Lib.hid (letGoC_any w.heap.size (fun c => c.id == i) g mo li la v L w3 (HT.out.below HB3.out) (fun W hW c => Close1_any c w.heap.size i W (Nat.lt_of_lt_of_le HK0.out.lt (Nat.le_trans HB3.out.size hW.size)) (((HB3.out.trans (hW.mono HB3.out.size)).cell (p := ⟨w.heap.size, 0, none⟩) HK0.out.lt).trans (HK0.out.cell 0))))
  have hz3 : w2.heap.size < w3.heap.size := HK3.out.lt
  have HZ3 := Lib.hid hz3
  have HZ9 := Lib.hid (show w.heap.size + 2 ≤ w3.heap.size by have := HK1.out.lt; have := HB3.out.size; omega)
  clear hz3
  go_wp2_with fail
  refine HQ.out.mono ?_
  rintro e w5 ⟨u, v', rfl, ht, hs, hg, hv⟩
  have hgl : g < w.heap.size := HGL.out
  have hneq : w2.heap.size ≠ g := by have := HZ2.out; have := HB.out.size; omega
  have HK5 := Lib.hid (HK3.out.grown hg hneq)
  have HK15 := Lib.hid ((HK1.out.below HB3.out HK1.out.lt).grown hg (show w.heap.size + 1 ≠ g by omega))
  have HT5 := Lib.hid ht
  have HKP := Lib.hid (show KeepA w w5 g v v' from (KeepA.of_below (HB.out.trans (HB3.out.mono HB.out.size))).trans (KeepA.of_grown hg (.inr hv)))
  have HV5 := Lib.hid (fun k hk => Nat.le_trans (show w.heap.size + 2 ≤ w3.heap.size from HZ9.out) (hv k hk))
  have HV := Lib.hid (fun k hk => Nat.le_trans (HB.out.trans (HB3.out.mono HB.out.size)).size (hv k hk))
  clear ht hs hg hv hneq hgl
  go_wp2_with (first
    | (refine wpList_loadS _ (isP c) rfl (.tmp 8) rfl w2.heap.size 0 rfl HK5.out.rowAt ?_)
    | (refine wpList_storeS _ (isP c) c.one rfl rfl (.tmp 6) (.tmp 21) rfl (w.heap.size + 1) _ zerosU rfl rfl HK15.out rfl ?_))
  intro w6 k6 hg6 hz6
  have HK6 := Lib.hid k6; have HG6 := Lib.hid hg6
  clear k6 hg6 hz6
  go_wp2_with fail
  (try simp only [Exit.inBlock, Exit.then])
  refine bodyPost_ret (results_cell2S (isP c) rfl _ _ (w.heap.size + 1) rfl HK6.out.rowAt _ rfl) rfl ?_
  refine ⟨rfl, v', ⟨HT5.out.blk.grown HG6.out (by have := HGL.out; omega), World.ownsRow.kept HT5.out.own HG6.out ?_, HT5.out.few⟩, ?_⟩
  · exact .inr fun e => by
      have h1 := HV.out _ e
      have h2 := HV5.out _ e
      omega
  · exact ⟨HG6.out.os.trans HKP.out.os, HG6.out.tape.trans HKP.out.tape, HG6.out.output.trans HKP.out.output, Nat.le_trans HKP.out.size HG6.out.size, fun k hk h1 h2 => (HG6.out.block k (Nat.lt_of_lt_of_le hk HKP.out.size) (by simp; omega)).trans (HKP.out.block k hk h1 h2), HKP.out.own⟩
end Go.Proofs.Ytgaoonnokhlgjaa

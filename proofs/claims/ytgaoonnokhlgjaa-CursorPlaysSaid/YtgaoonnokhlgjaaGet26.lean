/-
  Get: a cursor of an owner.
-/
import Derived.Test.YtgaoonnokhlgjaaFind26
namespace Go.Proofs.Ytgaoonnokhlgjaa
set_option linter.unusedVariables false
set_option linter.unusedSimpArgs false
open Go.RowKit

set_option maxRecDepth 100000 in
set_option maxHeartbeats 3200000 in
theorem Get26_nil (o i : Int) (w : World) :
    Calls Try.prog 15 #[.pointer none, .int .i64 o, .int .i64 i] w fun e w' => e = .returned (.tuple #[aggS Cu0.row, .bool false]) ∧ Below w.heap.size w w' := by
  have Q := Lib.hid (find26_nil o i (w.alloc (.cells zerosU.toArray 36)))
  have HK := Lib.hid (Blk.new w 36 zerosU)
  have HB := Lib.hid ((Below.refl w.heap.size w).alloc (Nat.le_refl _) (.cells zerosU.toArray 36))
  go_enter Try.func15, Try.ntmps15
  go_wp2_with fail
  refine Q.out.mono ?_
  rintro e w2 ⟨rfl, hb2⟩
  have HK2 := Lib.hid (HK.out.below hb2 HK.out.lt)
  have HB2 := Lib.hid (HB.out.trans (hb2.mono HB.out.size))
  clear hb2 HK HB
  go_wp2_with (refine wpList_storeS _ (isP Cu0) Cu0.one rfl rfl (.tmp 6) (.tmp 19) rfl w.heap.size _ zerosU rfl rfl HK2.out rfl ?_)
  intro w3 k3 hg3 hz3
  have HK3 := Lib.hid k3
  have HB3 := Lib.hid (HB2.out.grown hg3 HB2.out.size (fun k hk => by cases hk; exact Nat.le_refl _))
  clear k3 hg3 hz3
  go_wp2_with fail
  (try simp only [Exit.inBlock, Exit.then])
  exact bodyPost_ret (results_cell2S (isP Cu0) rfl _ _ w.heap.size rfl HK3.out.rowAt _ rfl) rfl ⟨rfl, HB3.out⟩
set_option maxRecDepth 100000 in
set_option maxHeartbeats 3200000 in
theorem Get26_none (g : Nat) (mo li la : Int) (v : Value) (L : List Cu) (o i : Int) (w : World) (h : Tab w g mo li la v L) (hk : posU L o i = none) :
    Calls Try.prog 15 #[.pointer (some ⟨g, 0, none⟩), .int .i64 o, .int .i64 i] w fun e w' => e = .returned (.tuple #[aggS Cu0.row, .bool false]) ∧ Below w.heap.size w w' := by
  have Q := Lib.hid (find26_none g mo li la v L o i hk (w.alloc (.cells zerosU.toArray 36)) (h.below ((Below.refl _ _).alloc (Nat.le_refl _) _)))
  clear h hk
  have HK := Lib.hid (Blk.new w 36 zerosU)
  have HB := Lib.hid ((Below.refl w.heap.size w).alloc (Nat.le_refl _) (.cells zerosU.toArray 36))
  go_enter Try.func15, Try.ntmps15
  go_wp2_with fail
  refine Q.out.mono ?_
  rintro e w2 ⟨rfl, hb2⟩
  have HK2 := Lib.hid (HK.out.below hb2 HK.out.lt)
  have HB2 := Lib.hid (HB.out.trans (hb2.mono HB.out.size))
  clear hb2 HK HB
  go_wp2_with (refine wpList_storeS _ (isP Cu0) Cu0.one rfl rfl (.tmp 6) (.tmp 19) rfl w.heap.size _ zerosU rfl rfl HK2.out rfl ?_)
  intro w3 k3 hg3 hz3
  have HK3 := Lib.hid k3
  have HB3 := Lib.hid (HB2.out.grown hg3 HB2.out.size (fun k hk => by cases hk; exact Nat.le_refl _))
  clear k3 hg3 hz3
  go_wp2_with fail
  (try simp only [Exit.inBlock, Exit.then])
  exact bodyPost_ret (results_cell2S (isP Cu0) rfl _ _ w.heap.size rfl HK3.out.rowAt _ rfl) rfl ⟨rfl, HB3.out⟩
set_option maxRecDepth 100000 in
set_option maxHeartbeats 3200000 in
theorem Get26_some (g : Nat) (mo li la : Int) (v : Value) (L : List Cu) (k : Nat) (c : Cu) (o i : Int) (w : World) (h : Tab w g mo li la v L) (hk : posU L o i = some k) (hc : L[k]? = some c) :
    Calls Try.prog 15 #[.pointer (some ⟨g, 0, none⟩), .int .i64 o, .int .i64 i] w fun e w' => e = .returned (.tuple #[aggS c.row, .bool true]) ∧ Below w.heap.size w w' := by
  have hT := h.below ((Below.refl w.heap.size w).alloc (Nat.le_refl _) (.cells zerosU.toArray 36))
  have Q := Lib.hid (find26_some g mo li la v L o i k hk _ hT)
  obtain ⟨A, d, rfl, _, _⟩ := h.own.form
  obtain ⟨b, off, rfl, _, _⟩ := h.own.rows.at hc
  have HT := Lib.hid hT; have HC := Lib.hid hc
  have hkl := (List.getElem?_eq_some_iff.1 hc).1
  have hi0 : (0 : Int) ≤ (k : Int) := by omega
  have hi1 : (k : Int) < (L.length : Int) := by omega
  clear h hk hT hc hkl
  have HK := Lib.hid (Blk.new w 36 zerosU)
  have HB := Lib.hid ((Below.refl w.heap.size w).alloc (Nat.le_refl _) (.cells zerosU.toArray 36))
  go_enter Try.func15, Try.ntmps15
  go_wp2_with fail
  refine Q.out.mono ?_
  rintro e w2 ⟨rfl, hb2⟩
  have hT2 := HT.out.below hb2
  have c3 := (cells4 hT2.blk).2.2.2
  obtain ⟨b', off', hA', _, hr⟩ := hT2.own.rows.at HC.out
  obtain ⟨rfl, rfl⟩ : b = b' ∧ off = off' := by injection hA' with e; injection e with e1 e2; exact ⟨e1, e2⟩
  have HR := Lib.hid hr
  have HK2 := Lib.hid (HK.out.below hb2 HK.out.lt)
  have HB2 := Lib.hid (HB.out.trans (hb2.mono HB.out.size))
  clear hb2 HK HB hT2 hr hA' HT
  go_wp2_with (first
    | (refine wpList_loadS _ (isP c) rfl (.tmp 25) rfl b (off + k * 16) rfl HR.out ?_)
    | (refine wpList_storeS _ (isP c) c.one rfl rfl (.tmp 6) (.tmp 26) rfl w.heap.size _ zerosU rfl rfl HK2.out rfl ?_))
  intro w3 k3 hg3 hz3
  have HK3 := Lib.hid k3
  have HB3 := Lib.hid (HB2.out.grown hg3 HB2.out.size (fun k hk => by cases hk; exact Nat.le_refl _))
  clear k3 hg3 hz3
  go_wp2_with fail
  (try simp only [Exit.inBlock, Exit.then])
  exact bodyPost_ret (results_cell2S (isP c) rfl _ _ w.heap.size rfl HK3.out.rowAt _ rfl) rfl ⟨rfl, HB3.out⟩
end Go.Proofs.Ytgaoonnokhlgjaa

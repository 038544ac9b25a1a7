/-
  Texts of this seat, put together: RdI4, StepT4, Cont4, ReadA4, PList5, Clone5, Unfit5.
-/
import Derived.Test.YtnaangnmlbgmkaaGreatDoorTake4Mg
import Derived.Test.YtnaangnmlbgmkaaGreatDoorSayP4Mg
import Derived.Test.YtnaangnmlbgmkaaGreatDoorAttr4Mg
import Derived.Test.YtnaangnmlbgmkaaGreatDoorMg4
import Derived.Test.YtnaangnmlbgmkaaGreatDoorMg1
import Derived.Test.YtnaangnmlbgmkaaGreatDoorMg8
/-
  What was read so far, as it lies in memory.
-/
namespace Go.Proofs.YtnaangnmlbgmkaaGreatDoor
set_option linter.unusedVariables false
set_option linter.unusedSimpArgs false
open Go.RowKit

section
variable {w w' : World} {B size n g T T' : Nat} {v : Value} {xs cs : List Value}
theorem row_blk (h : w.ownsRow B T size v n xs) (hk : Blk w g T' cs) (hne : T ≠ T') : v.ownBlock = none ∨ v.ownBlock ≠ some g := by
  rcases h.2 with ⟨rfl, _⟩ | ⟨j, cap, cur, rfl, _, hj, _⟩
  · exact .inl rfl
  · right
    intro e
    have e : j = g := by simpa [Value.ownBlock] using e
    subst e
    have := hj.symm.trans hk
    simp at this
    exact hne this.2
theorem row_keep (h : w.ownsRow B T size v n xs) (hk : Blk w g T' cs) (hne : T ≠ T') (hg : w.grownBy w' (some g)) : w'.ownsRow B T size v n xs := World.ownsRow.kept h hg (row_blk h hk hne)
theorem row_beside {B2 size2 n2 : Nat} {v2 : Value} {xs2 : List Value} (h : w.ownsRow B T size v n xs) (h2 : w.ownsRow B2 T' size2 v2 n2 xs2) (hne : T ≠ T') (hg : w.grownBy w' v2.ownBlock) : w'.ownsRow B T size v n xs := World.ownsRow.kept h hg (own_types h h2 hne)
end
/-- A path of one's own, wherever it lies. -/
def PathO (W : World) (v : Value) (r : List (Int × List Nat)) : Prop := ∃ B H M, OwnSegs W B H v M ∧ M.map Sg.abs = r
/-- Raw attributes of one's own. -/
def flatR (L : List Rw) : List Value := L.flatMap fun s => [.int .i64 s.flags, .int .i64 s.ty, .slice s.adr s.data.length s.cap]
structure OwnR (W : World) (B : Nat) (v : Value) (L : List Rw) : Prop where
  row : W.ownsRow B 77 3 v L.length (flatR L)
  each : ∀ s ∈ L, (∃ B', Own W B' 5 (.slice s.adr s.data.length s.cap) s.data) ∧ s.data.length ≤ s.cap ∧ s.cap ≤ maxLen
structure RowsR (B : Nat) (W : World) (S : Rs) (pv cv rv kv wv av : Value) : Prop where
  path : PathO W pv S.path
  comms : ∃ B', Own32 W B' cv S.comms
  raws : ∃ L, OwnR W B rv L ∧ L.map Rw.abs = S.raws
  kinds : W.ownsRow B 3 1 kv S.kinds.length (S.kinds.map fun (k : Nat) => Value.int .i64 (k : Int))
  wpath : PathO W wv S.wpath
  aggr : ∃ B', Own W B' 5 av S.aggr
  cnil : S.comms = [] → cv = .slice none 0 0
theorem PathO.keep {W W' : World} {v : Value} {r : List (Int × List Nat)} {g T : Nat} {cs : List Value} (h : PathO W v r) (hk : Blk W g T cs) (h1 : (112 : TypeId) ≠ T) (h2 : (24 : TypeId) ≠ T) (hg : W.grownBy W' (some g)) : PathO W' v r := by
  obtain ⟨B, H, M, ho, hM⟩ := h
  exact ⟨B, H, M, ⟨row_keep ho.row hk h1 hg, fun s hs => row_keep (ho.own s hs) hk h2 hg, ho.low, ho.last, ho.fit⟩, hM⟩
theorem PathO.beside {W W' : World} {v v2 : Value} {r : List (Int × List Nat)} {B2 T n2 size2 : Nat} {xs2 : List Value} (h : PathO W v r) (h2 : W.ownsRow B2 T size2 v2 n2 xs2) (h3 : (112 : TypeId) ≠ T) (h4 : (24 : TypeId) ≠ T) (hg : W.grownBy W' v2.ownBlock) : PathO W' v r := by
  obtain ⟨B, H, M, ho, hM⟩ := h
  exact ⟨B, H, M, ⟨row_beside ho.row h2 h3 hg, fun s hs => row_beside (ho.own s hs) h2 h4 hg, ho.low, ho.last, ho.fit⟩, hM⟩
theorem PathO.below {W W' : World} {v : Value} {r : List (Int × List Nat)} (h : PathO W v r) (hb : Below W.heap.size W W') : PathO W' v r := by
  obtain ⟨B, H, M, ho, hM⟩ := h
  exact ⟨B, H, M, ho.below hb, hM⟩
theorem PathO.nil (W : World) : PathO W (.slice none 0 0) [] := ⟨0, 0, [], OwnSegs.nil _ _ _, rfl⟩
theorem row_below {w w' : World} {B T size n : Nat} {v : Value} {xs : List Value} (h : w.ownsRow B T size v n xs) (hb : Below w.heap.size w w') : w'.ownsRow B T size v n xs := by
  refine ⟨h.1, ?_⟩
  rcases h.2 with h | ⟨g, cap, cur, hv, hB, hg, h1, h2, h3, h4⟩
  · exact .inl h
  · exact .inr ⟨g, cap, cur, hv, hB, (hb.block g (Array.getElem?_eq_some_iff.1 hg).1).trans hg, h1, h2, h3, h4⟩
theorem RowsR.below {B : Nat} {W W' : World} {S : Rs} {pv cv rv kv wv av : Value} (h : RowsR B W S pv cv rv kv wv av) (hb : Below W.heap.size W W') : RowsR B W' S pv cv rv kv wv av := by
  obtain ⟨h1, ⟨B2, h2⟩, ⟨L, h3, h3'⟩, h4, h5, ⟨B6, h6⟩, h7⟩ := h
  exact ⟨h1.below hb, ⟨B2, row_below h2 hb⟩, ⟨L, ⟨row_below h3.row hb, fun s hs => ⟨(h3.each s hs).1.elim fun B' q => ⟨B', row_below q hb⟩, (h3.each s hs).2⟩⟩, h3'⟩, row_below h4 hb, h5.below hb, ⟨B6, row_below h6 hb⟩, h7⟩
/-- A block that is none of the rows' kinds is written. -/
theorem RowsR.keep {B : Nat} {W W' : World} {S : Rs} {pv cv rv kv wv av : Value} {g T : Nat} {cs : List Value} (h : RowsR B W S pv cv rv kv wv av) (hk : Blk W g T cs) (t1 : (112 : TypeId) ≠ T) (t2 : (24 : TypeId) ≠ T) (t3 : (77 : TypeId) ≠ T) (t4 : (3 : TypeId) ≠ T) (t5 : (5 : TypeId) ≠ T)
    (hg : W.grownBy W' (some g)) : RowsR B W' S pv cv rv kv wv av := by
  obtain ⟨h1, ⟨B2, h2⟩, ⟨L, h3, h3'⟩, h4, h5, ⟨B6, h6⟩, h7⟩ := h
  exact ⟨h1.keep hk t1 t2 hg, ⟨B2, row_keep h2 hk t2 hg⟩, ⟨L, ⟨row_keep h3.row hk t3 hg, fun s hs => ⟨(h3.each s hs).1.elim fun B' q => ⟨B', row_keep q hk t5 hg⟩, (h3.each s hs).2⟩⟩, h3'⟩, row_keep h4 hk t4 hg, h5.keep hk t1 t2 hg, ⟨B6, row_keep h6 hk t5 hg⟩, h7⟩
/-- The row of kinds has one more. -/
theorem RowsR.kind {B : Nat} {W W' : World} {S : Rs} {pv cv rv kv kv' wv av : Value} {k : Nat} (h : RowsR B W S pv cv rv kv wv av) (h' : W'.ownsRow B 3 1 kv' (S.kinds.length + 1) ((S.kinds.map fun (k : Nat) => Value.int .i64 (k : Int)) ++ [.int .i64 (k : Int)])) (hg : W.grownBy W' kv.ownBlock) :
    RowsR B W' { S with kinds := S.kinds ++ [k] } pv cv rv kv' wv av := by
  obtain ⟨h1, ⟨B2, h2⟩, ⟨L, h3, h3'⟩, h4, h5, ⟨B6, h6⟩, h7⟩ := h
  exact ⟨h1.beside h4 (by decide) (by decide) hg, ⟨B2, row_beside h2 h4 (by decide) hg⟩, ⟨L, ⟨row_beside h3.row h4 (by decide) hg, fun s hs => ⟨(h3.each s hs).1.elim fun B' q => ⟨B', row_beside q h4 (by decide) hg⟩, (h3.each s hs).2⟩⟩, h3'⟩, by simpa using h', h5.beside h4 (by decide) (by decide) hg, ⟨B6, row_beside h6 h4 (by decide) hg⟩, h7⟩
/-- The cells of what was read so far. -/
def rdRow (wide : Bool) (S : Rs) (pv cv rv kv wv av : Value) : List Value :=
  [.bool wide, .int .i64 (S.org : Int), pv, .int .u32 (S.next : Int), .int .i64 S.med, .int .i64 S.pref, .bool S.atomic, .bool S.has, .int .u32 (S.aas : Int), .int .u32 (S.aad : Int), cv, rv, kv, wv, av]
/-- What was read so far, in a block. -/
def RdI (B gx : Nat) (wide : Bool) (S : Rs) (W : World) : Prop := ∃ pv cv rv kv wv av, Blk W gx 99 (rdRow wide S pv cv rv kv wv av) ∧ RowsR B W S pv cv rv kv wv av
theorem RdI.below {B gx : Nat} {wide : Bool} {S : Rs} {W W' : World} (h : RdI B gx wide S W) (hb : Below W.heap.size W W') : RdI B gx wide S W' := by
  obtain ⟨pv, cv, rv, kv, wv, av, h1, h2⟩ := h
  exact ⟨pv, cv, rv, kv, wv, av, h1.below hb h1.lt, h2.below hb⟩
/-- Another block that is none of the rows' kinds is written. -/
theorem RdI.keep {B gx g T : Nat} {wide : Bool} {S : Rs} {W W' : World} {cs : List Value} (h : RdI B gx wide S W) (hk : Blk W g T cs) (hgx : gx ≠ g) (t1 : (112 : TypeId) ≠ T) (t2 : (24 : TypeId) ≠ T) (t3 : (77 : TypeId) ≠ T) (t4 : (3 : TypeId) ≠ T) (t5 : (5 : TypeId) ≠ T)
    (hg : W.grownBy W' (some g)) : RdI B gx wide S W' := by
  obtain ⟨pv, cv, rv, kv, wv, av, h1, h2⟩ := h
  exact ⟨pv, cv, rv, kv, wv, av, h1.grown hg hgx, h2.keep hk t1 t2 t3 t4 t5 hg⟩
end Go.Proofs.YtnaangnmlbgmkaaGreatDoor

/-
  One attribute more is taken in: kinds 1 to 6 and 17 (written by gen04z.py).
-/
namespace Go.Proofs.YtnaangnmlbgmkaaGreatDoor
set_option linter.unusedVariables false
set_option linter.unusedSimpArgs false
open Go.RowKit

/-- What take leaves: all but the kinds is as it is behind the step. -/
def TakePost4 (B gx : Nat) (wide : Bool) (S T : Rs) (W : World) (e : Ending) (W' : World) : Prop := e = .returned fault0 ∧ W.grownBy W' (some gx) ∧ RdI B gx wide { T with kinds := S.kinds } W'
theorem rdI_fault {B gx k : Nat} {wide : Bool} {S : Rs} {W2 W3 : World} {cs : List Value} (h : RdI B gx wide S W2) (hk : Blk W2 k 43 cs) (hne : gx ≠ k) (hg : W2.grownBy W3 (some k)) : RdI B gx wide S W3 :=
  h.keep hk hne (by decide) (by decide) (by decide) (by decide) (by decide) hg
theorem path_keep {W W' : World} {gx : Nat} {cs : List Value} {v : Value} {r : List (Int × List Nat)} (h : PathO W v r) (hk : Blk W gx 99 cs) (hg : W.grownBy W' (some gx)) : PathO W' v r := h.keep hk (by decide) (by decide) hg
theorem rows_keep {B : Nat} {W W' : World} {S : Rs} {pv cv rv kv wv av : Value} {gx : Nat} {cs : List Value} (h : RowsR B W S pv cv rv kv wv av) (hk : Blk W gx 99 cs) (hg : W.grownBy W' (some gx)) : RowsR B W' S pv cv rv kv wv av :=
  h.keep hk (by decide) (by decide) (by decide) (by decide) (by decide) hg
set_option maxHeartbeats 1600000 in
theorem take1_step (B gx f : Nat) (wide : Bool) (S T : Rs) (A A2 : Option Addr) (c n2 c2 : Nat) (l r : List UInt8) (b : Bool) (W : World) (h : RdI B gx wide S W) (ht : TabK W) (hy : Bytes W A l) (hc : l.length ≤ c) (hm : c ≤ maxLen) (hl : l.length ≤ 1000000) (hs : stepF wide S ⟨f, 1, l, r, b⟩ = some T) :
    Calls Tryz.prog 62 #[.pointer (some ⟨gx, 0, none⟩), .agg #[.int .i64 (f : Int), .int .i64 (1 : Int), .slice A l.length c, .slice A2 n2 c2]] W (TakePost4 B gx wide S T W) := by
  obtain ⟨hk, ⟨hf, hn, hv⟩, hT⟩ := inv1 hs
  subst hT
  obtain ⟨pv, cv, rv, kv, wv, av, h1, h2⟩ := h
  refine take_known gx wide _ f 64 1 64 1 1 0 A A2 c n2 c2 l W _ h1 ht rfl (by decide) rfl hf (fun W1 => by rw [hn]; cases wide with | true => exact fits_wide _ _ 1 _ 1 W1 rfl (by decide) | false => exact fits_narrow _ _ 1 _ 1 W1 rfl (by decide)) (fun W2 W3 q kr hg => rdI_fault q kr (by have := h1.lt; omega) hg) (fun W1 hb hz => ?_)
  refine (say1_any gx wide _ _ _ _ _ _ _ _ _ _ _ _ _ _ (f : Int) A A2 c n2 c2 l W1 (h1.below hb h1.lt) (hy.below hb) hc hm ⟨hn, hv⟩).mono fun e W2 hp => ?_
  obtain ⟨rfl, hb2, hg2⟩ := hp
  have h3 := rows_keep (h2.below hb) (h1.below hb h1.lt) hg2
  exact ⟨rfl, hg2, pv, cv, rv, kv, wv, av, hb2, ⟨h3.path, h3.comms, h3.raws, h3.kinds, h3.wpath, h3.aggr, h3.cnil⟩⟩
set_option maxHeartbeats 1600000 in
theorem take3_step (B gx f : Nat) (wide : Bool) (S T : Rs) (A A2 : Option Addr) (c n2 c2 : Nat) (l r : List UInt8) (b : Bool) (W : World) (h : RdI B gx wide S W) (ht : TabK W) (hy : Bytes W A l) (hc : l.length ≤ c) (hm : c ≤ maxLen) (hl : l.length ≤ 1000000) (hs : stepF wide S ⟨f, 3, l, r, b⟩ = some T) :
    Calls Tryz.prog 62 #[.pointer (some ⟨gx, 0, none⟩), .agg #[.int .i64 (f : Int), .int .i64 (3 : Int), .slice A l.length c, .slice A2 n2 c2]] W (TakePost4 B gx wide S T W) := by
  obtain ⟨hk, ⟨hf, hn, hv⟩, hT⟩ := inv3 hs
  subst hT
  obtain ⟨pv, cv, rv, kv, wv, av, h1, h2⟩ := h
  refine take_known gx wide _ f 64 3 64 4 4 0 A A2 c n2 c2 l W _ h1 ht rfl (by decide) rfl hf (fun W1 => by rw [hn]; cases wide with | true => exact fits_wide _ _ 4 _ 4 W1 rfl (by decide) | false => exact fits_narrow _ _ 4 _ 4 W1 rfl (by decide)) (fun W2 W3 q kr hg => rdI_fault q kr (by have := h1.lt; omega) hg) (fun W1 hb hz => ?_)
  refine (say3_any gx wide _ _ _ _ _ _ _ _ _ _ _ _ _ _ (f : Int) A A2 c n2 c2 l W1 (h1.below hb h1.lt) (hy.below hb) hc hm ⟨hn, hv⟩).mono fun e W2 hp => ?_
  obtain ⟨rfl, hb2, hg2⟩ := hp
  have h3 := rows_keep (h2.below hb) (h1.below hb h1.lt) hg2
  exact ⟨rfl, hg2, pv, cv, rv, kv, wv, av, hb2, ⟨h3.path, h3.comms, h3.raws, h3.kinds, h3.wpath, h3.aggr, h3.cnil⟩⟩
set_option maxHeartbeats 1600000 in
theorem take4_step (B gx f : Nat) (wide : Bool) (S T : Rs) (A A2 : Option Addr) (c n2 c2 : Nat) (l r : List UInt8) (b : Bool) (W : World) (h : RdI B gx wide S W) (ht : TabK W) (hy : Bytes W A l) (hc : l.length ≤ c) (hm : c ≤ maxLen) (hl : l.length ≤ 1000000) (hs : stepF wide S ⟨f, 4, l, r, b⟩ = some T) :
    Calls Tryz.prog 62 #[.pointer (some ⟨gx, 0, none⟩), .agg #[.int .i64 (f : Int), .int .i64 (4 : Int), .slice A l.length c, .slice A2 n2 c2]] W (TakePost4 B gx wide S T W) := by
  obtain ⟨hk, ⟨hf, hn⟩, hT⟩ := inv4 hs
  subst hT
  obtain ⟨pv, cv, rv, kv, wv, av, h1, h2⟩ := h
  refine take_known gx wide _ f 128 4 128 4 4 0 A A2 c n2 c2 l W _ h1 ht rfl (by decide) rfl hf (fun W1 => by rw [hn]; cases wide with | true => exact fits_wide _ _ 4 _ 4 W1 rfl (by decide) | false => exact fits_narrow _ _ 4 _ 4 W1 rfl (by decide)) (fun W2 W3 q kr hg => rdI_fault q kr (by have := h1.lt; omega) hg) (fun W1 hb hz => ?_)
  refine (say4_any gx wide _ _ _ _ _ _ _ _ _ _ _ _ _ _ (f : Int) A A2 c n2 c2 l W1 (h1.below hb h1.lt) (hy.below hb) hc hm hn).mono fun e W2 hp => ?_
  obtain ⟨rfl, hb2, hg2⟩ := hp
  have h3 := rows_keep (h2.below hb) (h1.below hb h1.lt) hg2
  exact ⟨rfl, hg2, pv, cv, rv, kv, wv, av, hb2, ⟨h3.path, h3.comms, h3.raws, h3.kinds, h3.wpath, h3.aggr, h3.cnil⟩⟩
set_option maxHeartbeats 1600000 in
theorem take5_step (B gx f : Nat) (wide : Bool) (S T : Rs) (A A2 : Option Addr) (c n2 c2 : Nat) (l r : List UInt8) (b : Bool) (W : World) (h : RdI B gx wide S W) (ht : TabK W) (hy : Bytes W A l) (hc : l.length ≤ c) (hm : c ≤ maxLen) (hl : l.length ≤ 1000000) (hs : stepF wide S ⟨f, 5, l, r, b⟩ = some T) :
    Calls Tryz.prog 62 #[.pointer (some ⟨gx, 0, none⟩), .agg #[.int .i64 (f : Int), .int .i64 (5 : Int), .slice A l.length c, .slice A2 n2 c2]] W (TakePost4 B gx wide S T W) := by
  obtain ⟨hk, ⟨hf, hn⟩, hT⟩ := inv5 hs
  subst hT
  obtain ⟨pv, cv, rv, kv, wv, av, h1, h2⟩ := h
  refine take_known gx wide _ f 64 5 64 4 4 0 A A2 c n2 c2 l W _ h1 ht rfl (by decide) rfl hf (fun W1 => by rw [hn]; cases wide with | true => exact fits_wide _ _ 4 _ 4 W1 rfl (by decide) | false => exact fits_narrow _ _ 4 _ 4 W1 rfl (by decide)) (fun W2 W3 q kr hg => rdI_fault q kr (by have := h1.lt; omega) hg) (fun W1 hb hz => ?_)
  refine (say5_any gx wide _ _ _ _ _ _ _ _ _ _ _ _ _ _ (f : Int) A A2 c n2 c2 l W1 (h1.below hb h1.lt) (hy.below hb) hc hm hn).mono fun e W2 hp => ?_
  obtain ⟨rfl, hb2, hg2⟩ := hp
  have h3 := rows_keep (h2.below hb) (h1.below hb h1.lt) hg2
  exact ⟨rfl, hg2, pv, cv, rv, kv, wv, av, hb2, ⟨h3.path, h3.comms, h3.raws, h3.kinds, h3.wpath, h3.aggr, h3.cnil⟩⟩
set_option maxHeartbeats 1600000 in
theorem take6_step (B gx f : Nat) (wide : Bool) (S T : Rs) (A A2 : Option Addr) (c n2 c2 : Nat) (l r : List UInt8) (b : Bool) (W : World) (h : RdI B gx wide S W) (ht : TabK W) (hy : Bytes W A l) (hc : l.length ≤ c) (hm : c ≤ maxLen) (hl : l.length ≤ 1000000) (hs : stepF wide S ⟨f, 6, l, r, b⟩ = some T) :
    Calls Tryz.prog 62 #[.pointer (some ⟨gx, 0, none⟩), .agg #[.int .i64 (f : Int), .int .i64 (6 : Int), .slice A l.length c, .slice A2 n2 c2]] W (TakePost4 B gx wide S T W) := by
  obtain ⟨hk, ⟨hf, hn⟩, hT⟩ := inv6 hs
  subst hT
  obtain ⟨pv, cv, rv, kv, wv, av, h1, h2⟩ := h
  refine take_known gx wide _ f 64 6 64 0 0 0 A A2 c n2 c2 l W _ h1 ht rfl (by decide) rfl hf (fun W1 => by rw [hn]; cases wide with | true => exact fits_wide _ _ 0 _ 0 W1 rfl (by decide) | false => exact fits_narrow _ _ 0 _ 0 W1 rfl (by decide)) (fun W2 W3 q kr hg => rdI_fault q kr (by have := h1.lt; omega) hg) (fun W1 hb hz => ?_)
  refine (say6_any gx wide _ _ _ _ _ _ _ _ _ _ _ _ _ _ (f : Int) A A2 c n2 c2 l W1 (h1.below hb h1.lt) (hy.below hb) hc hm hn).mono fun e W2 hp => ?_
  obtain ⟨rfl, hb2, hg2⟩ := hp
  have h3 := rows_keep (h2.below hb) (h1.below hb h1.lt) hg2
  exact ⟨rfl, hg2, pv, cv, rv, kv, wv, av, hb2, ⟨h3.path, h3.comms, h3.raws, h3.kinds, h3.wpath, h3.aggr, h3.cnil⟩⟩
set_option maxHeartbeats 1600000 in
theorem take2_step (B gx f : Nat) (wide : Bool) (S T : Rs) (A A2 : Option Addr) (c n2 c2 : Nat) (l r : List UInt8) (b : Bool) (W : World) (h : RdI B gx wide S W) (ht : TabK W) (hy : Bytes W A l) (hc : l.length ≤ c) (hm : c ≤ maxLen) (hl : l.length ≤ 1000000) (hs : stepF wide S ⟨f, 2, l, r, b⟩ = some T) :
    Calls Tryz.prog 62 #[.pointer (some ⟨gx, 0, none⟩), .agg #[.int .i64 (f : Int), .int .i64 (2 : Int), .slice A l.length c, .slice A2 n2 c2]] W (TakePost4 B gx wide S T W) := by
  obtain ⟨hk, hf, L, hL, hT⟩ := inv2 hs
  subst hT
  obtain ⟨pv, cv, rv, kv, wv, av, h1, h2⟩ := h
  refine take_known gx wide _ f 64 2 64 0 0 1 A A2 c n2 c2 l W _ h1 ht rfl (by decide) rfl hf (fun W1 => fits_unit _ _ _ _ 1 l.length wide W1 (by decide) (by decide) (by simp) hl) (fun W2 W3 q kr hg => rdI_fault q kr (by have := h1.lt; omega) hg) (fun W1 hb hz => ?_)
  refine (say2_any gx wide _ _ _ _ _ _ _ _ _ _ _ _ _ _ (f : Int) A A2 c n2 c2 l W1 (h1.below hb h1.lt) (hy.below hb) hc hm L (by omega) hL).mono fun e W2 hp => ?_
  obtain ⟨M, A3, c3, H, B3, rfl, hb2, hM, f1, f2, ho, hB, hg2⟩ := hp
  have h3 := rows_keep (h2.below hb) (h1.below hb h1.lt) hg2
  exact ⟨rfl, hg2, _, cv, rv, kv, wv, av, hb2, ⟨⟨B3, H, M, ho, hM⟩, h3.comms, h3.raws, h3.kinds, h3.wpath, h3.aggr, h3.cnil⟩⟩
set_option maxHeartbeats 1600000 in
theorem take17_step (B gx f : Nat) (wide : Bool) (S T : Rs) (A A2 : Option Addr) (c n2 c2 : Nat) (l r : List UInt8) (b : Bool) (W : World) (h : RdI B gx wide S W) (ht : TabK W) (hy : Bytes W A l) (hc : l.length ≤ c) (hm : c ≤ maxLen) (hl : l.length ≤ 1000000) (hs : stepF wide S ⟨f, 17, l, r, b⟩ = some T) :
    Calls Tryz.prog 62 #[.pointer (some ⟨gx, 0, none⟩), .agg #[.int .i64 (f : Int), .int .i64 (17 : Int), .slice A l.length c, .slice A2 n2 c2]] W (TakePost4 B gx wide S T W) := by
  obtain ⟨hk, hf, hT⟩ := inv17 hs
  subst hT
  obtain ⟨pv, cv, rv, kv, wv, av, h1, h2⟩ := h
  refine take_known gx wide _ f 192 17 192 0 0 1 A A2 c n2 c2 l W _ h1 ht rfl (by decide) rfl hf (fun W1 => fits_unit _ _ _ _ 1 l.length wide W1 (by decide) (by decide) (by simp) hl) (fun W2 W3 q kr hg => rdI_fault q kr (by have := h1.lt; omega) hg) (fun W1 hb hz => ?_)
  refine (say17_any gx wide _ _ _ _ _ _ _ _ _ _ _ _ _ _ (f : Int) A A2 c n2 c2 l W1 (h1.below hb h1.lt) (hy.below hb) hc hm (by omega) trivial).mono fun e W2 hp => ?_
  obtain ⟨M, A3, c3, H, B3, rfl, hb2, hM, f1, f2, ho, hB, hg2⟩ := hp
  have h3 := rows_keep (h2.below hb) (h1.below hb h1.lt) hg2
  exact ⟨rfl, hg2, pv, cv, rv, kv, _, av, hb2, ⟨h3.path, h3.comms, h3.raws, h3.kinds, ⟨B3, H, M, ho, hM⟩, h3.aggr, h3.cnil⟩⟩
end Go.Proofs.YtnaangnmlbgmkaaGreatDoor

/-
  A kind that was not there yet; a reader of bytes that came in.
-/
namespace Go.Proofs.YtnaangnmlbgmkaaGreatDoor
set_option linter.unusedVariables false
set_option linter.unusedSimpArgs false
open Go.RowKit

/-- A row of numbers lies here. -/
def At64 (w : World) (A : Option Addr) (z : List Nat) : Prop := z ≠ [] → ∃ b off, A = some ⟨b, off, none⟩ ∧ ∀ j, j < z.length → w.cell? ⟨b, off + j, none⟩ = some (.int .i64 ((z.getD j 0 : Nat) : Int))
theorem at64_own {w : World} {B n c : Nat} {A : Option Addr} {z : List Nat} (h : w.ownsRow B 3 1 (.slice A n c) z.length (z.map fun (k : Nat) => Value.int .i64 (k : Int))) : At64 w A z := by
  intro hne
  have hp := List.length_pos_iff.2 hne
  rcases h.2 with ⟨hv, hn⟩ | ⟨g, cap, cur, hv, _, hg, _⟩
  · omega
  · have hA : A = some ⟨g, 0, none⟩ := by injection hv
    refine ⟨g, 0, hA, fun j hj => ?_⟩
    subst hA
    have hc := World.ownsRow.cells h (g := g) rfl j (.int .i64 ((z.getD j 0 : Nat) : Int)) (by simp [List.getD, hj])
    rw [Addr.add_lit] at hc
    exact hc
set_option maxHeartbeats 1600000 in
theorem IndexNot_any (A : Option Addr) (c : Nat) (z : List Nat) (v : Nat) (w : World) (h : At64 w A z) (hv : v ∉ z) (hl : z.length ≤ 1000000) :
    Calls Tryz.prog 99 #[.slice A z.length c, .int .i64 (v : Int)] w fun e w' => e = .returned (.int .i64 (-1)) ∧ w = w' := by
  have HS := Lib.hid h; have HV := Lib.hid hv; clear h hv
  go_enter Tryz.func99, Tryz.ntmps99
  go_wp2_with fail
  go_loop [8] (fun i => ∃ j : Nat, j ≤ z.length ∧ i = .int .i64 (j : Int)) (fun i => z.length - (intOf i).toNat)
  case atStart => exact ⟨0, Nat.zero_le _, rfl⟩
  case round =>
    obtain ⟨j, hj, rfl⟩ := hrel
    by_cases hlt : j < z.length
    · obtain ⟨b, off, rfl, hall⟩ := HS.out (fun e => by rw [e] at hlt; simp at hlt)
      have k1 := hall j hlt
      have he : v ≠ z.getD j 0 := fun e => HV.out (by rw [e, show z.getD j 0 = z[j] by simp [List.getD, hlt]]; exact List.getElem_mem hlt)
      obtain ⟨x, hx⟩ : ∃ x, x = z.getD j 0 := ⟨_, rfl⟩
      rw [← hx] at k1 he
      have hk1 : ((v : Int) == (x : Int)) = false := by simp; omega
      clear hx he hall
      go_wp2_with fail
      go_round
      case rel => exact ⟨j + 1, by omega, by go_num⟩
      case measure => simp [intOf]; omega
    · obtain rfl : j = z.length := by omega
      go_wp2_with fail
      go_ret
      exact ⟨rfl, rfl⟩
theorem ContainsNot_any (A : Option Addr) (c : Nat) (z : List Nat) (v : Nat) (w : World) (h : At64 w A z) (hv : v ∉ z) (hl : z.length ≤ 1000000) :
    Calls Tryz.prog 60 #[.slice A z.length c, .int .i64 (v : Int)] w fun e w' => e = .returned (.bool false) ∧ w = w' := by
  have Q := Lib.hid (IndexNot_any A c z v w h hv hl); clear h hv
  go_enter Tryz.func60, Tryz.ntmps60
  go_wp2_with fail
  refine Q.out.mono ?_
  rintro e w1 ⟨rfl, rfl⟩
  go_wp2_with fail
  go_ret
  exact ⟨rfl, rfl⟩
/-- A run over some kinds. -/
def runK (ok : Nat → Bool) (wide : Bool) : Nat → List UInt8 → Rs → Rs → Prop
  | 0, l, S, Sf => l = [] ∧ S = Sf
  | n + 1, l, S, Sf => (l = [] ∧ S = Sf) ∨ (l ≠ [] ∧ (nextA l).bad = false ∧ ok (nextA l).kind = true ∧ ∃ T, stepF wide S (nextA l) = some T ∧ runK ok wide n (nextA l).rest T Sf)
def RunK (ok : Nat → Bool) (wide : Bool) (l : List UInt8) (S Sf : Rs) : Prop := ∃ n, runK ok wide n l S Sf
theorem RunK.nil (ok : Nat → Bool) (wide : Bool) (S : Rs) : RunK ok wide [] S S := ⟨0, rfl, rfl⟩
theorem RunK.more {ok : Nat → Bool} {wide : Bool} {l : List UInt8} {S T Sf : Rs} (hl : l ≠ []) (hb : (nextA l).bad = false) (hk : ok (nextA l).kind = true) (hs : stepF wide S (nextA l) = some T) (h : RunK ok wide (nextA l).rest T Sf) : RunK ok wide l S Sf := by
  obtain ⟨n, h⟩ := h
  exact ⟨n + 1, .inr ⟨hl, hb, hk, T, hs, h⟩⟩
theorem RunK.stop {ok : Nat → Bool} {wide : Bool} {S Sf : Rs} (h : RunK ok wide [] S Sf) : S = Sf := by
  obtain ⟨n, h⟩ := h
  cases n with
  | zero => exact h.2
  | succ n =>
    rcases h with ⟨_, h⟩ | ⟨h, _⟩
    · exact h
    · exact absurd rfl h
theorem RunK.step {ok : Nat → Bool} {wide : Bool} {l : List UInt8} {S Sf : Rs} (h : RunK ok wide l S Sf) (hl : l ≠ []) : (nextA l).bad = false ∧ ok (nextA l).kind = true ∧ ∃ T, stepF wide S (nextA l) = some T ∧ RunK ok wide (nextA l).rest T Sf := by
  obtain ⟨n, h⟩ := h
  cases n with
  | zero => exact absurd h.1 hl
  | succ n =>
    rcases h with ⟨h, _⟩ | ⟨_, h1, h2, T, h3, h4⟩
    · exact absurd h hl
    · exact ⟨h1, h2, T, h3, n, h4⟩
theorem Runs.all {wide : Bool} : ∀ (n : Nat) (l : List UInt8) (S Sf : Rs), runF wide n l S = some Sf → runK (fun _ => true) wide n l S Sf := by
  intro n
  induction n with
  | zero =>
    intro l S Sf h
    by_cases hl : l = []
    · exact ⟨hl, by simpa [runF, hl] using h⟩
    · simp [runF, hl] at h
  | succ n ih =>
    intro l S Sf h
    by_cases hl : l = []
    · exact .inl ⟨hl, by simpa [runF, hl] using h⟩
    · simp only [runF, hl, if_false] at h
      cases hb : (nextA l).bad with
      | true => simp [hb] at h
      | false =>
        simp only [hb, Bool.false_eq_true, if_false] at h
        cases hs : stepF wide S (nextA l) with
        | none => simp [hs] at h
        | some T => exact .inr ⟨hl, hb, rfl, T, hs, ih _ _ _ (by simpa [hs] using h)⟩
end Go.Proofs.YtnaangnmlbgmkaaGreatDoor

/-
  Attributes read, where nothing is wrong with them: the program's.
-/
namespace Go.Proofs.YtnaangnmlbgmkaaGreatDoor
set_option linter.unusedVariables false
set_option linter.unusedSimpArgs false
open Go.RowKit

theorem isInt : IsRow Tryz.prog 71 3 (.int .i64 0) 1 8 := ⟨Tryz.underlying71, by kernel_rfl, rfl, by decide, by decide⟩
theorem New_low (B : Nat) (A : Option Addr) (n c : Nat) (l : List UInt8) (hn : n = l.length) (w : World) (h : At w B A l) (hB : B ≤ w.heap.size) (h1 : l.length ≤ c) (h2 : c ≤ maxLen) :
    Calls Tryz.prog 25 #[.slice A n c] w fun e w' => e = .returned (.pointer (some ⟨w.heap.size, 0, none⟩)) ∧ Rd w' B w.heap.size l false ∧ Below w.heap.size w w' := by
  subst hn
  have H := Lib.hid h; clear h
  go_enter Tryz.func25, Tryz.ntmps25
  go_wp2_with fail
  go_ret
  have hb : Below w.heap.size w (w.alloc (.cells #[.slice A l.length c, .bool false] 92)) := (Below.refl _ _).alloc (Nat.le_refl _) _
  exact ⟨rfl, ⟨hB, A, c, Blk.new w 92 [.slice A l.length c, .bool false], h1, h2, At.below H.out hb hB⟩, hb⟩
/-- All blocks but one, and those of a kind, stay. -/
def KeepT (gx t : Nat) (W W' : World) : Prop := ∀ (g T : Nat) (cs : List Value), g ≠ gx → T ≠ t → Blk W g T cs → Blk W' g T cs
/-- What take leaves, of any kind. -/
def TakeAny (B gx : Nat) (wide : Bool) (S T : Rs) (W : World) (e : Ending) (W' : World) : Prop := e = .returned fault0 ∧ Below B W W' ∧ KeepT gx 77 W W' ∧ RdI B gx wide { T with kinds := S.kinds } W'
theorem TakePost4.all {B gx : Nat} {wide : Bool} {S T : Rs} {W W' : World} {e : Ending} (h : TakePost4 B gx wide S T W e W') (hB : B ≤ gx) (hB2 : B ≤ W.heap.size) : TakeAny B gx wide S T W e W' :=
  ⟨h.1, below_of_grown h.2.1 hB2 hB, fun g T cs hg _ hk => hk.grown h.2.1 hg, h.2.2⟩
/-- Each attribute of some kinds is taken in. -/
def Steps (ok : Nat → Bool) (B : Nat) (wide : Bool) : Prop := ∀ (gx f k : Nat) (S T : Rs) (A A2 : Option Addr) (c n2 c2 B' : Nat) (v r : List UInt8) (b : Bool) (W : World), ok k = true → B ≤ gx → B ≤ W.heap.size → RdI B gx wide S W → TabK W → Own W B' 5 (.slice A v.length c) v → v.length ≤ c → c ≤ maxLen → v.length ≤ 1000000 → stepF wide S ⟨f, k, v, r, b⟩ = some T → (k = 8 → S.comms = []) →
  Calls Tryz.prog 62 #[.pointer (some ⟨gx, 0, none⟩), .agg #[.int .i64 (f : Int), .int .i64 (k : Int), .slice A v.length c, .slice A2 n2 c2]] W (TakeAny B gx wide S T W)
theorem blk_row {w w' : World} {B T T' g size n : Nat} {v : Value} {xs cs : List Value} (hk : Blk w g T cs) (h : w.ownsRow B T' size v n xs) (hne : T' ≠ T) (hg : w.grownBy w' v.ownBlock) : Blk w' g T cs := by
  refine (hg.block g hk.lt ?_).trans hk
  rcases row_blk h hk hne with e | e
  · rw [e]; simp
  · exact fun q => e q.symm
theorem step_kinds {wide : Bool} {S T : Rs} {p : Pa} (h : stepF wide S p = some T) : p.kind ∉ S.kinds ∧ T.kinds = S.kinds ++ [p.kind] := by
  unfold stepF at h
  by_cases hk : p.kind ∈ S.kinds
  · rw [if_pos hk] at h; cases h
  · rw [if_neg hk] at h
    obtain ⟨U, _, rfl⟩ := Option.map_eq_some_iff.1 h
    exact ⟨hk, rfl⟩
/-- Communities are there only behind their kind. -/
theorem step_c8 {wide : Bool} {S T : Rs} {p : Pa} (h : stepF wide S p = some T) (hc : 8 ∉ S.kinds → S.comms = []) : 8 ∉ T.kinds → T.comms = [] := by
  have hk := (step_kinds h).2
  intro hn
  rw [hk] at hn
  have h8 : ¬ p.kind = 8 := fun e => hn (by rw [e]; simp)
  have hS : 8 ∉ S.kinds := fun m => hn (List.mem_append_left _ m)
  have e : T.comms = S.comms := by
    unfold stepF at h
    split at h
    · cases h
    · obtain ⟨U, hU, rfl⟩ := Option.map_eq_some_iff.1 h
      show U.comms = S.comms
      revert hU
      split <;> intro hU
      all_goals first
        | exact absurd (by assumption) h8
        | (split at hU <;> first | (cases hU; rfl) | cases hU | (split at hU <;> first | (cases hU; rfl) | cases hU) | (obtain ⟨r, _, rfl⟩ := Option.map_eq_some_iff.1 hU; rfl))
  rw [e]
  exact hc hS
theorem next_less {l : List UInt8} (hl : l ≠ []) : (nextA l).rest.length + 1 ≤ l.length := by
  have h1 := (rdTake_one false hl).1
  have h2 := rdTake_rest (n1 l).2.1 (n1 l).2.2 1
  have h3 := rdTake_rest (n2 l).2.1 (n2 l).2.2 (longN (num (n1 l).1))
  have h4 := rdTake_rest (n3 l).2.1 (n3 l).2.2 ((num (n3 l).1 : Nat) : Int)
  have h5 : (n1 l).2.1.length + 1 = l.length := h1
  have h6 : (n2 l).2.1.length ≤ (n1 l).2.1.length := h2
  have h7 : (n3 l).2.1.length ≤ (n2 l).2.1.length := h3
  have h8 : (nextA l).rest.length ≤ (n3 l).2.1.length := h4
  omega
theorem own_form {w : World} {B T size n : Nat} {v : Value} {xs : List Value} (h : w.ownsRow B T size v n xs) : ∃ A c, v = .slice A n c ∧ n ≤ c ∧ c ≤ maxLen := by
  rcases h.2 with ⟨rfl, rfl⟩ | ⟨g, cap, cur, rfl, _, _, h1, h2, _⟩
  · exact ⟨none, 0, rfl, Nat.le_refl _, Nat.zero_le _⟩
  · exact ⟨_, _, rfl, h1, h2⟩
theorem next_val (l : List UInt8) : (nextA l).val.length ≤ l.length := by
  have h := (rdTake_len (n3 l).2.1 (n3 l).2.2 ((num (n3 l).1 : Nat) : Int)).1
  have h2 := (n_less l).2.2.1
  exact Nat.le_trans h h2
/-- What stays beside what was read. -/
structure MidA (w : World) (gx gr : Nat) (r : List UInt8) (W : World) : Prop where
  below : Below w.heap.size w W
  res : Blk W w.heap.size 28 [.int .i64 0, .slice none 0 0, .int .u32 0, .int .i64 0, .int .i64 0, .bool false, .bool false, .int .u32 0, .int .u32 0, .slice none 0 0, .slice none 0 0]
  flt : Blk W (w.heap.size + 1) 43 [.int .i64 0, .int .i64 0, .slice none 0 0]
  gxl : w.heap.size + 1 < gx
  grl : gx < gr
  rd : Rd W w.heap.size gr r false
section
variable {w W W' : World} {gx gr : Nat} {r : List UInt8}
theorem MidA.later (S : MidA w gx gr r W) (hb : Below W.heap.size W W') : MidA w gx gr r W' :=
  ⟨S.below.trans (hb.mono S.below.size), S.res.below hb S.res.lt, S.flt.below hb S.flt.lt, S.gxl, S.grl, S.rd.below hb S.rd.lt⟩
theorem MidA.take (S : MidA w gx gr r W) (hb : Below w.heap.size W W') (hk : KeepT gx 77 W W') : MidA w gx gr r W' := by
  have h1 := S.gxl; have h2 := S.grl
  obtain ⟨hB, A, c, kb, q1, q2, q3⟩ := S.rd
  exact ⟨S.below.trans hb, hk _ _ _ (by omega) (by decide) S.res, hk _ _ _ (by omega) (by decide) S.flt, h1, h2, hB, A, c, hk _ _ _ (by omega) (by decide) kb, q1, q2, q3.below hb (Nat.le_refl _)⟩
theorem MidA.row (S : MidA w gx gr r W) {n size : Nat} {v : Value} {xs : List Value} (h : W.ownsRow w.heap.size 3 size v n xs) (hg : W.grownBy W' v.ownBlock) : MidA w gx gr r W' := by
  have h1 := S.gxl; have h2 := S.grl
  obtain ⟨hB, A, c, kb, q1, q2, q3⟩ := S.rd
  have hb : Below w.heap.size W W' := (Below.refl _ _).grown hg S.below.size (fun k hk => (World.ownsRow.lt h k hk).1)
  exact ⟨S.below.trans hb, blk_row S.res h (by decide) hg, blk_row S.flt h (by decide) hg, h1, h2, hB, A, c, blk_row kb h (by decide) hg, q1, q2, q3.below hb (Nat.le_refl _)⟩
theorem MidA.setx (S : MidA w gx gr r W) (i : Nat) (v : Value) : MidA w gx gr r (W.setCell ⟨gx, i, none⟩ v) := by
  have h1 := S.gxl; have h2 := S.grl
  obtain ⟨hB, A, c, kb, q1, q2, q3⟩ := S.rd
  have hg : W.grownBy (W.setCell ⟨gx, i, none⟩ v) (some gx) := grown_setCell (grown_refl _ _) i v
  have hb : Below w.heap.size W (W.setCell ⟨gx, i, none⟩ v) := below_of_grown hg S.below.size (by omega)
  exact ⟨S.below.trans hb, S.res.grown hg (by omega), S.flt.grown hg (by omega), h1, h2, hB, A, c, kb.grown hg (by omega), q1, q2, q3.below hb (Nat.le_refl _)⟩
end
theorem kinds_eta {T : Rs} {ks : List Nat} {k : Nat} (h : T.kinds = ks ++ [k]) : { ({ T with kinds := ks } : Rs) with kinds := ks ++ [k] } = T := by
  cases T
  simp only at h
  rw [h]
/-- What the loop holds. -/
structure LoopA (w : World) (gx gr : Nat) (ok : Nat → Bool) (wide : Bool) (l : List UInt8) (Sf : Rs) (S : Rs) (r : List UInt8) (W : World) : Prop where
  below : Below w.heap.size w W
  res : Blk W w.heap.size 28 [.int .i64 0, .slice none 0 0, .int .u32 0, .int .i64 0, .int .i64 0, .bool false, .bool false, .int .u32 0, .int .u32 0, .slice none 0 0, .slice none 0 0]
  flt : Blk W (w.heap.size + 1) 43 [.int .i64 0, .int .i64 0, .slice none 0 0]
  gxl : w.heap.size + 1 < gx
  grl : gx < gr
  rd : Rd W w.heap.size gr r false
  inn : RdI w.heap.size gx wide S W
  run : RunK ok wide r S Sf
  len : S.kinds.length + r.length ≤ l.length
  c8 : 8 ∉ S.kinds → S.comms = []
theorem LoopA.next {w W W' : World} {gx gr : Nat} {ok : Nat → Bool} {wide : Bool} {l r r' : List UInt8} {Sf S : Rs} (h : LoopA w gx gr ok wide l Sf S r W) (hr : Rd W' w.heap.size gr r' false) (hg : W.grownBy W' (some gr)) :
    Below w.heap.size w W' ∧ Blk W' w.heap.size 28 [.int .i64 0, .slice none 0 0, .int .u32 0, .int .i64 0, .int .i64 0, .bool false, .bool false, .int .u32 0, .int .u32 0, .slice none 0 0, .slice none 0 0] ∧ Blk W' (w.heap.size + 1) 43 [.int .i64 0, .int .i64 0, .slice none 0 0] ∧ RdI w.heap.size gx wide S W' := by
  have h1 := h.gxl; have h2 := h.grl
  obtain ⟨_, A, c, hk, _⟩ := h.rd
  exact ⟨h.below.grown hg h.below.size (fun k hk => by cases hk; omega), h.res.grown hg (by omega), h.flt.grown hg (by omega), h.inn.keep hk (by omega) (by decide) (by decide) (by decide) (by decide) (by decide) hg⟩
end Go.Proofs.YtnaangnmlbgmkaaGreatDoor

/-
  All prefixes of bytes: the program's List, of right prefixes' bytes.
-/
namespace Go.Proofs.YtnaangnmlbgmkaaGreatDoor
set_option linter.unusedVariables false
set_option linter.unusedSimpArgs false
open Go.RowKit

def flatP (L : List Px) : List Value := L.flatMap fun x => [.int .u32 (x.1 : Int), .int .i64 x.2]
theorem flatP_at : ∀ (L : List Px) (j : Nat) (x : Px), L[j]? = some x → (flatP L)[j * 2]? = some (.int .u32 (x.1 : Int)) ∧ (flatP L)[j * 2 + 1]? = some (.int .i64 x.2) := by
  intro L
  induction L with
  | nil => intro j s h; simp at h
  | cons x M ih =>
    intro j s h
    have e : flatP (x :: M) = .int .u32 (x.1 : Int) :: .int .i64 x.2 :: flatP M := by simp [flatP]
    rw [e]
    rcases j with _ | j
    · simp at h
      subst h
      exact ⟨rfl, rfl⟩
    · have h2 := ih j s (by simpa using h)
      have e1 : (j + 1) * 2 = j * 2 + 1 + 1 := by omega
      rw [e1]
      exact ⟨by simpa using h2.1, by simpa using h2.2⟩
theorem isPx : IsRow Tryz.prog 22 54 (.agg #[.int .u32 0, .int .i64 0]) 2 16 := ⟨Tryz.underlying22, by kernel_rfl, rfl, by decide, by decide⟩
/-- A row of prefixes of a call's own lies where it lies. -/
theorem pxs_own {w : World} {B n c : Nat} {A : Option Addr} {L : List Px} (h : w.ownsRow B 54 2 (.slice A n c) L.length (flatP L)) : PxsIn w w.heap.size A L := by
  intro hne
  have hp := List.length_pos_iff.2 hne
  rcases h.2 with ⟨hv, hn⟩ | ⟨g, cap, cur, hv, _, hg, _⟩
  · omega
  · have hA : A = some ⟨g, 0, none⟩ := by injection hv
    subst hA
    have hc := World.ownsRow.cells h (g := g) rfl
    refine ⟨g, 0, rfl, (Array.getElem?_eq_some_iff.1 hg).1, fun j x hj => ?_⟩
    obtain ⟨q1, q2⟩ := flatP_at L j x hj
    have k1 := hc _ _ q1
    have k2 := hc _ _ q2
    rw [Addr.add_lit] at k1 k2
    exact ⟨k1, k2⟩
theorem pxB_cons (x : Px) (L : List Px) : pxB (x :: L) = bytesP x.1 x.2.toNat ++ pxB L := by simp [pxB]
/-- What the loop holds. -/
structure LstP (w : World) (L D R : List Px) (v : Value) (W : World) : Prop where
  all : L = D ++ R
  below : Below w.heap.size w W
  rd : Rd W w.heap.size w.heap.size (pxB R) false
  own : W.ownsRow w.heap.size 54 2 v D.length (flatP D)
/-- What List leaves. -/
def RetPxs (w : World) (L : List Px) (e : Ending) (w' : World) : Prop :=
  ∃ A c, e = .returned (.tuple #[.slice A L.length c, .int .i64 0]) ∧ L.length ≤ c ∧ c ≤ maxLen ∧ w'.ownsRow w.heap.size 54 2 (.slice A L.length c) L.length (flatP L) ∧ Below w.heap.size w w'
set_option maxHeartbeats 6400000 in
set_option maxRecDepth 100000 in
theorem List_ok (A : Option Addr) (c : Nat) (l : List UInt8) (L : List Px) (w : World) (h : Bytes w A l) (h1 : l.length ≤ c) (h2 : c ≤ maxLen) (hl : l = pxB L) (hok : pxsOk L = true) (hf : ∀ x ∈ L, PxFit x) (hm : l.length ≤ 1000000) (hm2 : L.length ≤ 1000000) :
    Calls Tryz.prog 30 #[.slice A l.length c] w (RetPxs w L) := by
  have QN := Lib.hid (New_any A l.length c l rfl w h h1 h2)
  have HL := Lib.hid hl; have HOK := Lib.hid hok; have HF := Lib.hid hf; have HM := Lib.hid hm; have HM2 := Lib.hid hm2
  clear h hl hok hf hm hm2
  go_enter Tryz.func30, Tryz.ntmps30
  go_wp2_with fail
  refine QN.out.mono ?_
  rintro e w1 ⟨rfl, hr, hb⟩
  have LS := Lib.hid (show LstP w L [] L (.slice none 0 0) w1 from ⟨rfl, hb, by rw [← HL.out]; exact hr, World.ownsRow_nil _ _ _ _⟩)
  clear hr hb QN
  go_wp2_with fail
  go_loopw [4] (fun v wr => ∃ D R, LstP w L D R v wr) (fun _ wr => leftAt wr w.heap.size)
  case atStart => exact ⟨_, _, LS.out⟩
  case round =>
    obtain ⟨D, R, LA⟩ := hrel
    have HLA := Lib.hid (rd_left LA.rd)
    have QL := Lib.hid (Left_any _ _ _ _ wr LA.rd)
    cases R with
    | nil =>
      have e : L = D := by rw [LA.all]; simp
      subst e
      obtain ⟨A3, c3, rfl, f1, f2⟩ := own_form LA.own
      have HLB := Lib.hid LA
      clear LA
      go_wp2_with fail
      refine QL.out.mono ?_
      rintro e wx ⟨rfl, rfl⟩
      go_wp2_with fail
      go_ret2
      exact ⟨A3, c3, rfl, f1, f2, HLB.out.own, HLB.out.below⟩
    | cons x R =>
      obtain ⟨xa, xn⟩ := x
      have hx : ((xa, xn) : Px) ∈ L := by rw [LA.all]; simp
      have hxo : pxOk (xa, xn) = true := List.all_eq_true.1 HOK.out _ hx
      obtain ⟨k, hk, hk32, hkn⟩ := pxOk_le hxo
      have hxf := HF.out _ hx
      dsimp only at hk hkn
      subst hk
      have hpos : (0 : Int) < ((pxB ((xa, (k : Int)) :: R)).length : Int) := by
        rw [pxB_cons, List.length_append]
        have := (bytesP_len xa k).1
        simp only [Int.toNat_natCast]
        omega
      have hlen : (pxB ((xa, (k : Int)) :: R)).length ≤ 1000000 := by
        have e := HL.out
        rw [LA.all] at e
        have e2 : (pxB (D ++ (xa, (k : Int)) :: R)).length = (pxB D).length + (pxB ((xa, (k : Int)) :: R)).length := by unfold pxB; rw [List.flatMap_append, List.length_append]
        have := HM.out
        rw [e, e2] at this
        omega
      have hrd := LA.rd
      rw [pxB_cons] at hrd hlen hpos HLA
      simp only [Int.toNat_natCast] at hrd hlen hpos HLA
      rw [pxB_cons] at QL
      simp only [Int.toNat_natCast] at QL
      have QR := Lib.hid (read_back5 xa k w.heap.size w.heap.size wr hxf.1 hk32 hxo hlen hrd)
      have HLB := Lib.hid LA
      obtain ⟨A3, c3, rfl, f1, f2⟩ := own_form LA.own
      have hdl : D.length ≤ 1000000 := by have := HM2.out; rw [LA.all] at this; simp at this; omega
      have HDL := Lib.hid hdl
      have HLN := Lib.hid (show (bytesP xa k).length = 1 + (k + 7) / 8 by
        unfold bytesP
        rw [List.length_cons, List.length_take]
        have : (be32 (xa : Int)).length = 4 := rfl
        omega)
      obtain ⟨n, hn⟩ : ∃ n, n = (bytesP xa k ++ pxB R).length := ⟨_, rfl⟩
      rw [← hn] at QL hpos
      have HNN := Lib.hid hn
      clear hx hxo hxf hlen hrd LA hdl hkn hn
      go_wp2_with fail
      refine QL.out.mono ?_
      rintro e wx ⟨rfl, rfl⟩
      go_wp2_with fail
      refine QR.out.mono ?_
      rintro e w2 ⟨rfl, hr2, hg2⟩
      obtain ⟨W2, hW2⟩ : ∃ W2, W2 = w2.alloc (.cells #[.int .u32 (xa : Int), .int .i64 (k : Int)] 54) := ⟨_, rfl⟩
      have hb2 : Below w2.heap.size w2 W2 := by rw [hW2]; exact (Below.refl _ _).alloc (Nat.le_refl _) _
      have kp : Blk W2 w2.heap.size 54 [.int .u32 (xa : Int), .int .i64 (k : Int)] := by rw [hW2]; exact Blk.new w2 _ _
      obtain ⟨_, Ar, cr, krd, _⟩ := HLB.out.rd
      have ho2 := row_below (row_keep HLB.out.own krd (by decide) hg2) hb2
      have hbw : Below w.heap.size w W2 := (HLB.out.below.grown hg2 HLB.out.below.size (fun k hk => by cases hk; exact Nat.le_refl _)).trans (hb2.mono (Nat.le_trans HLB.out.below.size hg2.size))
      have hr3 := hr2.below hb2 hr2.lt
      have kc := cells2 kp
      have HO := Lib.hid ho2; have HB := Lib.hid hbw; have HR := Lib.hid hr3; have HW2 := Lib.hid hW2
      have HSZ := Lib.hid (show (D.length + 1) * 16 ≤ 140737488355328 by have := HDL.out; omega)
      clear hr2 hg2 hb2 krd ho2 hbw hr3 kp hW2 QR QL
      go_wp2_with (first | (rw [← HW2.out]) | (at_builtin; refine wpList_app_one isPx rfl (.tmp 21) (.tmp 23) rfl w _ D.length (flatP D) rfl W2 [.int .u32 (xa : Int), .int .i64 (k : Int)] rfl HO.out rfl rfl (by intro u hu; simp at hu; rcases hu with rfl | rfl <;> rfl) HSZ.out HB.out ?_))
      intro v' w3 ho3 hg3 hb3
      have hn : ((D ++ [(xa, (k : Int))]) : List Px).length = D.length + 1 := by simp
      have ho4 : w3.ownsRow w.heap.size 54 2 v' (D ++ [(xa, (k : Int))]).length (flatP (D ++ [(xa, (k : Int))])) := by
        rw [hn]
        have e : flatP (D ++ [(xa, (k : Int))]) = flatP D ++ [.int .u32 (xa : Int), .int .i64 (k : Int)] := by simp [flatP]
        rw [e]
        exact ho3
      obtain ⟨_, Ar, cr, krd, q1, q2, q3⟩ := HR.out
      have hbv : Below w.heap.size W2 w3 := (Below.refl _ _).grown hg3 HB.out.size (fun k hk => (World.ownsRow.lt HO.out k hk).1)
      have hr4 : Rd w3 w.heap.size w.heap.size (pxB R) false := ⟨Nat.le_refl _, Ar, cr, blk_row krd HO.out (by decide) hg3, q1, q2, q3.below hbv (Nat.le_refl _)⟩
      have HS := Lib.hid (show LstP w L (D ++ [(xa, (k : Int))]) R v' w3 from ⟨by rw [HLB.out.all]; simp, hb3, hr4, ho4⟩)
      have HLE := Lib.hid (rd_left hr4)
      clear ho3 hg3 hb3 hn ho4 krd q1 q2 q3 hbv hr4
      go_wp2_with fail
      go_roundw
      case rel => exact ⟨_, _, HS.out⟩
      case measure =>
        have a1 := HLE.out; have a2 := HLA.out; have a3 := HLN.out
        rw [List.length_append] at a2
        omega
end Go.Proofs.YtnaangnmlbgmkaaGreatDoor

/-
  Rows of structs are cloned: slices.Clone.
-/
namespace Go.Proofs.YtnaangnmlbgmkaaGreatDoor
set_option linter.unusedVariables false
set_option linter.unusedSimpArgs false
open Go.RowKit

/-- Cells lie in a row here. -/
def RowAt (w : World) (B : Nat) (A : Option Addr) (xs : List Value) : Prop := xs ≠ [] → ∃ b off, A = some ⟨b, off, none⟩ ∧ b < B ∧ ∀ j u, xs[j]? = some u → w.cell? ⟨b, off + j, none⟩ = some u
theorem RowAt.below {w w' : World} {B B' : Nat} {A : Option Addr} {xs : List Value} (h : RowAt w B A xs) (hb : Below B' w w') (hB : B ≤ B') : RowAt w' B A xs := by
  intro hl
  obtain ⟨b, off, hA, hlt, hc⟩ := h hl
  exact ⟨b, off, hA, hlt, fun j u hu => (hb.cell (p := ⟨b, off + j, none⟩) (Nat.lt_of_lt_of_le hlt hB)).trans (hc j u hu)⟩
/-- What a call leaves that returns a row of its own. -/
def RetRow (T size : Nat) (w : World) (n : Nat) (xs : List Value) (e : Ending) (w' : World) : Prop :=
  ∃ A c, e = .returned (.slice A n c) ∧ n ≤ c ∧ c ≤ maxLen ∧ w'.ownsRow w.heap.size T size (.slice A n c) n xs ∧ Below w.heap.size w w'
theorem own_emptyCP (w : World) : (w.alloc (.cells #[] 54)).ownsRow w.heap.size 54 2 (.slice (some ⟨w.heap.size, 0, none⟩) 0 0) 0 [] :=
  ⟨by simp, .inr ⟨w.heap.size, 0, #[], rfl, Nat.le_refl _, heap_alloc_new w _, Nat.le_refl _, Nat.zero_le _, rfl, rfl⟩⟩
set_option maxHeartbeats 800000 in
theorem CloneP_any (A : Option Addr) (n c : Nat) (xs : List Value) (hx : xs.length = n * 2) (w : World) (h : RowAt w w.heap.size A xs) (h1 : ∀ u ∈ xs, u.oneCell' = true) (hl : n ≤ 1000000000) :
    Calls Tryz.prog 67 #[.slice A n c] w (RetRow 54 2 w n xs) := by
  cases A with
  | none =>
    have hl0 : xs = [] := by
      rcases xs with _ | ⟨b, z⟩
      · rfl
      · obtain ⟨_, _, h2, _⟩ := h (by simp)
        cases h2
    subst hl0
    obtain rfl : n = 0 := by simp at hx; omega
    have hq := fun w => Lib.run_eql_slice_nil (P := Tryz.prog) w 22 54 none 0 c 0 0 Tryz.underlying22
    go_enter Tryz.func67, Tryz.ntmps67
    go_wp2_with fail
    go_ret
    exact ⟨none, 0, rfl, Nat.le_refl _, Nat.zero_le _, World.ownsRow_nil _ _ _ _, Below.refl _ _⟩
  | some ad =>
    have hq := fun w => Lib.run_eql_slice_nil (P := Tryz.prog) w 22 54 (some ad) n c 0 0 Tryz.underlying22
    have H0 := Lib.hid (own_emptyCP w)
    have HA := Lib.hid (h.below ((Below.refl w.heap.size w).alloc (Nat.le_refl _) (.cells #[] 54)) (Nat.le_refl _))
    have HN := Lib.hid (show n ≠ 0 → ∃ a2, some ad = some a2 ∧ ∀ j u, xs[j]? = some u → (w.alloc (.cells #[] 54)).cell? (a2.add j) = some u from fun hn => by
      obtain ⟨b, off, hA, _, hc⟩ := HA.out (by intro e; rw [e] at hx; simp at hx; omega)
      injection hA with hA
      subst hA
      exact ⟨_, rfl, fun j u hu => by rw [Addr.add_lit]; exact hc j u hu⟩)
    have H1 := Lib.hid h1; have HX := Lib.hid hx
    have HSZ := Lib.hid (show (0 + n) * 16 ≤ 140737488355328 by omega)
    clear h HA h1 hx
    go_enter Tryz.func67, Tryz.ntmps67
    go_wp2_with (at_builtin; refine wpList_app isPx rfl (.tmp 5) (.tmp 6) rfl w _ 0 [] rfl H0.out (some ad) n c xs rfl HX.out HN.out H1.out HSZ.out ((Below.refl _ _).alloc (Nat.le_refl _) _) ?_)
    intro v1 w1 hown1 _ hb1
    have ho : w1.ownsRow w.heap.size 54 2 v1 n xs := by simpa using hown1
    obtain ⟨A', c', rfl, f1, f2⟩ := own_form ho
    have H := Lib.hid ho; clear hown1 ho H0 HN H1 HX
    go_wp2
    go_ret
    exact ⟨A', c', rfl, f1, f2, H.out, hb1⟩
theorem isSegC : IsRow Tryz.prog 23 112 (.agg #[.int .i64 0, .slice none 0 0]) 2 32 := ⟨Tryz.underlying23, by kernel_rfl, rfl, by decide, by decide⟩
theorem own_emptyCS (w : World) : (w.alloc (.cells #[] 112)).ownsRow w.heap.size 112 2 (.slice (some ⟨w.heap.size, 0, none⟩) 0 0) 0 [] :=
  ⟨by simp, .inr ⟨w.heap.size, 0, #[], rfl, Nat.le_refl _, heap_alloc_new w _, Nat.le_refl _, Nat.zero_le _, rfl, rfl⟩⟩
set_option maxHeartbeats 800000 in
theorem CloneS_any (A : Option Addr) (n c : Nat) (xs : List Value) (hx : xs.length = n * 2) (w : World) (h : RowAt w w.heap.size A xs) (h1 : ∀ u ∈ xs, u.oneCell' = true) (hl : n ≤ 1000000000) :
    Calls Tryz.prog 107 #[.slice A n c] w (RetRow 112 2 w n xs) := by
  cases A with
  | none =>
    have hl0 : xs = [] := by
      rcases xs with _ | ⟨b, z⟩
      · rfl
      · obtain ⟨_, _, h2, _⟩ := h (by simp)
        cases h2
    subst hl0
    obtain rfl : n = 0 := by simp at hx; omega
    have hq := fun w => Lib.run_eql_slice_nil (P := Tryz.prog) w 23 112 none 0 c 0 0 Tryz.underlying23
    go_enter Tryz.func107, Tryz.ntmps107
    go_wp2_with fail
    go_ret
    exact ⟨none, 0, rfl, Nat.le_refl _, Nat.zero_le _, World.ownsRow_nil _ _ _ _, Below.refl _ _⟩
  | some ad =>
    have hq := fun w => Lib.run_eql_slice_nil (P := Tryz.prog) w 23 112 (some ad) n c 0 0 Tryz.underlying23
    have H0 := Lib.hid (own_emptyCS w)
    have HA := Lib.hid (h.below ((Below.refl w.heap.size w).alloc (Nat.le_refl _) (.cells #[] 112)) (Nat.le_refl _))
    have HN := Lib.hid (show n ≠ 0 → ∃ a2, some ad = some a2 ∧ ∀ j u, xs[j]? = some u → (w.alloc (.cells #[] 112)).cell? (a2.add j) = some u from fun hn => by
      obtain ⟨b, off, hA, _, hc⟩ := HA.out (by intro e; rw [e] at hx; simp at hx; omega)
      injection hA with hA
      subst hA
      exact ⟨_, rfl, fun j u hu => by rw [Addr.add_lit]; exact hc j u hu⟩)
    have H1 := Lib.hid h1; have HX := Lib.hid hx
    have HSZ := Lib.hid (show (0 + n) * 32 ≤ 140737488355328 by omega)
    clear h HA h1 hx
    go_enter Tryz.func107, Tryz.ntmps107
    go_wp2_with (at_builtin; refine wpList_app isSegC rfl (.tmp 5) (.tmp 6) rfl w _ 0 [] rfl H0.out (some ad) n c xs rfl HX.out HN.out H1.out HSZ.out ((Below.refl _ _).alloc (Nat.le_refl _) _) ?_)
    intro v1 w1 hown1 _ hb1
    have ho : w1.ownsRow w.heap.size 112 2 v1 n xs := by simpa using hown1
    obtain ⟨A', c', rfl, f1, f2⟩ := own_form ho
    have H := Lib.hid ho; clear hown1 ho H0 HN H1 HX
    go_wp2
    go_ret
    exact ⟨A', c', rfl, f1, f2, H.out, hb1⟩
theorem isRawC : IsRow Tryz.prog 26 77 (.agg #[.int .i64 0, .int .i64 0, .slice none 0 0]) 3 40 := ⟨Tryz.underlying26, by kernel_rfl, rfl, by decide, by decide⟩
theorem own_emptyCR (w : World) : (w.alloc (.cells #[] 77)).ownsRow w.heap.size 77 3 (.slice (some ⟨w.heap.size, 0, none⟩) 0 0) 0 [] :=
  ⟨by simp, .inr ⟨w.heap.size, 0, #[], rfl, Nat.le_refl _, heap_alloc_new w _, Nat.le_refl _, Nat.zero_le _, rfl, rfl⟩⟩
set_option maxHeartbeats 800000 in
theorem CloneR_any (A : Option Addr) (n c : Nat) (xs : List Value) (hx : xs.length = n * 3) (w : World) (h : RowAt w w.heap.size A xs) (h1 : ∀ u ∈ xs, u.oneCell' = true) (hl : n ≤ 1000000000) :
    Calls Tryz.prog 109 #[.slice A n c] w (RetRow 77 3 w n xs) := by
  cases A with
  | none =>
    have hl0 : xs = [] := by
      rcases xs with _ | ⟨b, z⟩
      · rfl
      · obtain ⟨_, _, h2, _⟩ := h (by simp)
        cases h2
    subst hl0
    obtain rfl : n = 0 := by simp at hx; omega
    have hq := fun w => Lib.run_eql_slice_nil (P := Tryz.prog) w 26 77 none 0 c 0 0 Tryz.underlying26
    go_enter Tryz.func109, Tryz.ntmps109
    go_wp2_with fail
    go_ret
    exact ⟨none, 0, rfl, Nat.le_refl _, Nat.zero_le _, World.ownsRow_nil _ _ _ _, Below.refl _ _⟩
  | some ad =>
    have hq := fun w => Lib.run_eql_slice_nil (P := Tryz.prog) w 26 77 (some ad) n c 0 0 Tryz.underlying26
    have H0 := Lib.hid (own_emptyCR w)
    have HA := Lib.hid (h.below ((Below.refl w.heap.size w).alloc (Nat.le_refl _) (.cells #[] 77)) (Nat.le_refl _))
    have HN := Lib.hid (show n ≠ 0 → ∃ a2, some ad = some a2 ∧ ∀ j u, xs[j]? = some u → (w.alloc (.cells #[] 77)).cell? (a2.add j) = some u from fun hn => by
      obtain ⟨b, off, hA, _, hc⟩ := HA.out (by intro e; rw [e] at hx; simp at hx; omega)
      injection hA with hA
      subst hA
      exact ⟨_, rfl, fun j u hu => by rw [Addr.add_lit]; exact hc j u hu⟩)
    have H1 := Lib.hid h1; have HX := Lib.hid hx
    have HSZ := Lib.hid (show (0 + n) * 40 ≤ 140737488355328 by omega)
    clear h HA h1 hx
    go_enter Tryz.func109, Tryz.ntmps109
    go_wp2_with (at_builtin; refine wpList_app isRawC rfl (.tmp 5) (.tmp 6) rfl w _ 0 [] rfl H0.out (some ad) n c xs rfl HX.out HN.out H1.out HSZ.out ((Below.refl _ _).alloc (Nat.le_refl _) _) ?_)
    intro v1 w1 hown1 _ hb1
    have ho : w1.ownsRow w.heap.size 77 3 v1 n xs := by simpa using hown1
    obtain ⟨A', c', rfl, f1, f2⟩ := own_form ho
    have H := Lib.hid ho; clear hown1 ho H0 HN H1 HX
    go_wp2
    go_ret
    exact ⟨A', c', rfl, f1, f2, H.out, hb1⟩
end Go.Proofs.YtnaangnmlbgmkaaGreatDoor

/-
  What is wrong with attributes as those of news: nothing, where all kinds are there that must be, and nobody is near.
-/
namespace Go.Proofs.YtnaangnmlbgmkaaGreatDoor
set_option linter.unusedVariables false
set_option linter.unusedSimpArgs false
open Go.RowKit

set_option maxHeartbeats 1600000 in
theorem IndexYes_any (A : Option Addr) (c : Nat) (z : List Nat) (v : Nat) (w : World) (h : At64 w A z) (hv : v ∈ z) (hl : z.length ≤ 1000000) :
    Calls Tryz.prog 99 #[.slice A z.length c, .int .i64 (v : Int)] w fun e w' => (∃ j : Nat, e = .returned (.int .i64 (j : Int)) ∧ j ≤ 1000000) ∧ w = w' := by
  have HS := Lib.hid h; have HV := Lib.hid hv; clear h hv
  go_enter Tryz.func99, Tryz.ntmps99
  go_wp2_with fail
  go_loop [8] (fun i => ∃ j : Nat, j ≤ z.length ∧ i = .int .i64 (j : Int) ∧ Hid (v ∉ z.take j)) (fun i => z.length - (intOf i).toNat)
  case atStart => exact ⟨0, Nat.zero_le _, rfl, Lib.hid (by simp)⟩
  case round =>
    obtain ⟨j, hj, rfl, hn⟩ := hrel
    by_cases hlt : j < z.length
    · obtain ⟨b, off, rfl, hall⟩ := HS.out (fun e => by rw [e] at hlt; simp at hlt)
      have k1 := hall j hlt
      obtain ⟨x, hx⟩ : ∃ x, x = z.getD j 0 := ⟨_, rfl⟩
      rw [← hx] at k1
      have hzj : z[j] = x := by rw [hx]; simp [List.getD, hlt]
      by_cases he : v = x
      · have hk1 : ((v : Int) == (x : Int)) = true := by simp; omega
        clear hx hall hzj
        go_wp2_with fail
        go_ret
        exact ⟨⟨j, rfl, by omega⟩, rfl⟩
      · have hk1 : ((v : Int) == (x : Int)) = false := by simp; omega
        have HN := Lib.hid (show v ∉ z.take (j + 1) by
          rw [List.take_succ_eq_append_getElem hlt, hzj]
          intro hm
          rcases List.mem_append.1 hm with hm | hm
          · exact hn.out hm
          · exact he (by simpa using hm))
        clear hx he hall hzj hn
        go_wp2_with fail
        go_round
        case rel => exact ⟨j + 1, by omega, by go_num, HN⟩
        case measure => simp [intOf]; omega
    · obtain rfl : j = z.length := by omega
      exact absurd HV.out (by have := hn.out; rwa [List.take_length] at this)
theorem ContainsYes_any (A : Option Addr) (c : Nat) (z : List Nat) (v : Nat) (w : World) (h : At64 w A z) (hv : v ∈ z) (hl : z.length ≤ 1000000) :
    Calls Tryz.prog 60 #[.slice A z.length c, .int .i64 (v : Int)] w fun e w' => e = .returned (.bool true) ∧ w = w' := by
  have Q := Lib.hid (IndexYes_any A c z v w h hv hl); clear h hv
  go_enter Tryz.func60, Tryz.ntmps60
  go_wp2_with fail
  refine Q.out.mono ?_
  rintro e w1 ⟨⟨j, rfl, hj⟩, rfl⟩
  go_wp2_with fail
  go_ret
  exact ⟨rfl, rfl⟩
theorem At64.below {w w' : World} {A : Option Addr} {z : List Nat} {B : Nat} (h : At64 w A z) (hb : Below w.heap.size w w') : At64 w' A z := by
  intro hne
  obtain ⟨b, off, hA, hall⟩ := h hne
  refine ⟨b, off, hA, fun j hj => ?_⟩
  have k := hall j hj
  have hlt : b < w.heap.size := by
    by_cases hlt : b < w.heap.size
    · exact hlt
    · exfalso
      have : w.heap[b]? = none := by simp; omega
      simp [World.cell?, this] at k
  exact (hb.cell (p := ⟨b, off + j, none⟩) hlt).trans k
theorem own_new3 (w : World) : (w.alloc (.cells #[.int .i64 1, .int .i64 2, .int .i64 3] 3)).ownsRow w.heap.size 3 1 (.slice (some ⟨w.heap.size, 0, none⟩) 3 3) 3 ([1, 2, 3].map fun (k : Nat) => Value.int .i64 (k : Int)) :=
  ⟨by simp, .inr ⟨w.heap.size, 3, #[.int .i64 1, .int .i64 2, .int .i64 3], rfl, Nat.le_refl _, heap_alloc_new w _, Nat.le_refl _, by unfold maxLen; decide, rfl, rfl⟩⟩
set_option maxHeartbeats 6400000 in
set_option maxRecDepth 100000 in
theorem unfit_ok (x : Av) (kA : Option Addr) (kc : Nat) (ks : List Nat) (inner : Bool) (w : World) (hx : x.In w w.heap.size) (hk : At64 w kA ks) (hkl : ks.length ≤ 1000000) (h1 : 1 ∈ ks ∧ 2 ∈ ks ∧ 3 ∈ ks) (h5 : inner = true → 5 ∈ ks) :
    Calls Tryz.prog 33 #[.agg x.row.toArray, .slice kA ks.length kc, .bool inner, .int .u32 0] w fun e w' => e = .returned fault0 ∧ Below w.heap.size w w' := by
  obtain ⟨W0, hW0⟩ : ∃ W0, W0 = (w.alloc (.cells x.row.toArray 28)).alloc (.cells #[.int .i64 0, .int .i64 0, .slice none 0 0] 43) := ⟨_, rfl⟩
  have hb0 : Below w.heap.size w W0 := by rw [hW0]; exact ((Below.refl _ _).alloc (Nat.le_refl _) _).alloc (by simp) _
  have kx : Blk W0 w.heap.size 28 x.row := by
    rw [hW0]
    exact (Blk.new w _ _).below ((Below.refl _ _).alloc (Nat.le_refl _) _) (by simp)
  have kf : Blk W0 (w.heap.size + 1) 43 [.int .i64 0, .int .i64 0, .slice none 0 0] := by
    have := Blk.new (w.alloc (.cells x.row.toArray 28)) 43 [.int .i64 0, .int .i64 0, .slice none 0 0]
    rw [hW0]
    simpa using this
  have hz : W0.heap.size = w.heap.size + 2 := by rw [hW0]; simp
  have HP := Lib.hid (fun (W : World) (q : Below W0.heap.size W0 W) => show W.cell? ⟨w.heap.size, 1, none⟩ = some (.slice x.pathA x.path.length x.pathC) from (kx.below q kx.lt).cell 1)
  have HF := Lib.hid (fun (W : World) (q : Below W0.heap.size W0 W) => kf.below q kf.lt)
  have HBW := Lib.hid (fun (W : World) (q : Below W0.heap.size W0 W) => hb0.trans (q.mono hb0.size))
  have HIN := Lib.hid (fun (W : World) (q : Below w.heap.size w W) => (hx.below q (Nat.le_refl _)).lift q.size)
  have HK := Lib.hid (fun (W : World) (q : Below w.heap.size w W) => At64.below (B := 0) hk q)
  have HW0 := Lib.hid hW0; have HZ := Lib.hid hz
  obtain ⟨need, hneed⟩ : ∃ need : List Nat, need = if inner = true then [1, 2, 3, 5] else [1, 2, 3] := ⟨_, rfl⟩
  have HM := Lib.hid (show ∀ k ∈ need, k ∈ ks by
    intro k hk
    rw [hneed] at hk
    cases inner with
    | true =>
      have := h5 rfl
      simp at hk
      rcases hk with rfl | rfl | rfl | rfl
      · exact h1.1
      · exact h1.2.1
      · exact h1.2.2
      · exact this
    | false =>
      simp at hk
      rcases hk with rfl | rfl | rfl
      · exact h1.1
      · exact h1.2.1
      · exact h1.2.2)
  have HN4 := Lib.hid (show need.length ≤ 4 by rw [hneed]; split <;> decide)
  clear hW0 hb0 kx kf hz hx hk h1 h5
  cases inner with
  | false =>
    obtain rfl : need = [1, 2, 3] := hneed
    have HA1 := Lib.hid (at64_own (own_new3 W0))
    have HB1 := Lib.hid ((Below.refl W0.heap.size W0).alloc (Nat.le_refl _) (.cells #[.int .i64 1, .int .i64 2, .int .i64 3] 3))
    go_enter Tryz.func33, Tryz.ntmps33
    go_wp2_with (first
      | (refine wpList_boxA _ rfl (.tmp 0) rfl x rfl ?_)
      | (rw [← HW0.out]))
    go_loopw [21] (fun i wr => Below W0.heap.size W0 wr ∧ ∃ j : Nat, j ≤ 3 ∧ i = .int .i64 (j : Int) ∧ Hid (At64 wr (some ⟨W0.heap.size, 0, none⟩) [1, 2, 3])) (fun i _ => 3 - (intOf i).toNat)
    case atStart => exact ⟨HB1.out, 0, by decide, rfl, HA1⟩
    case round =>
      obtain ⟨hbr, j, hj, rfl, hat⟩ := hrel
      have HBR := Lib.hid hbr
      clear hbr
      by_cases hlt : j < 3
      · obtain ⟨b, off, hAe, hall⟩ := hat.out (by decide)
        have k1 := hall j hlt
        obtain ⟨y, hy⟩ : ∃ y, y = ([1, 2, 3] : List Nat).getD j 0 := ⟨_, rfl⟩
        rw [← hy] at k1
        have hmem : y ∈ ks := HM.out y (by rw [hy]; have hl : j < ([1, 2, 3] : List Nat).length := hlt; simp only [List.getD, List.getElem?_eq_getElem hl, Option.getD_some]; exact List.getElem_mem hl)
        have QC := Lib.hid (ContainsYes_any kA kc ks y wr (HK.out _ (HBW.out _ HBR.out)) hmem hkl)
        have HJ := Lib.hid hlt
        injection hAe with hAe; injection hAe with q1 q2 q3; subst q1; subst q2; rw [Nat.zero_add] at k1
        clear hy hmem hall
        go_wp2_with fail
        refine QC.out.mono ?_
        rintro e w9 ⟨rfl, rfl⟩
        go_wp2_with fail
        go_roundw
        case rel => exact ⟨HBR.out, j + 1, HJ.out, by go_num, hat⟩
        case measure => have := HJ.out; simp [intOf]; omega
      · obtain rfl : j = 3 := by omega
        have hp := HP.out _ HBR.out
        have QF := Lib.hid (First_any x.pathA x.pathC x.path wr (HIN.out _ (HBW.out _ HBR.out)).path)
        clear hat hlt hj
        go_wp2_with fail
        refine QF.out.mono ?_
        rintro e w9 ⟨rfl, rfl⟩
        unfold retFirst
        obtain ⟨f1, f2⟩ := firstL x.path
        dsimp only
        have kf := HF.out _ HBR.out
        have ff := free3 kf
        have cf := cells3 kf
        have hgf := grown_set3 wr (w.heap.size + 1) (.int .i64 0) (.int .i64 0) (.slice none 0 0)
        have rf := cells3 (kf.set3 (.int .i64 0) (.int .i64 0) (.slice none 0 0))
        have BF := Lib.hid ((HBW.out _ HBR.out).grown hgf (HBW.out _ HBR.out).size (fun k hk => by cases hk; omega))
        have HRF := Lib.hid rf
        clear rf hgf kf QF
        go_wp2_with fail
        have rf := HRF.out
        exact bodyPost_ret (v := fault0) (by simp [results, Tryz.results33, go_sem, fault0, rf]) rfl ⟨rfl, BF.out⟩
  | true =>
    obtain rfl : need = [1, 2, 3, 5] := hneed
    have HO1 := Lib.hid (own_new3 W0)
    obtain ⟨W1, hW1⟩ : ∃ W1, W1 = W0.alloc (.cells #[.int .i64 1, .int .i64 2, .int .i64 3] 3) := ⟨_, rfl⟩
    rw [← hW1] at HO1
    have hb1 : Below W0.heap.size W0 W1 := by rw [hW1]; exact (Below.refl _ _).alloc (Nat.le_refl _) _
    have HBA := Lib.hid hb1; have HW1 := Lib.hid hW1
    clear hb1 hW1
    go_enter Tryz.func33, Tryz.ntmps33
    go_wp2_with (first
      | (refine wpList_boxA _ rfl (.tmp 0) rfl x rfl ?_)
      | (at_builtin; refine wpList_app_one' isInt rfl (.tmp 16) (.tmp 17) rfl W0.heap.size _ 3 _ rfl W1 [.int .i64 5] rfl HO1.out rfl rfl (by intro u hu; simp at hu; subst hu; rfl) (by decide) HBA.out.size ?_)
      | (rw [← HW1.out])
      | (rw [← HW0.out]))
    intro v' w2 ho2 hg2
    obtain ⟨A2, c2, rfl, f1, f2⟩ := own_form ho2
    have HA1 := Lib.hid (at64_own (z := [1, 2, 3, 5]) ho2)
    have HB1 := Lib.hid (HBA.out.trans ((Below.refl _ _).grown hg2 HBA.out.size (fun k hk => by cases hk; exact Nat.le_refl _)))
    clear ho2 hg2 HBA HO1 HW1
    go_wp2_with fail
    go_loopw [21] (fun i wr => Below W0.heap.size W0 wr ∧ ∃ j : Nat, j ≤ 4 ∧ i = .int .i64 (j : Int) ∧ Hid (At64 wr A2 [1, 2, 3, 5])) (fun i _ => 4 - (intOf i).toNat)
    case atStart => exact ⟨HB1.out, 0, by decide, rfl, HA1⟩
    case round =>
      obtain ⟨hbr, j, hj, rfl, hat⟩ := hrel
      have HBR := Lib.hid hbr
      clear hbr
      by_cases hlt : j < 4
      · obtain ⟨b, off, hAe, hall⟩ := hat.out (by decide)
        have k1 := hall j hlt
        obtain ⟨y, hy⟩ : ∃ y, y = ([1, 2, 3, 5] : List Nat).getD j 0 := ⟨_, rfl⟩
        rw [← hy] at k1
        have hmem : y ∈ ks := HM.out y (by rw [hy]; have hl : j < ([1, 2, 3, 5] : List Nat).length := hlt; simp only [List.getD, List.getElem?_eq_getElem hl, Option.getD_some]; exact List.getElem_mem hl)
        have QC := Lib.hid (ContainsYes_any kA kc ks y wr (HK.out _ (HBW.out _ HBR.out)) hmem hkl)
        have HJ := Lib.hid hlt
        subst hAe
        clear hy hmem hall
        go_wp2_with fail
        refine QC.out.mono ?_
        rintro e w9 ⟨rfl, rfl⟩
        go_wp2_with fail
        go_roundw
        case rel => exact ⟨HBR.out, j + 1, HJ.out, by go_num, hat⟩
        case measure => have := HJ.out; simp [intOf]; omega
      · obtain rfl : j = 4 := by omega
        have hp := HP.out _ HBR.out
        have QF := Lib.hid (First_any x.pathA x.pathC x.path wr (HIN.out _ (HBW.out _ HBR.out)).path)
        clear hat hlt hj
        go_wp2_with fail
        refine QF.out.mono ?_
        rintro e w9 ⟨rfl, rfl⟩
        unfold retFirst
        obtain ⟨f1, f2⟩ := firstL x.path
        dsimp only
        have kf := HF.out _ HBR.out
        have ff := free3 kf
        have cf := cells3 kf
        have hgf := grown_set3 wr (w.heap.size + 1) (.int .i64 0) (.int .i64 0) (.slice none 0 0)
        have rf := cells3 (kf.set3 (.int .i64 0) (.int .i64 0) (.slice none 0 0))
        have BF := Lib.hid ((HBW.out _ HBR.out).grown hgf (HBW.out _ HBR.out).size (fun k hk => by cases hk; omega))
        have HRF := Lib.hid rf
        clear rf hgf kf QF
        go_wp2_with fail
        have rf := HRF.out
        exact bodyPost_ret (v := fault0) (by simp [results, Tryz.results33, go_sem, fault0, rf]) rfl ⟨rfl, BF.out⟩
end Go.Proofs.YtnaangnmlbgmkaaGreatDoor

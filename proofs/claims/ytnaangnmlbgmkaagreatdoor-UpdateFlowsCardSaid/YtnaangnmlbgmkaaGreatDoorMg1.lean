/-
  Texts of this seat, put together: Base, Pfx, AppB, Flow, Seat, Seg, Own3, FrameP, BytesP, Read, Num, PutB, Mask, Str7, PutA, RefPutA, Same, FlowT, Cnt, OwnSeg, Byte, Right, Bits, Right3, Put3, Flat3, Has, Four4, Big4, U32, U16, RefR, Nums3, First3, OwnL, Concat, Holds, BitP, ConcatN, RefPut3, RefFlat3, Next3, Norm, Parse3, RefRB, SameP, NormCnt3.
-/
import Derived.Below
import Derived.WalkKit
import Derived.WalkSmall
import Derived.Laws.OwnMore
import Derived.Laws.IdiomStrings
import Derived.Laws.BytesArg
import Derived.Laws.BitsAllLaws
import Derived.Laws.CopyOwn
import Derived.Lib.BufferRead
import Derived.Deep.Draws
import Derived.Lib.Hide
import Derived.IntWalk
import Derived.Orders
import Derived.Test.YtnaangnmlbgmkaaGreatDoorChecked
import Derived.Outline
import Derived.WalkSpells
import Derived.Test.YtnaangnmlbgmkaaGreatDoorRows
import Derived.ProofKit
import Derived.OpenShut
import Derived.Deep.DeepHandedRow
import Derived.Lib.SmallJoins
import Derived.Lib.LaidTab
import Derived.WalkLawsBesides
import Derived.Deep.RegionHeld3
import Derived.Deep.QuietTactic
import Derived.BigQuiet
import Derived.Deep.RegionLaw
import Derived.StillTailTactics
import Derived.Lib.AppendZeros
/-
  Bytes in memory, lists of bytes as numbers, small facts on worlds, and the walk's laws on slices of bytes of a call's own: what the walks lean on; no program stands here.
-/
namespace Go.Proofs.YtnaangnmlbgmkaaGreatDoor
open Go.RowKit

/-! ### Bytes at an address -/

/-- The slice's address A leads to the bytes l, in a block below B; nothing is said of an empty one's address. -/
def At (w : World) (B : Nat) (A : Option Addr) (l : List UInt8) : Prop :=
  l ≠ [] → ∃ b off, A = some ⟨b, off, none⟩ ∧ b < B ∧ ∀ j, j < l.length → w.cell? ⟨b, off + j, none⟩ = some (.int .u8 ((l.getD j 0).toNat : Int))
/-- The same, in a block that is there. -/
def Bytes (w : World) (A : Option Addr) (l : List UInt8) : Prop := At w w.heap.size A l

section
variable {w w' : World} {A : Option Addr} {l : List UInt8} {B : Nat}
theorem At.nil (w : World) (B : Nat) (A : Option Addr) : At w B A [] := fun h => absurd rfl h
theorem Bytes.nil (w : World) (A : Option Addr) : Bytes w A [] := fun h => absurd rfl h
theorem At.lift {B' : Nat} (h : At w B A l) (hB : B ≤ B') : At w B' A l := fun hl => by
  obtain ⟨b, off, rfl, hlt, hc⟩ := h hl
  exact ⟨b, off, rfl, Nat.lt_of_lt_of_le hlt hB, hc⟩
theorem At.bytes (h : At w B A l) (hB : B ≤ w.heap.size) : Bytes w A l := h.lift hB
theorem At.below {B' : Nat} (h : At w B A l) (hb : Below B' w w') (hB : B ≤ B') : At w' B A l := by
  intro hl
  obtain ⟨b, off, rfl, hlt, hc⟩ := h hl
  exact ⟨b, off, rfl, hlt, fun j hj => (hb.cell (p := ⟨b, off + j, none⟩) (Nat.lt_of_lt_of_le hlt hB)).trans (hc j hj)⟩
theorem At.grown {g : Nat} (h : At w B A l) (hg : w.grownBy w' (some g)) (hB : B ≤ g) : At w' B A l := by
  intro hl
  obtain ⟨b, off, rfl, hlt, hc⟩ := h hl
  refine ⟨b, off, rfl, hlt, fun j hj => hg.cell (hc j hj) ?_⟩
  intro e
  have e' : b = g := by simpa using e
  omega
theorem Bytes.below (h : Bytes w A l) (hb : Below w.heap.size w w') : Bytes w' A l := (At.below h hb (Nat.le_refl _)).lift hb.size
theorem Bytes.drewN (h : Bytes w A l) (n : Nat) : Bytes (w.drewN n) A l := h
theorem Bytes.drew (h : Bytes w A l) : Bytes w.drew A l := h
theorem Bytes.alloc (h : Bytes w A l) (o : Obj) : Bytes (w.alloc o) A l := h.below ((Below.refl _ _).alloc (Nat.le_refl _) _)
theorem At.cell (h : At w B A l) {k : Nat} (hk : k < l.length) : ∃ b off, A = some ⟨b, off, none⟩ ∧ b < B ∧ w.cell? ⟨b, off + k, none⟩ = some (.int .u8 ((l.getD k 0).toNat : Int)) := by
  obtain ⟨b, off, hA, hlt, hc⟩ := h (by intro e; subst e; simp at hk)
  exact ⟨b, off, hA, hlt, hc k hk⟩
theorem Bytes.cell (h : Bytes w A l) {k : Nat} (hk : k < l.length) : ∃ b off, A = some ⟨b, off, none⟩ ∧ b < w.heap.size ∧ w.cell? ⟨b, off + k, none⟩ = some (.int .u8 ((l.getD k 0).toNat : Int)) := At.cell h hk
/-- A cut 's[i:]', as the walk writes its address. -/
theorem At.drop (h : At w B A l) {k c : Nat} (hc : l.length ≤ c) : At w B (if c = k then A else A.map (·.add k)) (l.drop k) := by
  intro hl
  have hk : k < l.length := by
    rcases Nat.lt_or_ge k l.length with h1 | h1
    · exact h1
    · exact absurd (List.drop_eq_nil_of_le h1) hl
  obtain ⟨b, off, rfl, hlt, hcell⟩ := h (by intro e; subst e; simp at hk)
  rw [if_neg (by omega)]
  refine ⟨b, off + k, ?_, hlt, fun j hj => ?_⟩
  · simp [Addr.add_lit]
  · rw [Nat.add_assoc, hcell (k + j) (by simp at hj; omega)]
    simp [List.getD, List.getElem?_drop]
theorem At.take (h : At w B A l) (k : Nat) : At w B A (l.take k) := by
  intro hl
  obtain ⟨b, off, rfl, hlt, hcell⟩ := h (by intro e; subst e; simp at hl)
  refine ⟨b, off, rfl, hlt, fun j hj => ?_⟩
  have hj' : j < k ∧ j < l.length := by simpa [List.length_take, Nat.lt_min] using hj
  rw [hcell j hj'.2]
  simp [List.getD, hj'.1]
theorem Bytes.drop (h : Bytes w A l) {k c : Nat} (hc : l.length ≤ c) : Bytes w (if c = k then A else A.map (·.add k)) (l.drop k) := At.drop h hc
theorem Bytes.take (h : Bytes w A l) (k : Nat) : Bytes w A (l.take k) := At.take h k

/-! ### What may have turned -/

theorem grown_trans {a b c : World} {g : Nat} (h : a.grownBy b (some g)) (k : b.grownBy c (some g)) : a.grownBy c (some g) :=
  ⟨k.os.trans h.os, k.tape.trans h.tape, k.output.trans h.output, Nat.le_trans h.size k.size, fun i hi hne => (k.block i (Nat.lt_of_lt_of_le hi h.size) hne).trans (h.block i hi hne)⟩
theorem grown_of_below {a b : World} (h : Below a.heap.size a b) (row : Option Nat) : a.grownBy b row := ⟨h.os, h.tape, h.output, h.size, fun i hi _ => h.block i hi⟩
theorem below_of_grown {B : Nat} {a b : World} {g : Nat} (h : a.grownBy b (some g)) (hB : B ≤ a.heap.size) (hg : B ≤ g) : Below B a b :=
  (Below.refl B a).grown h hB (fun k hk => by cases hk; exact hg)
theorem grown_setCell {a b : World} {g : Nat} (h : a.grownBy b (some g)) (o : Nat) (u : Value) : a.grownBy (b.setCell ⟨g, o, none⟩ u) (some g) :=
  ⟨h.os, h.tape, h.output, by simpa [World.setCell] using h.size, fun i hi hne => (Below.heap_setCell b ⟨g, o, none⟩ u i (fun e => hne (by simp [e]))).trans (h.block i hi hne)⟩
theorem grown_drewN {a b : World} {row : Option Nat} (h : a.grownBy b row) (n : Nat) : a.grownBy (b.drewN n) row := ⟨h.os, h.tape, h.output, h.size, h.block⟩
theorem grown_alloc {a b : World} {row : Option Nat} (h : a.grownBy b row) (o : Obj) : a.grownBy (b.alloc o) row :=
  ⟨h.os, h.tape, h.output, Nat.le_trans h.size (by simp), fun i hi hne => (Below.heap_alloc b o i (Nat.lt_of_lt_of_le hi h.size)).trans (h.block i hi hne)⟩
theorem grown_refl (a : World) (row : Option Nat) : a.grownBy a row := ⟨rfl, rfl, rfl, Nat.le_refl _, fun _ _ _ => rfl⟩
theorem below_drewN {B : Nat} {a b : World} (h : Below B a b) (n : Nat) : Below B a (b.drewN n) := ⟨h.os, h.tape, h.output, h.size, h.block⟩

/-- Block g is just the cells cs, of the type t. -/
def Blk (w : World) (g t : Nat) (cs : List Value) : Prop := w.heap[g]? = some (.cells cs.toArray t (0, 0))
theorem Blk.lt {g t : Nat} {cs : List Value} (h : Blk w g t cs) : g < w.heap.size := (Array.getElem?_eq_some_iff.1 h).1
theorem Blk.cell {g t : Nat} {cs : List Value} (h : Blk w g t cs) (i : Nat) : w.cell? ⟨g, i, none⟩ = cs[i]? := by rw [cell_of_row w g i _ t (0, 0) h]; simp
theorem Blk.free {g t : Nat} {cs : List Value} (h : Blk w g t cs) (i : Nat) : w.frozen? ⟨g, i, none⟩ = false := frozen_of_row w g i _ t h
theorem Blk.new (w : World) (t : Nat) (cs : List Value) : Blk (w.alloc (.cells cs.toArray t)) w.heap.size t cs := heap_alloc_new w _
theorem Blk.set {g t : Nat} {cs : List Value} (h : Blk w g t cs) (i : Nat) (u : Value) : Blk (w.setCell ⟨g, i, none⟩ u) g t (cs.set i u) := by
  unfold Blk at h ⊢
  simp only [World.setCell, Array.getElem?_modify, if_pos, h, Option.map_some]
  simp
theorem Blk.below {g t B : Nat} {cs : List Value} (h : Blk w g t cs) (hb : Below B w w') (hg : g < B) : Blk w' g t cs := (hb.block g hg).trans h
theorem Blk.grown {g g' t : Nat} {cs : List Value} (h : Blk w g t cs) (hb : w.grownBy w' (some g')) (hg : g ≠ g') : Blk w' g t cs := (hb.block g h.lt (by simpa using hg)).trans h
theorem Blk.drewN {g t : Nat} {cs : List Value} (h : Blk w g t cs) (n : Nat) : Blk (w.drewN n) g t cs := h

/-- The value v is a slice of the call's own (its block is B or later) that holds the bytes l. -/
def Own (w : World) (B e : Nat) (v : Value) (l : List UInt8) : Prop := w.ownsRow B e 1 v l.length (l.map fun b => Value.int .u8 (b.toNat : Int))

theorem Own.nil (w : World) (B e : Nat) : Own w B e (.slice none 0 0) [] := World.ownsRow_nil w B e 1
theorem Own.form {e : Nat} {v : Value} (h : Own w B e v l) : ∃ A c, v = .slice A l.length c ∧ l.length ≤ c ∧ c ≤ maxLen := by
  rcases h.2 with ⟨rfl, hn⟩ | ⟨g, cap, cur, rfl, hbg, hg, hnc, hcm, hcs, htake⟩
  · exact ⟨none, 0, by rw [hn], by omega, Nat.zero_le _⟩
  · exact ⟨_, cap, rfl, hnc, hcm⟩
theorem Own.bytes {e n c : Nat} (h : Own w B e (.slice A n c) l) : Bytes w A l := by
  intro hl
  rcases h.2 with ⟨hv, hn⟩ | ⟨g, cap, cur, hv, hbg, hg, hnc, hcm, hcs, htake⟩
  · exact absurd (List.eq_nil_of_length_eq_zero hn) hl
  · have hA : A = some ⟨g, 0, none⟩ := by injection hv
    refine ⟨g, 0, hA, (Array.getElem?_eq_some_iff.1 hg).1, fun j hj => ?_⟩
    have hj2 := World.ownsRow.cells h (g := g) (by subst hA; rfl) j (.int .u8 ((l.getD j 0).toNat : Int)) (by simp [List.getD, hj])
    rw [Addr.add_lit] at hj2
    exact hj2
theorem Own.bytes' {e : Nat} {v : Value} (h : Own w B e v l) : ∃ A c, v = .slice A l.length c ∧ l.length ≤ c ∧ c ≤ maxLen ∧ Bytes w A l := by
  obtain ⟨A, c, rfl, h1, h2⟩ := h.form
  exact ⟨A, c, rfl, h1, h2, h.bytes⟩
theorem Own.alloc {e : Nat} {v : Value} (h : Own w B e v l) (o : Obj) : Own (w.alloc o) B e v l := World.ownsRow.alloc h o
theorem Own.drew {e : Nat} {v : Value} (h : Own w B e v l) : Own w.drew B e v l := h
theorem Own.drewN {e : Nat} {v : Value} (h : Own w B e v l) (n : Nat) : Own (w.drewN n) B e v l := h
theorem Own.below {e : Nat} {v : Value} (h : Own w B e v l) (hb : Below w.heap.size w w') : Own w' B e v l :=
  World.ownsRow.kept h (row := none) ⟨hb.os, hb.tape, hb.output, hb.size, fun k hk _ => hb.block k hk⟩ (by cases v.ownBlock <;> simp)
theorem Own.lower {e B' : Nat} {v : Value} (h : Own w B e v l) (hB : B' ≤ B) : Own w B' e v l := by
  refine ⟨h.1, ?_⟩
  rcases h.2 with h2 | ⟨g, cap, cur, hv, hbg, r⟩
  · exact .inl h2
  · exact .inr ⟨g, cap, cur, hv, Nat.le_trans hB hbg, r⟩
theorem Own.blk {e k : Nat} {v : Value} (h : Own w B e v l) (hk : v.ownBlock = some k) : B ≤ k := (World.ownsRow.lt h k hk).1
end

/-! ### The walk's laws -/

/-- t is []byte in P, e its byte. -/
structure IsBytes (P : Program) (t e : TypeId) : Prop where
  ht : P.underlying t = some (.slice e)
  he : P.underlying e = some (.int .u8)
  info : (P.info? e).map (fun i => (i.zero, i.size, i.bytes)) = some (some (.int .u8 0), 1, 1)

theorem cells_oneCell (l : List UInt8) : ∀ u ∈ (l.map fun b => Value.int .u8 (b.toNat : Int)), u.oneCell' = true := by
  intro u hu
  obtain ⟨_, _, rfl⟩ := List.mem_map.1 hu
  rfl

section
variable {P : Program} {w : World} {ops : Array Oper} {rest : List Oper} {o : Oper} {a : Act} {Q : Exit → Act → World → Prop}

theorem getElem?_cells {l : List UInt8} {j : Nat} {u : Value} (hu : (l.map fun b => Value.int .u8 (b.toNat : Int))[j]? = some u) : j < l.length ∧ u = .int .u8 ((l.getD j 0).toNat : Int) := by
  have hj : j < l.length := by simpa using (List.getElem?_eq_some_iff.1 hu).1
  refine ⟨hj, ?_⟩
  simp [hj] at hu
  simp [List.getD, hj, hu]

/-- 'out = append(out, x...)', out the call's own, x any bytes: as one operation, in the walk's list, and in a region that draws its order. -/
theorem wp_append_bytes {t e : TypeId} {K : Act → World → Prop} (T : IsBytes P t e) (s x : Operand) (ho : o.op = .call { callee := .builtin .append, args := #[s, x], argTypes := #[t, t] })
    (w0 : World) (v : Value) (l : List UInt8) (hs : a.eval s = v) (hown : Own w w0.heap.size e v l) (A : Option Addr) (m : List UInt8) (n c : Nat) (hx : a.eval x = .slice A n c) (hn : n = m.length) (hm : Bytes w A m)
    (hsz : l.length + m.length ≤ 140737488355328) (hb : Below w0.heap.size w0 w)
    (h : ∀ v' w', Own w' w0.heap.size e v' (l ++ m) → w.grownBy w' v.ownBlock → Below w0.heap.size w0 w' → K (a.put o.dst v') w') : o.wp P a w K Q := by
  obtain ⟨i, hi, hz0, hz1, hz2⟩ := info_parts T.info
  subst hn
  by_cases hm0 : m = []
  · subst hm0
    cases A with
    | none =>
      have hrun : (Builtin.append_ #[t, t] o.type #[v, .slice none 0 c]).run P w = .ok v w := by
        rcases hown.2 with ⟨rfl, _⟩ | ⟨g, cap, cur, rfl, _, _, hnc, _⟩
        · simp [Builtin.append_, run_underlying T.ht, sizeOf, typeInfo, hi, Builtin.lenOf, Builtin.firstCells]
        · simp [Builtin.append_, run_underlying T.ht, sizeOf, typeInfo, hi, Builtin.lenOf, Builtin.firstCells, hnc, storeCells]
      unfold Oper.wp
      have hx' : a.eval x = .slice none 0 c := hx
      simp [execOp, ho, resolve, invoke, builtin, hs, hx', hrun, Result.andThen]
      exact h v w (by simpa using hown) (World.grownBy.refl _ _) hb
    | some ad =>
      refine wp_append_own w s x t ho w0.heap.size e i (.int .u8 0) 1 1 T.ht hi hz0 hz1 hz2 rfl (by decide) v l.length _ hs hown ad 0 c [] hx rfl (by simp) (by simp) (by unfold maxLen; simp at hsz; omega) (by simpa using hsz) hb.size ?_
      intro v' w' ho' hg _
      exact h v' w' (by simpa [Own] using ho') hg (hb.grown hg hb.size (fun k hk => hown.blk hk))
  · obtain ⟨b, off, rfl, hlt, hc⟩ := hm hm0
    refine wp_append_own w s x t ho w0.heap.size e i (.int .u8 0) 1 1 T.ht hi hz0 hz1 hz2 rfl (by decide) v l.length _ hs hown ⟨b, off, none⟩ m.length c (m.map fun b => Value.int .u8 (b.toNat : Int)) hx (by simp) ?_ (cells_oneCell m) (by unfold maxLen; omega) (by omega) hb.size ?_
    · intro j u hu
      obtain ⟨hj, rfl⟩ := getElem?_cells hu
      rw [Addr.add_lit]
      exact hc j hj
    · intro v' w' ho' hg _
      refine h v' w' ?_ hg (hb.grown hg hb.size (fun k hk => hown.blk hk))
      unfold Own
      rw [List.length_append, List.map_append]
      exact ho'

theorem wpList_append_bytes {t e : TypeId} (T : IsBytes P t e) (hgd : o.guard = none) (s x : Operand) (ho : o.op = .call { callee := .builtin .append, args := #[s, x], argTypes := #[t, t] })
    (w0 : World) (v : Value) (l : List UInt8) (hs : a.eval s = v) (hown : Own w w0.heap.size e v l) (A : Option Addr) (m : List UInt8) (n c : Nat) (hx : a.eval x = .slice A n c) (hn : n = m.length) (hm : Bytes w A m)
    (hsz : l.length + m.length ≤ 140737488355328) (hb : Below w0.heap.size w0 w)
    (h : ∀ v' w', Own w' w0.heap.size e v' (l ++ m) → w.grownBy w' v.ownBlock → Below w0.heap.size w0 w' → wpList P ops Q rest (a.put o.dst v') w') : wpList P ops Q (o :: rest) a w :=
  wpList_plain hgd fun _ hK => wp_append_bytes T s x ho w0 v l hs hown A m n c hx hn hm hsz hb fun v' w' h1 h2 h3 => hK _ _ (h v' w' h1 h2 h3)

theorem step_append_bytes {t e : TypeId} {K : Act → World → Prop} {E : Prop} (T : IsBytes P t e) (hgd : o.guard = none) (s x : Operand) (ho : o.op = .call { callee := .builtin .append, args := #[s, x], argTypes := #[t, t] })
    (w0 : World) (v : Value) (l : List UInt8) (hs : a.eval s = v) (hown : Own w w0.heap.size e v l) (A : Option Addr) (m : List UInt8) (n c : Nat) (hx : a.eval x = .slice A n c) (hn : n = m.length) (hm : Bytes w A m)
    (hsz : l.length + m.length ≤ 140737488355328) (hb : Below w0.heap.size w0 w)
    (h : ∀ v' w', Own w' w0.heap.size e v' (l ++ m) → w.grownBy w' v.ownBlock → Below w0.heap.size w0 w' → K (a.put o.dst v') w') : if Region.wanted o (yielded ops a.tmps) = true then Oper.wp P o a w K Q else E := by
  have hw : Region.wanted o (yielded ops a.tmps) = true := by simp [Region.wanted, hgd]
  rw [if_pos hw]
  exact wp_append_bytes T s x ho w0 v l hs hown A m n c hx hn hm hsz hb h

theorem toNat_ofNat_toNat {N : Int} (h0 : 0 ≤ N) (h1 : N < 256) : ((UInt8.ofNat N.toNat).toNat : Int) = N := by
  rw [UInt8.toNat_ofNat', Nat.mod_eq_of_lt (by omega)]
  omega

/-- 'string(b)'. -/
theorem conv_bytes {t e d : TypeId} (T : IsBytes P t e) (hd : P.underlying d = some .string) {A : Option Addr} {l : List UInt8} (h : Bytes w A l) (c : Nat) : (convert t d (.slice A l.length c)).run P w = .ok (.string ⟨l.toArray⟩) w := by
  by_cases hl : l = []
  · subst hl
    cases A with
    | none => exact Lib.run_convert_nil_bytes w t d e c T.ht T.he hd
    | some ad => exact run_convert_bytes_back w t d e ad c [] T.ht T.he hd (by simp)
  · obtain ⟨b, off, rfl, _, hc⟩ := h hl
    refine run_convert_bytes_back w t d e _ c l T.ht T.he hd fun j hj => ?_
    rw [Addr.add_lit, hc j hj]
    simp [List.getD, hj]

/-- The one byte that 'append(out, c)' lays in a block of its own. -/
theorem bytes_one (w : World) (e : TypeId) {N : Int} (h0 : 0 ≤ N) (h1 : N < 256) : Bytes (w.alloc (.cells #[.int .u8 N] e)) (some ⟨w.heap.size, 0, none⟩) [UInt8.ofNat N.toNat] := by
  intro _
  refine ⟨w.heap.size, 0, rfl, by simp, fun j hj => ?_⟩
  obtain rfl : j = 0 := by simpa using hj
  rw [World.cell?_alloc_at]
  · simp
    omega
  · rfl

theorem grown_of_alloc {wr w' : World} {o : Obj} {row : Option Nat} (hg : (wr.alloc o).grownBy w' row) : wr.grownBy w' row := by
  have hg0 := World.grownBy_alloc wr o row
  exact ⟨hg.os.trans hg0.os, hg.tape.trans hg0.tape, hg.output.trans hg0.output, Nat.le_trans hg0.size hg.size, fun k hk hne => (hg.block k (Nat.lt_of_lt_of_le hk hg0.size) hne).trans (hg0.block k hk hne)⟩

/-- 'out = append(out, c)': one byte. -/
theorem wpList_append_byte {t e : TypeId} (T : IsBytes P t e) (hgd : o.guard = none) (s x : Operand) (ho : o.op = .call { callee := .builtin .append, args := #[s, x], argTypes := #[t, t] })
    (w0 : World) (v : Value) (l : List UInt8) (hs : a.eval s = v) (wr : World) (N : Int) (hw : w = wr.alloc (.cells #[.int .u8 N] e)) (hown : Own wr w0.heap.size e v l) (hx : a.eval x = .slice (some ⟨wr.heap.size, 0, none⟩) 1 1)
    (h0 : 0 ≤ N) (h1 : N < 256) (hsz : l.length < 140737488355328) (hb : Below w0.heap.size w0 wr)
    (h : ∀ v' w', Own w' w0.heap.size e v' (l ++ [UInt8.ofNat N.toNat]) → wr.grownBy w' v.ownBlock → Below w0.heap.size w0 w' → wpList P ops Q rest (a.put o.dst v') w') : wpList P ops Q (o :: rest) a w := by
  subst hw
  refine wpList_append_bytes T hgd s x ho w0 v l hs (hown.alloc _) _ [UInt8.ofNat N.toNat] 1 1 hx rfl (bytes_one wr e h0 h1) (by simp; omega) (hb.alloc hb.size _) fun v' w' ho' hg hb' => h v' w' ho' (grown_of_alloc hg) hb'

/-- The same in a region that draws its order: the draw lies outside. -/
theorem step_append_byte {t e : TypeId} {K : Act → World → Prop} {E : Prop} (T : IsBytes P t e) (hgd : o.guard = none) (s x : Operand) (ho : o.op = .call { callee := .builtin .append, args := #[s, x], argTypes := #[t, t] })
    (w0 : World) (v : Value) (l : List UInt8) (hs : a.eval s = v) (wr : World) (N : Int) (hw : w = (wr.alloc (.cells #[.int .u8 N] e)).drew) (hown : Own wr w0.heap.size e v l) (hx : a.eval x = .slice (some ⟨wr.heap.size, 0, none⟩) 1 1)
    (h0 : 0 ≤ N) (h1 : N < 256) (hsz : l.length < 140737488355328) (hb : Below w0.heap.size w0 wr)
    (h : ∀ v' w', Own w' w0.heap.size e v' (l ++ [UInt8.ofNat N.toNat]) → wr.grownBy w' v.ownBlock → Below w0.heap.size w0 w' → K (a.put o.dst v') w') : if Region.wanted o (yielded ops a.tmps) = true then Oper.wp P o a w K Q else E := by
  subst hw
  refine step_append_bytes T hgd s x ho w0 v l hs (hown.alloc (.cells #[.int .u8 N] e)).drew _ [UInt8.ofNat N.toNat] 1 1 hx rfl (bytes_one wr e h0 h1).drew (by simp; omega) (hb.alloc hb.size (.cells #[.int .u8 N] e)).drew fun v' w' ho' hg hb' => h v' w' ho' (grown_of_alloc (o := .cells #[.int .u8 N] e) ⟨hg.os, hg.tape, hg.output, hg.size, hg.block⟩) hb'

/-- Bytes that are laid in a block of their own. -/
theorem bytes_lit (w : World) (e : TypeId) (m : List UInt8) : Bytes (w.alloc (.cells (m.map fun b => Value.int .u8 (b.toNat : Int)).toArray e)) (some ⟨w.heap.size, 0, none⟩) m := by
  intro _
  refine ⟨w.heap.size, 0, rfl, by simp, fun j hj => ?_⟩
  have hk := heap_alloc_new w (.cells (m.map fun b => Value.int .u8 (b.toNat : Int)).toArray e)
  rw [cell_of_row _ _ _ _ e (0, 0) hk]
  simp [List.getD, hj]

/-- 'out = append(out, c, d)': some bytes, in a region that draws its order. -/
theorem step_append_lit {t e : TypeId} {K : Act → World → Prop} {E : Prop} (T : IsBytes P t e) (hgd : o.guard = none) (s x : Operand) (ho : o.op = .call { callee := .builtin .append, args := #[s, x], argTypes := #[t, t] })
    (w0 : World) (v : Value) (l : List UInt8) (hs : a.eval s = v) (wr : World) (m : List UInt8) (hw : w = (wr.alloc (.cells (m.map fun b : UInt8 => Value.int .u8 (b.toNat : Int)).toArray e)).drew) (hown : Own wr w0.heap.size e v l) (n c : Nat) (hx : a.eval x = .slice (some ⟨wr.heap.size, 0, none⟩) n c) (hn : n = m.length)
    (hsz : l.length + m.length ≤ 140737488355328) (hb : Below w0.heap.size w0 wr)
    (h : ∀ v' w', Own w' w0.heap.size e v' (l ++ m) → wr.grownBy w' v.ownBlock → Below w0.heap.size w0 w' → K (a.put o.dst v') w') : if Region.wanted o (yielded ops a.tmps) = true then Oper.wp P o a w K Q else E := by
  subst hw
  refine step_append_bytes T hgd s x ho w0 v l hs (hown.alloc (.cells (m.map fun b : UInt8 => Value.int .u8 (b.toNat : Int)).toArray e)).drew _ m n c hx hn (bytes_lit wr e m).drew hsz (hb.alloc hb.size (.cells (m.map fun b : UInt8 => Value.int .u8 (b.toNat : Int)).toArray e)).drew fun v' w' ho' hg hb' => h v' w' ho' (grown_of_alloc (o := .cells (m.map fun b : UInt8 => Value.int .u8 (b.toNat : Int)).toArray e) ⟨hg.os, hg.tape, hg.output, hg.size, hg.block⟩) hb'

/-- 'make([]byte, n, c)'. -/
theorem wpList_make_bytes {t e : TypeId} (T : IsBytes P t e) (hgd : o.guard = none) (l c : Operand) (ho : o.op = Op.makeSlice t l c)
    (w0 : World) (L C : Int) (n k : Nat) (hl : a.eval l = .int .i64 L) (hc : a.eval c = .int .i64 C) (hL : L = (n : Int)) (hC : C = (k : Int)) (hnk : n ≤ k) (hk : k ≤ 281474976710656) (hb : Below w0.heap.size w0 w)
    (h : ∀ w', Own w' w0.heap.size e (.slice (some ⟨w.heap.size, 0, none⟩) n k) (List.replicate n 0) → w.grownBy w' none → Below w0.heap.size w0 w' → wpList P ops Q rest (a.put o.dst (.slice (some ⟨w.heap.size, 0, none⟩) n k)) w') : wpList P ops Q (o :: rest) a w := by
  obtain ⟨i, hi, hz0, hz1, hz2⟩ := info_parts T.info
  subst hL; subst hC
  refine wpList_plain hgd fun K hK => ?_
  have hrun := run_make (P := P) w t e i (.int .u8 0) T.ht hi hz0 .i64 .i64 n k (by omega) (by omega) (by rw [hz2]; omega) (by omega)
  simp only [Int.toNat_natCast, hz1] at hrun
  unfold Oper.wp
  simp [execOp, ho, hl, hc, hrun, Result.andThen]
  have e1 : madeCells #[Value.int .u8 0] k = Array.replicate k (.int .u8 0) := by
    apply Array.ext
    · simp [madeCells]
    · intro j h1 h2
      simp [madeCells, Nat.mod_one]
  refine hK _ _ (h _ ⟨by simp, .inr ⟨w.heap.size, k, _, by simp, hb.size, heap_alloc_new w _, by simpa using hnk, by unfold maxLen; omega, by simp [madeCells, Value.cells], ?_⟩⟩ (World.grownBy_alloc w _ none) (hb.alloc hb.size _))
  simp [Value.cells, e1, List.take_replicate, Nat.min_eq_left hnk]

/-- 'copy(out, x)' over a slice of the call's own that is as long as x. -/
theorem wpList_copy_bytes {t t' e : TypeId} (T : IsBytes P t e) (hgd : o.guard = none) (d s : Operand) (ho : o.op = .call { callee := .builtin .copy, args := #[d, s], argTypes := #[t, t'] })
    (w0 : World) (A0 : Option Addr) (n k : Nat) (l0 : List UInt8) (hd : a.eval d = .slice A0 n k) (hown : Own w w0.heap.size e (.slice A0 n k) l0)
    (A : Option Addr) (m c : Nat) (l : List UInt8) (hs : a.eval s = .slice A m c) (hm : m = l.length) (hnl : l0.length = l.length) (hl : Bytes w A l) (hb : Below w0.heap.size w0 w)
    (h : ∀ w', Own w' w0.heap.size e (.slice A0 n k) l → w.grownBy w' (Value.slice A0 n k).ownBlock → Below w0.heap.size w0 w' → wpList P ops Q rest (a.put o.dst (.int .i64 l.length)) w') : wpList P ops Q (o :: rest) a w := by
  obtain ⟨i, hi, hz0, hz1, hz2⟩ := info_parts T.info
  have hsz : (P.info? e).map (·.size) = some 1 := by rw [hi]; simp [hz1]
  subst hm
  obtain ⟨A1, c1, hv, h1, h2⟩ := hown.form
  simp only [Value.slice.injEq] at hv
  obtain ⟨rfl, rfl, rfl⟩ := hv
  by_cases hl0 : l = []
  · subst hl0
    have h00 : l0 = [] := List.eq_nil_of_length_eq_zero (by simpa using hnl)
    subst h00
    refine wpList_copy_nothing hgd d s t t' ho e T.ht hsz A0 A 0 k 0 c hd hs rfl ?_
    exact h w hown (World.grownBy.refl _ _) hb
  · obtain ⟨b, off, rfl, hlt, hc⟩ := hl hl0
    have hpos : 0 < l.length := List.length_pos_iff.2 hl0
    rcases hown.2 with ⟨hv, hn⟩ | ⟨g, cap, cur, hv, hbg, hg, hnc, hcm, hcs, htake⟩
    · omega
    · simp only [Value.slice.injEq, true_and] at hv
      obtain ⟨rfl, rfl⟩ := hv
      refine wpList_copy_own hgd d s t t' ho e T.ht hsz g 0 l0.length k ⟨b, off, none⟩ l.length c hd hs cur e hg (l.map fun b => Value.int .u8 (b.toNat : Int)) (by simp [hnl]) ?_ (by simp; omega) (cells_oneCell l) ?_
      · intro j u hu
        obtain ⟨hj, rfl⟩ := getElem?_cells hu
        rw [Addr.add_lit]
        exact hc j hj
      · have hg' := setRow_heap w g cur (cur.toList.take 0 ++ ((l.map fun b => Value.int .u8 (b.toNat : Int)) ++ cur.toList.drop (0 + (l.map fun b => Value.int .u8 (b.toNat : Int)).length))).toArray e (0, 0) hg
        rw [List.length_map] at hg' ⊢
        refine h _ ⟨by simp, .inr ⟨g, k, _, by rw [hnl], hbg, hg', by omega, hcm, ?_, ?_⟩⟩ ⟨rfl, rfl, rfl, by simp, fun j _ hk => setRow_other w g j _ (fun e => hk (by simp [Value.ownBlock, e]))⟩ (below_setRow hb hbg _)
        · simp at hcs ⊢; omega
        · simp
end

/-! ### Numbers out of bytes -/

/-- The number that bytes say, the first one the highest. -/
def num (l : List UInt8) : Nat := l.foldl (fun a b => a * 256 + b.toNat) 0
theorem num_nil : num [] = 0 := rfl
theorem num_snoc (l : List UInt8) (b : UInt8) : num (l ++ [b]) = num l * 256 + b.toNat := by simp [num]
theorem num_lt : ∀ (n : Nat) (l : List UInt8), l.length = n → num l < 256 ^ n := by
  intro n
  induction n with
  | zero => intro l h; obtain rfl := List.eq_nil_of_length_eq_zero h; simp [num]
  | succ n ih =>
    intro l h
    obtain ⟨l', b, rfl⟩ : ∃ l' b, l = l' ++ [b] := ⟨l.dropLast, l.getLast (by intro e; subst e; simp at h), (List.dropLast_concat_getLast _).symm⟩
    have h1 := ih l' (by simpa using h)
    have h2 := b.toNat_lt
    rw [num_snoc, Nat.pow_succ]
    omega
theorem num_lt4 {l : List UInt8} (h : l.length ≤ 4) : num l < 4294967296 := by
  have h1 := num_lt l.length l rfl
  have h2 : 256 ^ l.length ≤ 256 ^ 4 := Nat.pow_le_pow_right (by decide) h
  have h3 : (256 : Nat) ^ 4 = 4294967296 := by decide
  omega
theorem num_lt3 {l : List UInt8} (h : l.length ≤ 3) : num l < 16777216 := by
  have h1 := num_lt l.length l rfl
  have h2 : 256 ^ l.length ≤ 256 ^ 3 := Nat.pow_le_pow_right (by decide) h
  have h3 : (256 : Nat) ^ 3 = 16777216 := by decide
  omega
theorem take_snoc (l : List UInt8) (k : Nat) (h : k < l.length) : l.take (k + 1) = l.take k ++ [l.getD k 0] := by
  rw [List.take_succ_eq_append_getElem h]
  simp [h]
theorem num_take (l : List UInt8) (k : Nat) (h : k < l.length) : num (l.take (k + 1)) = num (l.take k) * 256 + l[k].toNat := by
  rw [take_snoc l k h, num_snoc]
  simp [h]
theorem num_step (l : List UInt8) (k : Nat) (hk : k < l.length) (hl : l.length ≤ 4) :
    bits .or .u32 ((num (l.take k) : Nat) * 256 % 4294967296 : Int) ((l[k].toNat : Int) % 4294967296) = ((num (l.take (k + 1)) : Nat) : Int) := by
  have h1 := num_lt3 (l := l.take k) (by simp; omega)
  have h2 := (l[k]).toNat_lt
  rw [num_take l k hk]
  have e1 : ((num (l.take k) : Nat) * 256 % 4294967296 : Int) = ((num (l.take k) * 256 : Nat) : Int) := by omega
  have e2 : ((l[k].toNat : Int) % 4294967296) = ((l[k].toNat : Nat) : Int) := by omega
  rw [e1, e2, u32_or_nat _ _ (by omega) (by omega), nat_join 8 _ _ (by omega) (by omega)]
end Go.Proofs.YtnaangnmlbgmkaaGreatDoor

/-
  Masks, prefixes and their bits, as numbers; no program stands here.
-/
namespace Go.Proofs.YtnaangnmlbgmkaaGreatDoor
set_option linter.unusedVariables false
set_option linter.unusedSimpArgs false

/-- A length brought between 0 and 32. -/
def cl (n : Int) : Nat := (if n < 0 then 0 else if 32 < n then 32 else n).toNat
theorem cl_le (n : Int) : cl n ≤ 32 := by unfold cl; split <;> (try split) <;> omega
theorem cl_of {n : Int} (h0 : 0 ≤ n) (h1 : n ≤ 32) : ((cl n : Nat) : Int) = n := by unfold cl; rw [if_neg (by omega), if_neg (by omega)]; omega
theorem cl_nat {k : Nat} (h : k ≤ 32) : cl (k : Int) = k := by have := cl_of (n := (k : Int)) (by omega) (by omega); omega
theorem cl_neg {n : Int} (h : n < 0) : cl n = 0 := by unfold cl; rw [if_pos h]; rfl
theorem cl_big {n : Int} (h : 32 < n) : cl n = 32 := by unfold cl; rw [if_neg (by omega), if_pos h]; rfl

/-- The number whose first k bits are 1. -/
def maskN (k : Nat) : Nat := 4294967296 - 2 ^ (32 - k)
/-- The first k bits of a number, noughts behind them. -/
def hi (a k : Nat) : Nat := a / 2 ^ (32 - k) * 2 ^ (32 - k)
/-- A right prefix. -/
def okPx (a n : Int) : Bool := decide (0 ≤ n ∧ n ≤ 32 ∧ hi a.toNat n.toNat = a.toNat)

theorem pow_le32 (k : Nat) : 2 ^ (32 - k) ≤ 4294967296 := by
  have h1 : 2 ^ (32 - k) ≤ 2 ^ 32 := Nat.pow_le_pow_right (by decide) (by omega)
  have h2 : (2 : Nat) ^ 32 = 4294967296 := by decide
  omega
theorem maskN_lt (k : Nat) : maskN k < 4294967296 := by
  have h1 : 0 < 2 ^ (32 - k) := Nat.pow_pos (by decide)
  unfold maskN; omega
theorem hi_le (a k : Nat) : hi a k ≤ a := Nat.div_mul_le_self _ _
theorem maskN_shift {k : Nat} (h : k ≤ 32) : maskN k = (2 ^ k - 1) <<< (32 - k) := by
  have h1 : 2 ^ k * 2 ^ (32 - k) = 4294967296 := by rw [← Nat.pow_add, Nat.add_sub_cancel' h]
  rw [Nat.shiftLeft_eq, Nat.sub_mul, h1]
  unfold maskN; omega
theorem and_mask {a k : Nat} (ha : a < 4294967296) (h : k ≤ 32) : a &&& maskN k = hi a k := by
  rw [maskN_shift h]
  have e : hi a k = (a >>> (32 - k)) <<< (32 - k) := by unfold hi; rw [Nat.shiftLeft_eq, Nat.shiftRight_eq_div_pow]
  rw [e]
  apply Nat.eq_of_testBit_eq
  intro i
  rw [Nat.testBit_and, Nat.testBit_shiftLeft, Nat.testBit_shiftLeft, Nat.testBit_two_pow_sub_one, Nat.testBit_shiftRight]
  by_cases hi1 : 32 - k ≤ i
  · have e2 : 32 - k + (i - (32 - k)) = i := by omega
    rw [e2]
    by_cases hi2 : i < 32
    · have h3 : i - (32 - k) < k := by omega
      simp [hi1, h3]
    · have h4 : a.testBit i = false := by
        apply Nat.testBit_lt_two_pow
        have h5 : 2 ^ 32 ≤ 2 ^ i := Nat.pow_le_pow_right (by decide) (by omega)
        have h6 : (2 : Nat) ^ 32 = 4294967296 := by decide
        omega
      simp [h4]
  · simp [hi1]
theorem andNot_mask {a k : Nat} (h : k ≤ 32) : a &&& (4294967295 - maskN k) = a % 2 ^ (32 - k) := by
  have h1 := pow_le32 k
  have h2 : 0 < 2 ^ (32 - k) := Nat.pow_pos (by decide)
  have e : 4294967295 - maskN k = 2 ^ (32 - k) - 1 := by unfold maskN; omega
  rw [e, Nat.and_two_pow_sub_one_eq_mod]
theorem hi_eq_iff (a k : Nat) : hi a k = a ↔ a % 2 ^ (32 - k) = 0 := by
  have h := Nat.div_add_mod a (2 ^ (32 - k))
  unfold hi
  rw [Nat.mul_comm] at h
  omega
theorem hi_hi (a k : Nat) : hi (hi a k) k = hi a k := by
  unfold hi
  rw [Nat.mul_div_cancel _ (Nat.pow_pos (by decide))]
theorem hi_zero {a : Nat} (h : a < 4294967296) : hi a 0 = 0 := by
  unfold hi
  have : a / 2 ^ (32 - 0) = 0 := Nat.div_eq_of_lt (by simpa using h)
  rw [this, Nat.zero_mul]
end Go.Proofs.YtnaangnmlbgmkaaGreatDoor

/-
  One byte appended behind a block of the call's own; blocks that an append leaves.
-/
namespace Go.Proofs.YtnaangnmlbgmkaaGreatDoor
set_option linter.unusedVariables false
set_option linter.unusedSimpArgs false
open Go.RowKit

theorem wpList_append_byte_at {P : Program} {w : World} {ops : Array Oper} {rest : List Oper} {o : Oper} {a : Act} {Q : Exit → Act → World → Prop} {t e : TypeId} (T : IsBytes P t e) (hgd : o.guard = none) (s x : Operand) (ho : o.op = .call { callee := .builtin .append, args := #[s, x], argTypes := #[t, t] })
    (w0 : World) (v : Value) (l : List UInt8) (hs : a.eval s = v) (wr : World) (N : Int) (hw : w = wr.alloc (.cells #[.int .u8 N] e)) (hown : Own wr w0.heap.size e v l) (H : Nat) (hx : a.eval x = .slice (some ⟨H, 0, none⟩) 1 1) (hH : wr.heap.size = H)
    (h0 : 0 ≤ N) (h1 : N < 256) (hsz : l.length < 140737488355328) (hb : Below w0.heap.size w0 wr)
    (h : ∀ v' w', Own w' w0.heap.size e v' (l ++ [UInt8.ofNat N.toNat]) → wr.grownBy w' v.ownBlock → Below w0.heap.size w0 w' → wpList P ops Q rest (a.put o.dst v') w') : wpList P ops Q (o :: rest) a w := by
  subst hH
  exact wpList_append_byte T hgd s x ho w0 v l hs wr N hw hown hx h0 h1 hsz hb h
theorem Own.ne_blk {w : World} {B e g T : Nat} {v : Value} {l : List UInt8} {cs : List Value} (h : Own w B e v l) (hk : Blk w g T cs) (hne : e ≠ T) : v.ownBlock ≠ some g := by
  intro he
  rcases h.2 with ⟨rfl, _⟩ | ⟨k, cap, cur, rfl, _, hr, _⟩
  · cases he
  · obtain rfl : k = g := by simpa [Value.ownBlock] using he
    have h2 := hr.symm.trans hk
    simp only [Option.some.injEq, Obj.cells.injEq] at h2
    exact hne h2.2.1
theorem Blk.row {w w' : World} {g T : Nat} {cs : List Value} {r : Option Nat} (hk : Blk w g T cs) (hg : w.grownBy w' r) (hne : r ≠ some g) : Blk w' g T cs := (hg.block g hk.lt (by intro e; exact hne e.symm)).trans hk
end Go.Proofs.YtnaangnmlbgmkaaGreatDoor

/-
  A region that draws its order, by an invariant: each operation's value is told of the operations that it waits for, whatever else has been done; no program stands here.
-/
namespace Go.Proofs.YtnaangnmlbgmkaaGreatDoor
set_option linter.unusedVariables false
set_option linter.unusedSimpArgs false

/-- What one operation comes to: some value in some world, of which Post holds. -/
def OpTo (P : Program) (o : Oper) (ev : Operand → Value) (w : World) (Post : Value → World → Prop) : Prop :=
  match (execOp ev o).run P w with
  | .ok (.value v) w' => Post v w'
  | .ok .skip w' => Post undef w'
  | .ok (.enter f args) w' => w' = w ∧ Calls P f args w fun e w'' => ∃ v, e = .returned v ∧ Post v w''
  | _ => False
theorem opTo_wp {P : Program} {o : Oper} {a : Act} {w : World} {Post : Value → World → Prop} {K : Act → World → Prop} {Q : Exit → Act → World → Prop} (h : OpTo P o a.eval w Post) (hK : ∀ v w', Post v w' → K (a.put o.dst v) w') : o.wp P a w K Q := by
  unfold OpTo at h
  unfold Oper.wp
  generalize (execOp a.eval o).run P w = r at h
  split at h
  · rw [Oper.upon_value]; exact hK _ _ h
  · rw [Oper.upon_skip]; exact hK _ _ h
  · obtain ⟨rfl, h⟩ := h
    rw [Oper.upon_enter]
    refine h.mono ?_
    rintro e w'' ⟨v, rfl, hp⟩
    exact hK _ _ hp
  · exact h.elim

/-- Nothing is guarded, each operation waits for earlier ones alone, and each writes a slot of its own. -/
def flowB (ops : Array Oper) (n : Nat) : Bool :=
  (ops.toList.all fun o => o.guard.isNone) && ((List.range ops.size).all fun j => match ops[j]? with
    | some o => (o.after.all fun e => decide (e.on < j)) && (match o.dst with
      | none => true
      | some s => decide (s < n) && ((List.range j).all fun i => match ops[i]? with
        | some o' => !(o'.dst == some s)
        | none => true))
    | none => true)
/-- No operation writes the slot s. -/
def freeB (ops : Array Oper) (s : Nat) : Bool := ops.toList.all fun o => !(o.dst == some s)
/-- The slot that an operation writes. -/
def slotOf (o : Oper) (a : Act) : Value := match o.dst with
  | some s => a.tmps.getD s undef
  | none => undef
/-- What a slot sees of a value. -/
def seen (o : Oper) (v : Value) : Value := match o.dst with
  | some _ => v
  | none => undef
def waitsB (o : Oper) (j : Nat) : Bool := o.after.any fun e => Region.binds .any e && e.on == j

section
variable {P : Program} {ops : Array Oper}
theorem flow_spec {n : Nat} (h : flowB ops n = true) : (∀ (i : Nat) (o : Oper), ops[i]? = some o → o.guard = none) ∧ (∀ (j : Nat) (o : Oper), ops[j]? = some o → ∀ e ∈ o.after, e.on < j) ∧ (∀ (j : Nat) (o : Oper) (s : Tmp), ops[j]? = some o → o.dst = some s → s < n) ∧
    ∀ (i j : Nat) (o o' : Oper) (s : Tmp), ops[i]? = some o → ops[j]? = some o' → o.dst = some s → o'.dst = some s → i = j := by
  unfold flowB at h
  simp only [Bool.and_eq_true, List.all_eq_true, List.mem_range] at h
  obtain ⟨h1, h2⟩ := h
  have at_ : ∀ (j : Nat) (o : Oper), ops[j]? = some o → (∀ e ∈ o.after, e.on < j) ∧ ∀ s, o.dst = some s → s < n ∧ ∀ i, i < j → ∀ o' : Oper, ops[i]? = some o' → o'.dst ≠ some s := by
    intro j o hj
    have hlt := (Array.getElem?_eq_some_iff.1 hj).1
    have h3 := h2 j hlt
    rw [hj] at h3
    simp only [Bool.and_eq_true] at h3
    obtain ⟨h4, h5⟩ := h3
    refine ⟨fun e he => by simpa using (Array.all_eq_true_iff_forall_mem.1 h4) e he, fun s hs => ?_⟩
    rw [hs] at h5
    simp only [Bool.and_eq_true, decide_eq_true_eq, List.all_eq_true, List.mem_range] at h5
    refine ⟨h5.1, fun i hi o' ho' e => ?_⟩
    have h6 := h5.2 i hi
    rw [ho'] at h6
    simp [e] at h6
  refine ⟨fun i o hi => ?_, fun j o hj => (at_ j o hj).1, fun j o s hj hs => ((at_ j o hj).2 s hs).1, fun i j o o' s hi hj hs hs' => ?_⟩
  · have := h1 o (Array.mem_toList_iff.2 (Array.mem_of_getElem? hi))
    simpa using this
  · rcases Nat.lt_trichotomy i j with h7 | h7 | h7
    · exact absurd hs (((at_ j o' hj).2 s hs').2 i h7 o hi)
    · exact h7
    · exact absurd hs' (((at_ i o hi).2 s hs).2 j h7 o' hj)

theorem ready_nil_all {listed : Array Bool} (hs : listed.size = ops.size) (hb : ∀ (j : Nat) (o : Oper), ops[j]? = some o → ∀ e ∈ o.after, e.on < j) (hr : Region.ready .any ops listed = []) : ∀ j, j < ops.size → listed.getD j false = true := by
  intro j
  induction j using Nat.strongRecOn with
  | _ j ih =>
    intro hj
    cases hl : listed.getD j false with
    | true => rfl
    | false =>
      exfalso
      have hmem : j ∈ Region.ready .any ops listed := by
        rw [mem_ready]
        refine ⟨getD_in' (by omega) hl, ops[j], Array.getElem?_eq_getElem hj, fun e he _ => ?_⟩
        have h2 := hb j ops[j] (Array.getElem?_eq_getElem hj) e he
        exact ih e.on h2 (by omega)
      rw [hr] at hmem
      cases hmem
where
  getD_in' {listed : Array Bool} {i : Nat} (hi : i < listed.size) (h : listed.getD i false = false) : listed.getD i true = false := by
    simp [hi] at h ⊢; exact h

def leftN (listed : Array Bool) : Nat := listed.toList.count false
theorem leftN_set {listed : Array Bool} {i : Nat} (h : listed.getD i true = false) : leftN (listed.setIfInBounds i true) + 1 = leftN listed := by
  have hi : i < listed.size := by
    rcases Nat.lt_or_ge i listed.size with h' | h'
    · exact h'
    · simp [Array.getElem?_eq_none h'] at h
  have hv : listed.toList[i]'(by simpa using hi) = false := by
    simp [hi] at h
    simpa using h
  unfold leftN
  rw [Array.toList_setIfInBounds, List.count_set (by simpa using hi), hv]
  have hc : 0 < listed.toList.count false := List.count_pos_iff.2 (by rw [← hv]; exact List.getElem_mem _)
  have e1 : (if (false == false) = true then 1 else 0) = 1 := rfl
  have e2 : (if (true == false) = true then 1 else 0) = 0 := rfl
  rw [e1, e2]
  omega

theorem wpAny_inv {Q : Exit → Act → World → Prop} (I : Array Bool → Act → World → Prop)
    (hstep : ∀ (listed : Array Bool) (a : Act) (w : World) (i : Nat) (o : Oper), I listed a w → i ∈ Region.ready .any ops listed → ops[i]? = some o → wpOp P ops Q i (fun a' w' => I (listed.setIfInBounds i true) a' w') a w)
    (hdone : ∀ listed a w, I listed a w → Region.ready .any ops listed = [] → Q .normal a w) :
    ∀ (fuel : Nat) (listed : Array Bool) (a : Act) (w : World), leftN listed ≤ fuel → listed.size = ops.size → I listed a w → wpAny P .any ops Q fuel listed a w
  | 0, listed, a, w, hf, hs, hI => by
    have hr : Region.ready .any ops listed = [] := by
      apply List.eq_nil_iff_forall_not_mem.2
      intro i hi
      have := leftN_set (mem_ready.1 hi).1
      omega
    exact ⟨hr, hdone _ _ _ hI hr⟩
  | fuel + 1, listed, a, w, hf, hs, hI => by
    refine ⟨fun hr => hdone _ _ _ hI hr, fun i hi => ?_⟩
    have hm := mem_ready.1 hi
    obtain ⟨o, ho, _⟩ := hm.2
    have h1 := leftN_set hm.1
    exact wpOp_mono (fun a' w' h' => wpAny_inv I hstep hdone fuel _ a' w' (by omega) (by simpa using hs) h') (hstep _ _ _ _ _ hI hi ho)

/-- THE LAW. -/
theorem region_flow {Q : Exit → Act → World → Prop} {id : Nat} {a0 : Act} {w0 : World} (hm : P.follows .mixedOrders = true)
    (D : Nat → World → Value → Prop) (R : World → World → Prop) (Inv : World → Prop)
    (hD : ∀ i w w' v, D i w v → R w w' → D i w' v) (hI : ∀ w w', Inv w → R w w' → Inv w')
    (hshape : flowB ops a0.tmps.size = true) (hI0 : Inv w0.drew)
    (hstep : ∀ (i : Nat) (o : Oper), ops[i]? = some o → ∀ (a : Act) (w : World), Inv w → (∀ s, freeB ops s = true → a.tmps.getD s undef = a0.tmps.getD s undef) →
      (∀ (j : Nat) (oj : Oper) (s : Tmp), ops[j]? = some oj → oj.dst = some s → waitsB o j = true → D j w (a.tmps.getD s undef)) → OpTo P o a.eval w (fun v w' => R w w' ∧ D i w' (seen o v)))
    (hdone : ∀ (a : Act) (w : World), Inv w → (∀ s, freeB ops s = true → a.tmps.getD s undef = a0.tmps.getD s undef) → a.tmps.size = a0.tmps.size → a.defers = a0.defers →
      (∀ (j : Nat) (oj : Oper), ops[j]? = some oj → D j w (slotOf oj a)) → Q .normal a w) :
    (Code.region id ops true).wp P Q a0 w0 := by
  obtain ⟨hg, hb, hn, hd⟩ := flow_spec hshape
  refine wp_region_any hm ?_
  refine wpAny_inv (fun listed a w => listed.size = ops.size ∧ Inv w ∧ (∀ s, freeB ops s = true → a.tmps.getD s undef = a0.tmps.getD s undef) ∧ a.tmps.size = a0.tmps.size ∧ a.defers = a0.defers ∧
    ∀ (j : Nat) (oj : Oper), ops[j]? = some oj → listed.getD j false = true → D j w (slotOf oj a)) ?_ ?_ _ _ _ _ ?_ (by simp) ?_
  · rintro listed a w i o ⟨hs, hInv, hf, hz, hdf, hl⟩ hi ho
    have hm' := mem_ready.1 hi
    obtain ⟨o', ho', hw⟩ := hm'.2
    obtain rfl : o = o' := Option.some.inj (ho.symm.trans ho')
    unfold wpOp
    rw [ho]
    have hwant : Region.wanted o (yielded ops a.tmps) = true := by simp [Region.wanted, hg i o ho]
    simp only [hwant, if_true]
    refine .inl (opTo_wp (hstep i o ho a w hInv hf (fun j oj s hj hjs hwt => ?_)) ?_)
    · unfold waitsB at hwt
      rw [Array.any_eq_true'] at hwt
      obtain ⟨e, he, hb2⟩ := hwt
      simp only [Bool.and_eq_true, beq_iff_eq] at hb2
      have := hl j oj hj (by rw [← hb2.2]; exact hw e he hb2.1)
      unfold slotOf at this
      rw [hjs] at this
      exact this
    · rintro v w' ⟨hR, hDi⟩
      have other : ∀ s, o.dst ≠ some s → (a.put o.dst v).tmps.getD s undef = a.tmps.getD s undef := by
        intro s hs'
        cases hdst : o.dst with
        | none => rfl
        | some d =>
          have hne : d ≠ s := fun e => hs' (by rw [hdst, e])
          simp [Act.put, Array.getD_eq_getD_getElem?, Array.getElem?_setIfInBounds, hne]
      refine ⟨by simpa using hs, hI _ _ hInv hR, fun s hsf => ?_, ?_, ?_, fun j oj hj hlj => ?_⟩
      · rw [other s ?_]
        · exact hf s hsf
        · intro e
          unfold freeB at hsf
          have := List.all_eq_true.1 hsf o (Array.mem_toList_iff.2 (Array.mem_of_getElem? ho))
          simp [e] at this
      · rw [← hz]
        cases o.dst <;> simp [Act.put]
      · rw [← hdf]
        cases o.dst <;> rfl
      · by_cases hji : j = i
        · subst hji
          obtain rfl : o = oj := Option.some.inj (ho.symm.trans hj)
          unfold seen at hDi
          unfold slotOf
          cases hdst : o.dst with
          | none => rw [hdst] at hDi; exact hDi
          | some d =>
            rw [hdst] at hDi
            have hlt : d < a.tmps.size := by rw [hz]; exact hn j o d ho hdst
            simpa [Act.put, Array.getD_eq_getD_getElem?, Array.getElem?_setIfInBounds, hlt] using hDi
        · have hlj' : listed.getD j false = true := by
            simpa [Array.getD_eq_getD_getElem?, Array.getElem?_setIfInBounds, Ne.symm hji] using hlj
          have h3 := hD j w w' _ (hl j oj hj hlj') hR
          unfold slotOf at h3 ⊢
          cases hdj : oj.dst with
          | none => rw [hdj] at h3; exact h3
          | some s =>
            rw [hdj] at h3
            simp only at h3 ⊢
            rw [other s (fun e => hji (hd j i oj o s hj ho hdj e))]
            exact h3
  · rintro listed a w ⟨hs, hInv, hf, hz, hdf, hl⟩ hr
    exact hdone a w hInv hf hz hdf fun j oj hj => hl j oj hj (ready_nil_all hs hb hr j (Array.getElem?_eq_some_iff.1 hj).1)
  · unfold leftN; simp
  · refine ⟨by simp, hI0, fun _ _ => rfl, rfl, rfl, fun j oj hj hl => ?_⟩
    exfalso
    have hlt := (Array.getElem?_eq_some_iff.1 hj).1
    simp [hlt] at hl
end
end Go.Proofs.YtnaangnmlbgmkaaGreatDoor

/-
  What is said of every seat that knows bytes: its []byte; what a call leaves that returns bytes of its own making.
-/
namespace Go.Proofs.YtnaangnmlbgmkaaGreatDoor
open Go.RowKit

theorem isBytes : IsBytes Tryz.prog 33 5 := ⟨Tryz.underlying33, Tryz.underlying5, by kernel_rfl⟩
/-- What a call leaves that returns bytes of its own making. -/
def RetBytes (w : World) (l : List UInt8) (e : Ending) (w' : World) : Prop :=
  ∃ A c, e = .returned (.slice A l.length c) ∧ l.length ≤ c ∧ c ≤ maxLen ∧ Own w' w.heap.size 5 (.slice A l.length c) l ∧ Below w.heap.size w w'
theorem ret_own {w w' : World} {A : Option Addr} {n c : Nat} {l l' : List UInt8} (hn : n = l.length) (h1 : l.length ≤ c) (h2 : c ≤ maxLen) (ho : Own w' w.heap.size 5 (.slice A l.length c) l) (hb : Below w.heap.size w w') (hl : l = l') : RetBytes w l' (.returned (.slice A n c)) w' := by
  subst hl; subst hn
  exact ⟨A, c, rfl, h1, h2, ho, hb⟩
end Go.Proofs.YtnaangnmlbgmkaaGreatDoor

/-
  Parts of a path in memory: lists of numbers of four bytes, lists of segments.
-/
namespace Go.Proofs.YtnaangnmlbgmkaaGreatDoor
set_option linter.unusedVariables false
open Go.RowKit

/-- The slice's address A leads to the numbers z (of four bytes each), in a block below B. -/
def At32 (w : World) (B : Nat) (A : Option Addr) (z : List Nat) : Prop :=
  z ≠ [] → ∃ b off, A = some ⟨b, off, none⟩ ∧ b < B ∧ ∀ j, j < z.length → w.cell? ⟨b, off + j, none⟩ = some (.int .u32 ((z.getD j 0 : Nat) : Int))
section
variable {w w' : World} {A : Option Addr} {z : List Nat} {B : Nat}
theorem At32.nil (w : World) (B : Nat) (A : Option Addr) : At32 w B A [] := fun h => absurd rfl h
theorem At32.lift {B' : Nat} (h : At32 w B A z) (hB : B ≤ B') : At32 w B' A z := fun hl => by
  obtain ⟨b, off, rfl, hlt, hc⟩ := h hl
  exact ⟨b, off, rfl, Nat.lt_of_lt_of_le hlt hB, hc⟩
theorem At32.below {B' : Nat} (h : At32 w B A z) (hb : Below B' w w') (hB : B ≤ B') : At32 w' B A z := by
  intro hl
  obtain ⟨b, off, rfl, hlt, hc⟩ := h hl
  exact ⟨b, off, rfl, hlt, fun j hj => (hb.cell (p := ⟨b, off + j, none⟩) (Nat.lt_of_lt_of_le hlt hB)).trans (hc j hj)⟩
theorem At32.cell (h : At32 w B A z) {k : Nat} (hk : k < z.length) : ∃ b off, A = some ⟨b, off, none⟩ ∧ b < B ∧ w.cell? ⟨b, off + k, none⟩ = some (.int .u32 ((z.getD k 0 : Nat) : Int)) := by
  obtain ⟨b, off, hA, hlt, hc⟩ := h (by intro e; subst e; simp at hk)
  exact ⟨b, off, hA, hlt, hc k hk⟩
theorem At32.take (h : At32 w B A z) (k : Nat) : At32 w B A (z.take k) := by
  intro hl
  obtain ⟨b, off, rfl, hlt, hcell⟩ := h (by intro e; subst e; simp at hl)
  refine ⟨b, off, rfl, hlt, fun j hj => ?_⟩
  have hj' : j < k ∧ j < z.length := by simpa [List.length_take, Nat.lt_min] using hj
  rw [hcell j hj'.2]
  simp [List.getD, hj'.1]

/-- A segment as it lies in memory: its kind, and the slice of its numbers. -/
structure Sg where
  kind : Int
  adr : Option Addr
  cap : Nat
  nums : List Nat
def Sg.agg (s : Sg) : Value := .agg #[.int .i64 s.kind, .slice s.adr s.nums.length s.cap]
/-- What may be said of a segment whose numbers lie below B. -/
def Sg.Ok (w : World) (B : Nat) (s : Sg) : Prop := s.nums.length ≤ s.cap ∧ s.cap ≤ maxLen ∧ At32 w B s.adr s.nums ∧ (∀ x ∈ s.nums, x < 4294967296) ∧ (-9223372036854775808 ≤ s.kind ∧ s.kind ≤ 9223372036854775807)
theorem Sg.Ok.below {B' : Nat} {s : Sg} (h : Sg.Ok w B s) (hb : Below B' w w') (hB : B ≤ B') : Sg.Ok w' B s := ⟨h.1, h.2.1, h.2.2.1.below hb hB, h.2.2.2⟩
theorem Sg.Ok.lift {B' : Nat} {s : Sg} (h : Sg.Ok w B s) (hB : B ≤ B') : Sg.Ok w B' s := ⟨h.1, h.2.1, h.2.2.1.lift hB, h.2.2.2⟩
/-- The slice's address A leads to the segments L, in a block below B, and so do their own slices. -/
def Segs (w : World) (B : Nat) (A : Option Addr) (L : List Sg) : Prop :=
  L ≠ [] → ∃ b off, A = some ⟨b, off, none⟩ ∧ b < B ∧ ∀ (j : Nat) (s : Sg), L[j]? = some s →
    w.cell? ⟨b, off + j * 2, none⟩ = some (.int .i64 s.kind) ∧ w.cell? ⟨b, off + j * 2 + 1, none⟩ = some (.slice s.adr s.nums.length s.cap) ∧ Sg.Ok w B s
theorem Segs.nil (w : World) (B : Nat) (A : Option Addr) : Segs w B A [] := fun h => absurd rfl h
theorem Segs.below {L : List Sg} {B' : Nat} (h : Segs w B A L) (hb : Below B' w w') (hB : B ≤ B') : Segs w' B A L := by
  intro hl
  obtain ⟨b, off, rfl, hlt, hc⟩ := h hl
  refine ⟨b, off, rfl, hlt, fun j s hj => ?_⟩
  obtain ⟨h1, h2, h3⟩ := hc j s hj
  exact ⟨(hb.cell (p := ⟨b, off + j * 2, none⟩) (Nat.lt_of_lt_of_le hlt hB)).trans h1, (hb.cell (p := ⟨b, off + j * 2 + 1, none⟩) (Nat.lt_of_lt_of_le hlt hB)).trans h2, h3.below hb hB⟩
theorem Segs.lift {L : List Sg} {B' : Nat} (h : Segs w B A L) (hB : B ≤ B') : Segs w B' A L := fun hl => by
  obtain ⟨b, off, rfl, hlt, hc⟩ := h hl
  exact ⟨b, off, rfl, Nat.lt_of_lt_of_le hlt hB, fun j s hj => ⟨(hc j s hj).1, (hc j s hj).2.1, (hc j s hj).2.2.lift hB⟩⟩
theorem Segs.at {L : List Sg} (h : Segs w B A L) {j : Nat} {s : Sg} (hj : L[j]? = some s) : ∃ b off, A = some ⟨b, off, none⟩ ∧ b < B ∧
    w.cell? ⟨b, off + j * 2, none⟩ = some (.int .i64 s.kind) ∧ w.cell? ⟨b, off + j * 2 + 1, none⟩ = some (.slice s.adr s.nums.length s.cap) ∧ Sg.Ok w B s := by
  obtain ⟨b, off, hA, hlt, hc⟩ := h (by intro e; subst e; simp at hj)
  exact ⟨b, off, hA, hlt, hc j s hj⟩
end

/-- How many numbers a path has, none of its parts counted for more than 300. -/
def fewN (L : List Sg) : Nat := (L.map fun s => min s.nums.length 300).sum
theorem fewN_take {L : List Sg} {j : Nat} {s : Sg} (h : L[j]? = some s) : fewN (L.take (j + 1)) = fewN (L.take j) + min s.nums.length 300 := by
  have hj := (List.getElem?_eq_some_iff.1 h).1
  rw [List.take_succ_eq_append_getElem hj]
  have e : L[j] = s := (List.getElem?_eq_some_iff.1 h).2
  simp [fewN, e]
theorem fewN_le (L : List Sg) (j : Nat) : fewN (L.take j) ≤ fewN L := by
  have e : fewN L = fewN (L.take j) + fewN (L.drop j) := by
    unfold fewN
    rw [← List.sum_append, ← List.map_append, List.take_append_drop]
  omega
/-- Is a path short enough? -/
def fewB (L : List Sg) : Bool := decide (L.length ≤ 12 ∧ fewN L ≤ 300)

set_option maxHeartbeats 1600000 in
theorem Few_any (A : Option Addr) (c : Nat) (L : List Sg) (w : World) (h : Segs w w.heap.size A L) :
    Calls Tryz.prog 38 #[.slice A L.length c] w fun e w' => e = .returned (.bool (fewB L)) ∧ w = w' := by
  have HS := Lib.hid h; clear h
  by_cases h12 : L.length ≤ 12
  · have h12I : ¬ (12 : Int) < (L.length : Int) := by omega
    go_enter Tryz.func38, Tryz.ntmps38
    go_wp2_with fail
    go_loop [3, 4] (fun n i => ∃ j : Nat, j ≤ L.length ∧ i = .int .i64 (j : Int) ∧ n = .int .i64 ((fewN (L.take j) : Nat) : Int) ∧ fewN (L.take j) ≤ 300) (fun _ i => L.length - (intOf i).toNat)
    case atStart => exact ⟨0, Nat.zero_le _, rfl, by simp [fewN], by simp [fewN]⟩
    case round =>
      obtain ⟨j, hj, rfl, rfl, hn⟩ := hrel
      by_cases hlt : j < L.length
      · obtain ⟨s, hs⟩ : ∃ s, L[j]? = some s := ⟨_, List.getElem?_eq_getElem hlt⟩
        obtain ⟨b, off, rfl, hb, k1, k2, hok⟩ := HS.out.at hs
        have hstep := fewN_take hs
        have hln := hok.1
        have hcm := hok.2.1
        unfold maxLen at hcm
        have hle := fewN_le L (j + 1)
        clear hok
        by_cases h300 : s.nums.length ≤ 300
        · have e1 : min s.nums.length 300 = s.nums.length := by omega
          have e2 : ¬ (300 : Int) < (s.nums.length : Int) := by omega
          rw [e1] at hstep
          have HST := Lib.hid hstep
          by_cases hov : fewN (L.take j) + s.nums.length ≤ 300
          · have hovI : ¬ (300 : Int) < ((fewN (L.take j) : Nat) : Int) + (s.nums.length : Int) := by omega
            clear e1 hstep hle
            go_wp2_with fail
            go_round
            case rel => exact ⟨j + 1, by omega, by go_num, by rw [HST.out]; go_num, by rw [HST.out]; exact hov⟩
            case measure => simp [intOf]; omega
          · have hovI : (300 : Int) < ((fewN (L.take j) : Nat) : Int) + (s.nums.length : Int) := by omega
            have HF := Lib.hid (show fewB L = false from decide_eq_false (by omega))
            clear e1 hstep hle
            go_wp2_with fail
            go_ret
            exact ⟨by rw [HF.out]; rfl, rfl⟩
        · have e1 : min s.nums.length 300 = 300 := by omega
          have e2 : (300 : Int) < (s.nums.length : Int) := by omega
          rw [e1] at hstep
          have HST := Lib.hid hstep
          by_cases hov : fewN (L.take j) + 300 ≤ 300
          · have hovI : ¬ (300 : Int) < ((fewN (L.take j) : Nat) : Int) + 300 := by omega
            clear e1 hstep hle
            go_wp2_with fail
            go_round
            case rel => exact ⟨j + 1, by omega, by go_num, by rw [HST.out]; go_num, by rw [HST.out]; exact hov⟩
            case measure => simp [intOf]; omega
          · have hovI : (300 : Int) < ((fewN (L.take j) : Nat) : Int) + 300 := by omega
            have HF := Lib.hid (show fewB L = false from decide_eq_false (by omega))
            clear e1 hstep hle
            go_wp2_with fail
            go_ret
            exact ⟨by rw [HF.out]; rfl, rfl⟩
      · obtain rfl : j = L.length := by omega
        have HF := Lib.hid (show fewB L = true from decide_eq_true ⟨h12, by rw [List.take_length] at hn; exact hn⟩)
        clear hn
        go_wp2_with fail
        go_ret
        exact ⟨by rw [HF.out]; rfl, rfl⟩
  · have h12I : (12 : Int) < (L.length : Int) := by omega
    have HF := Lib.hid (show fewB L = false from decide_eq_false (fun h => h12 h.1))
    clear h12
    go_enter Tryz.func38, Tryz.ntmps38
    go_wp2_with fail
    go_ret
    exact ⟨by rw [HF.out]; rfl, rfl⟩
end Go.Proofs.YtnaangnmlbgmkaaGreatDoor

/-
  Slices of a call's own: numbers of four bytes, strings, segments; the walk's laws on appending to them.
-/
namespace Go.Proofs.YtnaangnmlbgmkaaGreatDoor
set_option linter.unusedVariables false
open Go.RowKit

/-- t is a slice of e's in P, each of so many cells and bytes. -/
structure IsRow (P : Program) (t e : TypeId) (z : Value) (size bytes : Nat) : Prop where
  ht : P.underlying t = some (.slice e)
  info : (P.info? e).map (fun i => (i.zero, i.size, i.bytes)) = some (some z, size, bytes)
  hzs : z.cells.size = size
  pos : 0 < size
  some' : 0 < bytes

section
variable {P : Program} {w : World} {ops : Array Oper} {rest : List Oper} {o : Oper} {a : Act} {Q : Exit → Act → World → Prop}
/-- 'out = append(out, x...)', out the call's own, x any cells that are there: as one operation, in the walk's list. -/
theorem wp_app {t e : TypeId} {z : Value} {size bytes : Nat} {K : Act → World → Prop} (T : IsRow P t e z size bytes) (s x : Operand) (ho : o.op = .call { callee := .builtin .append, args := #[s, x], argTypes := #[t, t] })
    (w0 : World) (v : Value) (n : Nat) (xs : List Value) (hs : a.eval s = v) (hown : w.ownsRow w0.heap.size e size v n xs) (A : Option Addr) (m c : Nat) (news : List Value) (hx : a.eval x = .slice A m c)
    (hl : news.length = m * size) (hnews : m ≠ 0 → ∃ ad, A = some ad ∧ ∀ j u, news[j]? = some u → w.cell? (ad.add j) = some u) (h1 : ∀ u ∈ news, u.oneCell' = true)
    (hsz : (n + m) * bytes ≤ 140737488355328) (hb : Below w0.heap.size w0 w)
    (h : ∀ v' w', w'.ownsRow w0.heap.size e size v' (n + m) (xs ++ news) → w.grownBy w' v.ownBlock → Below w0.heap.size w0 w' → K (a.put o.dst v') w') : o.wp P a w K Q := by
  obtain ⟨i, hi, hz0, hz1, hz2⟩ := info_parts T.info
  have h47 : n + m ≤ 140737488355328 := Nat.le_trans (Nat.le_mul_of_pos_right _ T.some') hsz
  by_cases hm0 : m = 0
  · subst hm0
    obtain rfl : news = [] := List.eq_nil_of_length_eq_zero (by simpa using hl)
    cases A with
    | none =>
      have hrun : (Builtin.append_ #[t, t] o.type #[v, .slice none 0 c]).run P w = .ok v w := by
        rcases hown.2 with ⟨rfl, _⟩ | ⟨g, cap, cur, rfl, _, _, hnc, _⟩
        · simp [Builtin.append_, run_underlying T.ht, sizeOf, typeInfo, hi, Builtin.lenOf, Builtin.firstCells]
        · simp [Builtin.append_, run_underlying T.ht, sizeOf, typeInfo, hi, Builtin.lenOf, Builtin.firstCells, hnc, storeCells]
      unfold Oper.wp
      have hx' : a.eval x = .slice none 0 c := hx
      simp [execOp, ho, resolve, invoke, builtin, hs, hx', hrun, Result.andThen]
      exact h v w (by simpa using hown) (World.grownBy.refl _ _) hb
    | some ad =>
      refine wp_append_own w s x t ho w0.heap.size e i z size bytes T.ht hi hz0 hz1 hz2 T.hzs T.pos v n xs hs hown ad 0 c [] hx (by simp) (by simp) (by simp) (by unfold maxLen; omega) hsz hb.size ?_
      intro v' w' ho' hg _
      exact h v' w' ho' hg (hb.grown hg hb.size (fun k hk => (hown.lt k hk).1))
  · obtain ⟨ad, rfl, hc⟩ := hnews hm0
    refine wp_append_own w s x t ho w0.heap.size e i z size bytes T.ht hi hz0 hz1 hz2 T.hzs T.pos v n xs hs hown ad m c news hx hl hc h1 (by unfold maxLen; omega) hsz hb.size ?_
    intro v' w' ho' hg _
    exact h v' w' ho' hg (hb.grown hg hb.size (fun k hk => (hown.lt k hk).1))
theorem wpList_app {t e : TypeId} {z : Value} {size bytes : Nat} (T : IsRow P t e z size bytes) (hgd : o.guard = none) (s x : Operand) (ho : o.op = .call { callee := .builtin .append, args := #[s, x], argTypes := #[t, t] })
    (w0 : World) (v : Value) (n : Nat) (xs : List Value) (hs : a.eval s = v) (hown : w.ownsRow w0.heap.size e size v n xs) (A : Option Addr) (m c : Nat) (news : List Value) (hx : a.eval x = .slice A m c)
    (hl : news.length = m * size) (hnews : m ≠ 0 → ∃ ad, A = some ad ∧ ∀ j u, news[j]? = some u → w.cell? (ad.add j) = some u) (h1 : ∀ u ∈ news, u.oneCell' = true)
    (hsz : (n + m) * bytes ≤ 140737488355328) (hb : Below w0.heap.size w0 w)
    (h : ∀ v' w', w'.ownsRow w0.heap.size e size v' (n + m) (xs ++ news) → w.grownBy w' v.ownBlock → Below w0.heap.size w0 w' → wpList P ops Q rest (a.put o.dst v') w') : wpList P ops Q (o :: rest) a w :=
  wpList_plain hgd fun _ hK => wp_app T s x ho w0 v n xs hs hown A m c news hx hl hnews h1 hsz hb fun v' w' h1 h2 h3 => hK _ _ (h v' w' h1 h2 h3)
/-- 'out = append(out, x)': one element of some cells, that the walk lays in a block of its own. -/
theorem wpList_app_one {t e : TypeId} {z : Value} {size bytes : Nat} (T : IsRow P t e z size bytes) (hgd : o.guard = none) (s x : Operand) (ho : o.op = .call { callee := .builtin .append, args := #[s, x], argTypes := #[t, t] })
    (w0 : World) (v : Value) (n : Nat) (xs : List Value) (hs : a.eval s = v) (wr : World) (cs : List Value) (hw : w = wr.alloc (.cells cs.toArray e)) (hown : wr.ownsRow w0.heap.size e size v n xs) (hx : a.eval x = .slice (some ⟨wr.heap.size, 0, none⟩) 1 1)
    (hl : cs.length = size) (h1 : ∀ u ∈ cs, u.oneCell' = true)
    (hsz : (n + 1) * bytes ≤ 140737488355328) (hb : Below w0.heap.size w0 wr)
    (h : ∀ v' w', w'.ownsRow w0.heap.size e size v' (n + 1) (xs ++ cs) → wr.grownBy w' v.ownBlock → Below w0.heap.size w0 w' → wpList P ops Q rest (a.put o.dst v') w') : wpList P ops Q (o :: rest) a w := by
  subst hw
  refine wpList_app T hgd s x ho w0 v n xs hs (hown.alloc _) _ 1 1 cs hx (by simpa using hl) (fun _ => ⟨_, rfl, fun j u hu => ?_⟩) h1 hsz (hb.alloc hb.size _) fun v' w' ho' hg hb' => h v' w' ho' (grown_of_alloc hg) hb'
  rw [Addr.add_lit, (Blk.new wr e cs).cell]
  simpa using hu
end

theorem isU32 : IsRow Tryz.prog 25 24 (.int .u32 0) 1 4 := ⟨Tryz.underlying25, by kernel_rfl, rfl, by decide, by decide⟩
theorem isSeg : IsRow Tryz.prog 23 112 (.agg #[.int .i64 0, .slice none 0 0]) 2 32 := ⟨Tryz.underlying23, by kernel_rfl, rfl, by decide, by decide⟩

def cells32 (z : List Nat) : List Value := z.map fun (n : Nat) => Value.int .u32 (n : Int)
/-- The value v is a slice of the call's own (its block is B or later) that holds the numbers z. -/
def Own32 (w : World) (B : Nat) (v : Value) (z : List Nat) : Prop := w.ownsRow B 24 1 v z.length (cells32 z)
section
variable {w w' : World} {B : Nat} {v : Value} {z : List Nat}
theorem Own32.nil (w : World) (B : Nat) : Own32 w B (.slice none 0 0) [] := World.ownsRow_nil w B _ 1
theorem Own32.form (h : Own32 w B v z) : ∃ A c, v = .slice A z.length c ∧ z.length ≤ c ∧ c ≤ maxLen := by
  rcases h.2 with ⟨rfl, hn⟩ | ⟨g, cap, cur, rfl, hbg, hg, hnc, hcm, hcs, htake⟩
  · exact ⟨none, 0, by rw [hn], by omega, Nat.zero_le _⟩
  · exact ⟨_, cap, rfl, hnc, hcm⟩
theorem Own32.at {A : Option Addr} {n c : Nat} (h : Own32 w B (.slice A n c) z) : At32 w w.heap.size A z := by
  intro hl
  rcases h.2 with ⟨hv, hn⟩ | ⟨g, cap, cur, hv, hbg, hg, hnc, hcm, hcs, htake⟩
  · exact absurd (List.eq_nil_of_length_eq_zero hn) hl
  · have hA : A = some ⟨g, 0, none⟩ := by injection hv
    refine ⟨g, 0, hA, (Array.getElem?_eq_some_iff.1 hg).1, fun j hj => ?_⟩
    have hj2 := World.ownsRow.cells h (g := g) (by subst hA; rfl) j (.int .u32 ((z.getD j 0 : Nat) : Int)) (by simp [cells32, List.getD, hj])
    rw [Addr.add_lit] at hj2
    exact hj2
theorem Own32.alloc (h : Own32 w B v z) (o : Obj) : Own32 (w.alloc o) B v z := World.ownsRow.alloc h o
theorem Own32.below (h : Own32 w B v z) (hb : Below w.heap.size w w') : Own32 w' B v z :=
  World.ownsRow.kept h (row := none) ⟨hb.os, hb.tape, hb.output, hb.size, fun k hk _ => hb.block k hk⟩ (by cases v.ownBlock <;> simp)
theorem Own32.lower {B' : Nat} (h : Own32 w B v z) (hB : B' ≤ B) : Own32 w B' v z := by
  refine ⟨h.1, ?_⟩
  rcases h.2 with h2 | ⟨g, cap, cur, hv, hbg, r⟩
  · exact .inl h2
  · exact .inr ⟨g, cap, cur, hv, Nat.le_trans hB hbg, r⟩
theorem cells32_one (z : List Nat) : ∀ u ∈ cells32 z, u.oneCell' = true := by
  intro u hu
  obtain ⟨_, _, rfl⟩ := List.mem_map.1 hu
  rfl
theorem At32.news {A : Option Addr} (h : At32 w B A z) : z.length ≠ 0 → ∃ ad, A = some ad ∧ ∀ j u, (cells32 z)[j]? = some u → w.cell? (ad.add j) = some u := by
  intro hz
  obtain ⟨b, off, rfl, _, hc⟩ := h (by intro e; rw [e] at hz; simp at hz)
  refine ⟨_, rfl, fun j u hu => ?_⟩
  have hj : j < z.length := by simpa [cells32] using (List.getElem?_eq_some_iff.1 hu).1
  rw [Addr.add_lit, hc j hj]
  simp [cells32, hj] at hu
  simp [List.getD, hj, hu]
end
/-- What a call leaves that returns numbers of its own making. -/
def Ret32 (w : World) (z : List Nat) (e : Ending) (w' : World) : Prop :=
  ∃ A c, e = .returned (.slice A z.length c) ∧ z.length ≤ c ∧ c ≤ maxLen ∧ Own32 w' w.heap.size (.slice A z.length c) z ∧ Below w.heap.size w w'

theorem own32_empty (w : World) : Own32 (w.alloc (.cells #[] 24)) w.heap.size (.slice (some ⟨w.heap.size, 0, none⟩) 0 0) [] :=
  ⟨by simp [cells32], .inr ⟨w.heap.size, 0, #[], rfl, Nat.le_refl _, heap_alloc_new w _, Nat.le_refl _, Nat.zero_le _, rfl, rfl⟩⟩
set_option maxHeartbeats 400000 in
theorem Clone32_any (A : Option Addr) (n c : Nat) (z : List Nat) (hn : n = z.length) (w : World) (h : At32 w w.heap.size A z) (hl : z.length ≤ 1000000000) :
    Calls Tryz.prog 108 #[.slice A n c] w (Ret32 w z) := by
  subst hn
  cases A with
  | none =>
    have hl0 : z = [] := by
      rcases z with _ | ⟨b, z⟩
      · rfl
      · obtain ⟨_, _, h2, _⟩ := h (by simp)
        cases h2
    subst hl0
    have hq := fun w => Lib.run_eql_slice_nil (P := Tryz.prog) w 25 24 none 0 c 0 0 Tryz.underlying25
    go_enter Tryz.func108, Tryz.ntmps108
    go_wp2_with fail
    go_ret
    exact ⟨none, 0, rfl, by simp, by simp, Own32.nil _ _, Below.refl _ _⟩
  | some ad =>
    have hq := fun w => Lib.run_eql_slice_nil (P := Tryz.prog) w 25 24 (some ad) z.length c 0 0 Tryz.underlying25
    have H0 := Lib.hid (own32_empty w)
    have HA := Lib.hid (h.below ((Below.refl w.heap.size w).alloc (Nat.le_refl _) (.cells #[] 24)) (Nat.le_refl _))
    clear h
    go_enter Tryz.func108, Tryz.ntmps108
    go_wp2_with (at_builtin; refine wpList_app isU32 rfl (.tmp 5) (.tmp 6) rfl w _ 0 [] rfl H0.out (some ad) z.length c (cells32 z) rfl (by simp [cells32]) HA.out.news (cells32_one z) (by omega) ((Below.refl _ _).alloc (Nat.le_refl _) _) ?_)
    intro v1 w1 hown1 _ hb1
    have ho : Own32 w1 w.heap.size v1 z := by simpa [Own32] using hown1
    obtain ⟨A', c', rfl, f1, f2⟩ := ho.form
    have H := Lib.hid ho; clear hown1 ho H0 HA
    go_wp2
    go_ret
    exact ⟨A', c', rfl, f1, f2, H.out, hb1⟩
end Go.Proofs.YtnaangnmlbgmkaaGreatDoor

/-
  What the laws' frames lean on, of a seat without tables.
-/
namespace Go.Proofs.YtnaangnmlbgmkaaGreatDoor
open Go.ChangeShapes Go.WideShapes Go.ChangeAt Go.RowKit
set_option linter.unusedVariables false

theorem own : ownKnob Tryz.prog.godebug = none := by kernel_rfl
theorem laidOut : laidOutB Tryz.prog = true := by kernel_rfl
end Go.Proofs.YtnaangnmlbgmkaaGreatDoor

/-
  Bytes that come in as a statement's argument.
-/
namespace Go.Proofs.YtnaangnmlbgmkaaGreatDoor
open Go.ChangeShapes Go.WideShapes Go.ChangeAt Go.RowKit
set_option linter.unusedVariables false

/-- A slice of bytes that came in. -/
theorem bytes_in {w : World} {x : Addr} {len cap : Nat} {zs : List Int} (hl : len ≤ cap) (hz : zs.length = cap) (hc : ∀ i, i < zs.length → w.cell? (x.add i) = some (.int .u8 (zs.getD i 0))) (hwz : ∀ n ∈ zs, (Lit.int .u8 n).wf = true) :
    ∃ l : List UInt8, l.length = len ∧ Bytes w (some x) l := by
  refine ⟨(zs.take len).map fun n => UInt8.ofNat n.toNat, by simp; omega, fun hne => ?_⟩
  have hpos : 0 < len := by
    rcases Nat.eq_zero_or_pos len with h0 | h0
    · subst h0; simp at hne
    · exact h0
  obtain ⟨b, off, spot⟩ := x
  have h0 := hc 0 (by omega)
  have hspot : spot = none := by simpa [Addr.add] using World.cell?_spot h0
  subst hspot
  refine ⟨b, off, rfl, World.block_lt_of_cell? w _ h0, fun j hj => ?_⟩
  have hj' : j < len := by simpa [hz, Nat.min_eq_left hl] using hj
  have h1 := hc j (by omega)
  rw [Addr.add_lit] at h1
  rw [h1]
  have hjz : j < zs.length := by omega
  have hm := hwz zs[j] (List.getElem_mem _)
  have hr := bounds_u8 hm
  simp [List.getD, hjz, hj']
  omega

end Go.Proofs.YtnaangnmlbgmkaaGreatDoor

/-
  The reader of bytes: New, next; Clone.
-/
namespace Go.Proofs.YtnaangnmlbgmkaaGreatDoor
open Go.RowKit

/-- Block g holds a reader that has l before it, of bytes that lie below B; s: is it short? -/
def Rd (w : World) (B g : Nat) (l : List UInt8) (s : Bool) : Prop :=
  B ≤ g ∧ ∃ A c, Blk w g 92 [.slice A l.length c, .bool s] ∧ l.length ≤ c ∧ c ≤ maxLen ∧ At w B A l
section
variable {w w' : World} {B g : Nat} {l : List UInt8} {s : Bool}
theorem Rd.below {B' : Nat} (h : Rd w B g l s) (hb : Below B' w w') (hg : g < B') : Rd w' B g l s := by
  obtain ⟨hB, A, c, hk, h1, h2, hA⟩ := h
  exact ⟨hB, A, c, hk.below hb hg, h1, h2, hA.below hb (by omega)⟩
theorem Rd.grown {g' : Nat} (h : Rd w B g l s) (hb : w.grownBy w' (some g')) (hg : g ≠ g') (hB' : B ≤ g') : Rd w' B g l s := by
  obtain ⟨hB, A, c, hk, h1, h2, hA⟩ := h
  exact ⟨hB, A, c, hk.grown hb hg, h1, h2, hA.grown hb hB'⟩
theorem Rd.lt (h : Rd w B g l s) : g < w.heap.size := by obtain ⟨_, _, _, hk, _⟩ := h; exact hk.lt
theorem Rd.drewN (h : Rd w B g l s) (n : Nat) : Rd (w.drewN n) B g l s := h
end
theorem New_any (A : Option Addr) (n c : Nat) (l : List UInt8) (hn : n = l.length) (w : World) (h : Bytes w A l) (h1 : l.length ≤ c) (h2 : c ≤ maxLen) :
    Calls Tryz.prog 25 #[.slice A n c] w fun e w' => e = .returned (.pointer (some ⟨w.heap.size, 0, none⟩)) ∧ Rd w' w.heap.size w.heap.size l false ∧ Below w.heap.size w w' := by
  subst hn
  have H := Lib.hid h; clear h
  go_enter Tryz.func25, Tryz.ntmps25
  go_wp2_with fail
  go_ret
  have hb : Below w.heap.size w (w.alloc (.cells #[.slice A l.length c, .bool false] 92)) := (Below.refl _ _).alloc (Nat.le_refl _) _
  exact ⟨rfl, ⟨Nat.le_refl _, A, c, Blk.new w 92 [.slice A l.length c, .bool false], h1, h2, At.below H.out hb (Nat.le_refl _)⟩, hb⟩
/-- What 'next' leaves: the bytes res, of those that lay before the reader. -/
def NextPost (w : World) (B g : Nat) (res rest : List UInt8) (s : Bool) (e : Ending) (w' : World) : Prop :=
  ∃ A c, e = .returned (.slice A res.length c) ∧ res.length ≤ c ∧ c ≤ maxLen ∧ At w' B A res ∧ Rd w' B g rest s ∧ w.grownBy w' (some g)
theorem next_end {n B g c : Nat} {l : List UInt8} {s : Bool} {w : World} {A A2 : Option Addr} (hB : B ≤ g) (hk : Blk w g 92 [.slice A l.length c, .bool s]) (hl : l.length ≤ c) (hm : c ≤ maxLen) (hA : At w B A l) (h1 : n ≤ l.length)
    (h2 : A2 = if c = n then A else A.map (·.add n)) : NextPost w B g (l.take n) (l.drop n) s (.returned (.slice A n c)) (w.setCell ⟨g, 0, none⟩ (.slice A2 (l.length - n) (c - n))) := by
  have hg : w.grownBy (w.setCell ⟨g, 0, none⟩ (.slice A2 (l.length - n) (c - n))) (some g) := grown_setCell (grown_refl _ _) _ _
  refine ⟨A, c, by rw [List.length_take, Nat.min_eq_left h1], by rw [List.length_take]; omega, hm, (hA.take n).grown hg hB, ⟨hB, A2, c - n, ?_, by rw [List.length_drop]; omega, by omega, ?_⟩, hg⟩
  · have := hk.set 0 (.slice A2 (l.length - n) (c - n))
    rw [List.length_drop]
    exact this
  · subst h2
    exact (hA.drop hl).grown hg hB
set_option maxHeartbeats 400000 in
theorem next_nat (n : Nat) (B g : Nat) (l : List UInt8) (s : Bool) (w : World) (h : Rd w B g l s) (h1 : n ≤ l.length) :
    Calls Tryz.prog 55 #[.pointer (some ⟨g, 0, none⟩), .int .i64 (n : Int)] w (NextPost w B g (l.take n) (l.drop n) s) := by
  obtain ⟨hB, A, c, hk, hl, hm, hA⟩ := h
  have c0 : w.cell? ⟨g, 0, none⟩ = some (.slice A l.length c) := hk.cell 0
  have f0 : w.frozen? ⟨g, 0, none⟩ = false := hk.free 0
  have F := fun A2 => Lib.hid (next_end (A2 := A2) hB hk hl hm hA h1)
  clear hk hA
  have n2 : ¬ (l.length : Int) < (n : Int) := by omega
  unfold maxLen at hm
  by_cases hc : c = n
  · go_enter Tryz.func55, Tryz.ntmps55
    go_wp2_with fail
    go_ret
    have := (F A).out (by rw [if_pos hc])
    subst hc
    rw [Nat.sub_self] at this
    exact this
  · go_enter Tryz.func55, Tryz.ntmps55
    go_wp2_with fail
    go_ret
    exact (F _).out (by rw [if_neg hc])
theorem next_ok (n : Int) (B g : Nat) (l : List UInt8) (s : Bool) (w : World) (h : Rd w B g l s) (h0 : 0 ≤ n) (h1 : n ≤ l.length) :
    Calls Tryz.prog 55 #[.pointer (some ⟨g, 0, none⟩), .int .i64 n] w (NextPost w B g (l.take n.toNat) (l.drop n.toNat) s) := by
  obtain ⟨k, rfl⟩ := Int.eq_ofNat_of_zero_le h0
  exact next_nat k B g l s w h (by omega)
theorem next_bad_end {B g c : Nat} {l : List UInt8} {s : Bool} {w : World} {A : Option Addr} (hB : B ≤ g) (hk : Blk w g 92 [.slice A l.length c, .bool s]) :
    NextPost w B g [] [] true (.returned (.slice none 0 0)) ((w.setCell ⟨g, 1, none⟩ (.bool true)).setCell ⟨g, 0, none⟩ (.slice none 0 0)) := by
  refine ⟨none, 0, rfl, by simp, by simp, At.nil _ _ _, ⟨hB, none, 0, ?_, by simp, by simp, At.nil _ _ _⟩, grown_setCell (grown_setCell (grown_refl _ _) _ _) _ _⟩
  exact (hk.set 1 (.bool true)).set 0 (.slice none 0 0)
set_option maxHeartbeats 400000 in
theorem next_bad (n : Int) (B g : Nat) (l : List UInt8) (s : Bool) (w : World) (h : Rd w B g l s) (h1 : n < 0 ∨ (l.length : Int) < n) :
    Calls Tryz.prog 55 #[.pointer (some ⟨g, 0, none⟩), .int .i64 n] w (NextPost w B g [] [] true) := by
  obtain ⟨hB, A, c, hk, hl, hm, hA⟩ := h
  have c0 : w.cell? ⟨g, 0, none⟩ = some (.slice A l.length c) := hk.cell 0
  have c1 : w.cell? ⟨g, 1, none⟩ = some (.bool s) := hk.cell 1
  have f0 : w.frozen? ⟨g, 0, none⟩ = false := hk.free 0
  have f1 : w.frozen? ⟨g, 1, none⟩ = false := hk.free 1
  have F := Lib.hid (next_bad_end hB hk)
  clear hk hA
  unfold maxLen at hm
  rcases h1 with h1 | h1
  · go_enter Tryz.func55, Tryz.ntmps55
    go_wp2_with fail
    go_ret
    exact F.out
  · have h2 : ¬ n < 0 := by omega
    go_enter Tryz.func55, Tryz.ntmps55
    go_wp2_with fail
    go_ret
    exact F.out
/-- What a reader with l before it tells of a Take of n: the bytes; what is left; is it short? -/
def rdTake (l : List UInt8) (s : Bool) (n : Int) : List UInt8 × List UInt8 × Bool := if 0 ≤ n ∧ n ≤ l.length then (l.take n.toNat, l.drop n.toNat, s) else ([], [], true)
theorem next_any (n : Int) (B g : Nat) (l : List UInt8) (s : Bool) (w : World) (h : Rd w B g l s) :
    Calls Tryz.prog 55 #[.pointer (some ⟨g, 0, none⟩), .int .i64 n] w (NextPost w B g (rdTake l s n).1 (rdTake l s n).2.1 (rdTake l s n).2.2) := by
  unfold rdTake
  by_cases hn : 0 ≤ n ∧ n ≤ l.length
  · rw [if_pos hn]
    exact next_ok n B g l s w h hn.1 hn.2
  · rw [if_neg hn]
    exact next_bad n B g l s w h (by omega)
theorem rdTake_len (l : List UInt8) (s : Bool) (n : Int) : (rdTake l s n).1.length ≤ l.length ∧ ((rdTake l s n).1.length : Int) ≤ max n 0 := by
  unfold rdTake
  by_cases hn : 0 ≤ n ∧ n ≤ l.length
  · rw [if_pos hn]
    simp only [List.length_take]
    omega
  · rw [if_neg hn]
    simp only [List.length_nil]
    omega
theorem next_nil (n : Int) (w : World) : Calls Tryz.prog 55 #[.pointer none, .int .i64 n] w fun e w' => e = .returned (.slice none 0 0) ∧ w = w' := by
  go_enter Tryz.func55, Tryz.ntmps55
  go_wp2_with fail
  go_ret
  exact ⟨rfl, rfl⟩
theorem Clone_nil (c : Nat) (w : World) : Calls Tryz.prog 54 #[.slice none 0 c] w fun e w' => e = .returned (.slice none 0 0) ∧ w = w' := by
  have hq := fun w => Lib.run_eql_slice_nil (P := Tryz.prog) w 33 5 none 0 c 0 0 Tryz.underlying33
  go_enter Tryz.func54, Tryz.ntmps54
  go_wp2_with fail
  go_ret
  exact ⟨rfl, rfl⟩
theorem own_empty (w : World) (e : Nat) : Own (w.alloc (.cells #[] e)) w.heap.size e (.slice (some ⟨w.heap.size, 0, none⟩) 0 0) [] :=
  ⟨by simp, .inr ⟨w.heap.size, 0, #[], rfl, Nat.le_refl _, heap_alloc_new w _, Nat.le_refl _, Nat.zero_le _, rfl, rfl⟩⟩
set_option maxHeartbeats 400000 in
theorem Clone_any (A : Option Addr) (n c : Nat) (l : List UInt8) (hn : n = l.length) (w : World) (h : Bytes w A l) (hl : l.length ≤ 1000000) :
    Calls Tryz.prog 54 #[.slice A n c] w (RetBytes w l) := by
  subst hn
  cases A with
  | none =>
    have hl0 : l = [] := by
      rcases l with _ | ⟨b, l⟩
      · rfl
      · obtain ⟨_, _, h2, _⟩ := h (by simp)
        cases h2
    subst hl0
    refine (Clone_nil c w).mono fun e w' hh => ?_
    obtain ⟨rfl, rfl⟩ := hh
    exact ⟨none, 0, rfl, by simp, by simp, Own.nil _ _ _, Below.refl _ _⟩
  | some ad =>
    have hq := fun w => Lib.run_eql_slice_nil (P := Tryz.prog) w 33 5 (some ad) l.length c 0 0 Tryz.underlying33
    have H0 := Lib.hid (own_empty w 5)
    have HA := Lib.hid (h.alloc (.cells #[] 5))
    clear h
    go_enter Tryz.func54, Tryz.ntmps54
    go_wp2_with (at_builtin; refine wpList_append_bytes isBytes rfl (.tmp 5) (.tmp 6) rfl w _ [] rfl H0.out _ l l.length c rfl rfl HA.out (by simp; omega) ((Below.refl _ _).alloc (Nat.le_refl _) _) ?_)
    intro v1 w1 hown1 _ hb1
    obtain ⟨A', c', rfl, f1, f2⟩ := hown1.form
    have H := Lib.hid hown1; clear hown1 H0 HA
    go_wp2
    go_ret
    exact ret_own (by simp) f1 f2 H.out hb1 (by simp)
end Go.Proofs.YtnaangnmlbgmkaaGreatDoor

/-
  octet's number: what it tells of at most four bytes.
-/
namespace Go.Proofs.YtnaangnmlbgmkaaGreatDoor
open Go.RowKit

set_option maxHeartbeats 400000 in
theorem number_any (A : Option Addr) (n c : Nat) (l : List UInt8) (hn : n = l.length) (w : World) (hl : l.length ≤ 4) (h : Bytes w A l) :
    Calls Tryz.prog 56 #[.slice A n c] w fun e w' => e = .returned (.int .u32 (num l : Nat)) ∧ w = w' := by
  subst hn
  go_enter Tryz.func56, Tryz.ntmps56
  go_wp2
  go_loop [3, 5, 8] (fun n _ i => ∃ k : Nat, k ≤ l.length ∧ i = .int .i64 k ∧ n = .int .u32 (num (l.take k) : Nat)) (fun _ _ i => l.length - (intOf i).toNat)
  case atStart => exact ⟨0, Nat.zero_le _, rfl, rfl⟩
  case round =>
    obtain ⟨k, hk, rfl, rfl⟩ := hrel
    by_cases hlt : k < l.length
    · obtain ⟨b, off, rfl, _, hcell⟩ := h.cell hlt
      clear h
      go_wp2
      go_round
      case rel => exact ⟨k + 1, by omega, by go_num, by rw [num_step l k hlt hl]⟩
      case measure => simp [intOf]; omega
    · go_wp2
      go_ret
      exact ⟨by rw [List.take_of_length_le (by omega)]; rfl, rfl⟩
end Go.Proofs.YtnaangnmlbgmkaaGreatDoor

/-
  octet's put of a uint32, and Put32.
-/
namespace Go.Proofs.YtnaangnmlbgmkaaGreatDoor
open Go.RowKit

/-- Four bytes of a number, the highest one first. -/
def be32 (x : Int) : List UInt8 := [UInt8.ofNat (x / 16777216 % 256).toNat, UInt8.ofNat (x / 65536 % 256).toNat, UInt8.ofNat (x / 256 % 256).toNat, UInt8.ofNat (x % 256).toNat]
theorem be32_first {x : Int} (h0 : 0 ≤ x) (h1 : x < 4294967296) : UInt8.ofNat (x / 16777216).toNat = (be32 x).getD 0 0 := by
  have h9 : x / 16777216 % 256 = x / 16777216 := by omega
  simp [be32, h9]
def PutRel4 (w : World) (l : List UInt8) (x : Int) (v i : Value) (wr : World) : Prop :=
  Below w.heap.size w wr ∧ ∃ k : Nat, k ≤ 4 ∧ i = .int .i64 (3 - (k : Int)) ∧ Own wr w.heap.size 5 v (l ++ (be32 x).take k)
theorem take_be32 (l : List UInt8) (x : Int) (w : World) (B e : Nat) (v : Value) (k : Nat) (b : UInt8) (hk : k < 4) (hb : b = (be32 x).getD k 0) (h : Own w B e v (l ++ ((be32 x).take k ++ [b]))) : Own w B e v (l ++ (be32 x).take (k + 1)) := by
  rw [take_snoc (be32 x) k (by simpa [be32] using hk), ← hb]
  exact h
set_option maxHeartbeats 800000 in
theorem put_u32 (A : Option Addr) (n c : Nat) (l : List UInt8) (hn : n = l.length) (x : Int) (w : World) (hl : l.length ≤ 1000000) (h : Bytes w A l) (hx0 : 0 ≤ x) (hx1 : x < 4294967296) :
    Calls Tryz.prog 121 #[.slice A n c, .int .u32 x, .int .i64 4] w (RetBytes w (l ++ be32 x)) := by
  subst hn
  go_enter Tryz.func121, Tryz.ntmps121
  go_wp2_with (first
    | (at_make; refine wpList_make_bytes isBytes rfl _ _ rfl w (l.length : Nat) (l.length + 4 : Nat) l.length (l.length + 4) rfl (by first | rfl | simp) rfl (by simp) (by omega) (by omega) (Below.refl _ _) ?_; intro w1 hown1 hg1 hb1; have H1 := Lib.hid hown1; clear hown1 hg1)
    | (with_reducible refine wpList_copy_bytes isBytes rfl (.tmp 16) (.tmp 17) rfl w _ l.length (l.length + 4) (List.replicate l.length 0) rfl H1.out A l.length c l rfl rfl (by simp) (h.below hb1) hb1 ?_; intro w2 hown2 hg2 hb2; have H2 := Lib.hid hown2; clear hown2 hg2 hb1 H1))
  go_loopw [7, 8] (fun v i wr => PutRel4 w l x v i wr) (fun _ i _ => (intOf i + 1).toNat)
  case atStart => exact ⟨hb2, 0, by omega, rfl, by simpa using H2.out⟩
  case round =>
    clear h H2 hb2
    obtain ⟨hbr, k, hk, rfl, hown⟩ := hrel
    have hlen : (l ++ (be32 x).take k).length ≤ 1000004 := by simp [be32]; omega
    rcases (show k = 0 ∨ k = 1 ∨ k = 2 ∨ k = 3 ∨ k = 4 by omega) with rfl | rfl | rfl | rfl | rfl
    · have H := Lib.hid hown; clear hown
      have HL := Lib.hid hlen; clear hlen
      go_wp2_with (at_builtin; refine wpList_append_byte isBytes rfl (.tmp 25) (.tmp 31) rfl w _ _ rfl wr _ rfl H.out rfl ?_ ?_ ?_ hbr ?_)
      · omega
      · omega
      · have := HL.out; omega
      · intro v' w' hown' _ hb'
        have H' := Lib.hid (take_be32 l x w' _ _ v' 0 (UInt8.ofNat (x / 16777216).toNat) (by decide) (be32_first hx0 hx1) hown'); clear hown' hbr H
        go_wp2
        go_roundw
        case rel => exact ⟨hb', 1, by decide, rfl, H'.out⟩
        case measure => simp [intOf]
    · have H := Lib.hid hown; clear hown
      have HL := Lib.hid hlen; clear hlen
      go_wp2_with (at_builtin; refine wpList_append_byte isBytes rfl (.tmp 25) (.tmp 31) rfl w _ _ rfl wr _ rfl H.out rfl ?_ ?_ ?_ hbr ?_)
      · omega
      · omega
      · have := HL.out; omega
      · intro v' w' hown' _ hb'
        have H' := Lib.hid (take_be32 l x w' _ _ v' 1 _ (by decide) (by rfl) hown'); clear hown' hbr H
        go_wp2
        go_roundw
        case rel => exact ⟨hb', 2, by decide, rfl, H'.out⟩
        case measure => simp [intOf]
    · have H := Lib.hid hown; clear hown
      have HL := Lib.hid hlen; clear hlen
      go_wp2_with (at_builtin; refine wpList_append_byte isBytes rfl (.tmp 25) (.tmp 31) rfl w _ _ rfl wr _ rfl H.out rfl ?_ ?_ ?_ hbr ?_)
      · omega
      · omega
      · have := HL.out; omega
      · intro v' w' hown' _ hb'
        have H' := Lib.hid (take_be32 l x w' _ _ v' 2 _ (by decide) (by rfl) hown'); clear hown' hbr H
        go_wp2
        go_roundw
        case rel => exact ⟨hb', 3, by decide, rfl, H'.out⟩
        case measure => simp [intOf]
    · have H := Lib.hid hown; clear hown
      have HL := Lib.hid hlen; clear hlen
      go_wp2_with (at_builtin; refine wpList_append_byte isBytes rfl (.tmp 25) (.tmp 31) rfl w _ _ rfl wr _ rfl H.out rfl ?_ ?_ ?_ hbr ?_)
      · omega
      · omega
      · have := HL.out; omega
      · intro v' w' hown' _ hb'
        have H' := Lib.hid (take_be32 l x w' _ _ v' 3 _ (by decide) (by rfl) hown'); clear hown' hbr H
        go_wp2
        go_roundw
        case rel => exact ⟨hb', 4, by decide, rfl, H'.out⟩
        case measure => simp [intOf]
    · obtain ⟨A', c', rfl, f1, f2⟩ := hown.form
      have H := Lib.hid hown; clear hown hlen
      have f3 := Lib.hid f1; have f4 := Lib.hid f2; clear f1 f2
      go_wp2
      go_ret
      exact ⟨_, _, rfl, f3.out, f4.out, H.out, hbr⟩
theorem Put32_any (A : Option Addr) (n c : Nat) (l : List UInt8) (hn : n = l.length) (x : Int) (w : World) (hl : l.length ≤ 1000000) (h : Bytes w A l) (hx0 : 0 ≤ x) (hx1 : x < 4294967296) :
    Calls Tryz.prog 91 #[.slice A n c, .int .u32 x] w (RetBytes w (l ++ be32 x)) := by
  subst hn
  have h36 := Lib.hid (put_u32 A _ c l rfl x w hl h hx0 hx1)
  clear h hl
  go_enter Tryz.func91, Tryz.ntmps91
  go_wp2_with fail
  refine h36.out.mono ?_
  rintro e w1 ⟨A1, c1, rfl, hr⟩
  go_wp2_with fail
  go_ret
  exact ⟨_, _, by simp, hr⟩
end Go.Proofs.YtnaangnmlbgmkaaGreatDoor

/-
  prefix's within and Mask.
-/
namespace Go.Proofs.YtnaangnmlbgmkaaGreatDoor
set_option linter.unusedVariables false
set_option linter.unusedSimpArgs false
open Go.RowKit

theorem within_any (n : Int) (w : World) (h0 : -9223372036854775808 ≤ n) (h1 : n ≤ 9223372036854775807) :
    Calls Tryz.prog 113 #[.int .i64 n] w fun e w' => e = .returned (.int .i64 (cl n : Nat)) ∧ w = w' := by
  rcases (show n < 0 ∨ (¬ n < 0 ∧ 32 < n) ∨ (¬ n < 0 ∧ ¬ 32 < n) by omega) with h | ⟨h, h2⟩ | ⟨h, h2⟩
  · have e1 := Lib.hid (cl_neg h)
    go_enter Tryz.func113, Tryz.ntmps113
    go_wp2_with fail
    go_ret
    exact ⟨by rw [e1.out]; rfl, rfl⟩
  · have e1 := Lib.hid (cl_big h2)
    go_enter Tryz.func113, Tryz.ntmps113
    go_wp2_with fail
    go_ret
    exact ⟨by rw [e1.out]; rfl, rfl⟩
  · have e1 := Lib.hid (cl_of (n := n) (by omega) (by omega))
    go_enter Tryz.func113, Tryz.ntmps113
    go_wp2_with fail
    go_ret
    exact ⟨by rw [e1.out]; rfl, rfl⟩

theorem shl_mask (k : Nat) : (4294967295 * 2 ^ (32 - k) % 4294967296 : Int) = ((maskN k : Nat) : Int) := by
  have h1 := pow_le32 k
  have h2 : 0 < 2 ^ (32 - k) := Nat.pow_pos (by decide)
  unfold maskN
  have e : ((2 : Int) ^ (32 - k)) = ((2 ^ (32 - k) : Nat) : Int) := by simp
  rw [e]
  omega

theorem Mask_any (n : Int) (w : World) (h0 : -9223372036854775808 ≤ n) (h1 : n ≤ 9223372036854775807) :
    Calls Tryz.prog 73 #[.int .i64 n] w fun e w' => e = .returned (.int .u32 (maskN (cl n) : Nat)) ∧ w = w' := by
  have h40 := Lib.hid (within_any n w h0 h1)
  obtain ⟨k, hk⟩ : ∃ k, k = cl n := ⟨_, rfl⟩
  have hle := cl_le n
  rw [← hk] at h40 hle ⊢
  have HK := Lib.hid hk; clear hk
  go_enter Tryz.func73, Tryz.ntmps73
  go_wp2_with fail
  refine h40.out.mono ?_
  rintro e w1 ⟨rfl, rfl⟩
  go_wp2_with fail
  go_ret
  exact ⟨by rw [← shl_mask]; rfl, rfl⟩

/-- What a call leaves that returns a prefix. -/
def RetPfx (w : World) (a : Nat) (n : Int) (e : Ending) (w' : World) : Prop := e = .returned (.agg #[.int .u32 (a : Int), .int .i64 n]) ∧ Below w.heap.size w w'

theorem u32_mask {a k : Nat} (ha : a < 4294967296) (h : k ≤ 32) : bits .and .u32 (a : Int) ((maskN k : Nat) : Int) = ((hi a k : Nat) : Int) := by
  rw [u32_and_nat a (maskN k) ha (maskN_lt k), and_mask ha h]

set_option maxHeartbeats 400000 in
theorem NormP_any (a : Nat) (n : Int) (w : World) (ha : a < 4294967296) (h0 : -9223372036854775808 ≤ n) (h1 : n ≤ 9223372036854775807) :
    Calls Tryz.prog 97 #[.int .u32 (a : Int), .int .i64 n] w (RetPfx w (hi a (cl n)) (cl n : Nat)) := by
  have hle := cl_le n
  have hm := u32_mask ha hle
  have q9 := fun w => Lib.hid (Mask_any n w h0 h1)
  have q40 := fun w => Lib.hid (within_any n w h0 h1)
  obtain ⟨k, hk⟩ : ∃ k, k = cl n := ⟨_, rfl⟩
  rw [← hk] at hm q9 q40 hle ⊢
  have HK := Lib.hid hk; clear hk
  go_enter Tryz.func97, Tryz.ntmps97
  go_wp2_with fail
  refine (q9 _).out.mono ?_
  rintro e w1 ⟨rfl, rfl⟩
  go_wp2_with fail
  refine (q40 _).out.mono ?_
  rintro e w1 ⟨rfl, rfl⟩
  go_wp2_with fail
  exact bodyPost_ret (v := .agg #[.int .u32 ((hi a k : Nat) : Int), .int .i64 (k : Int)]) (by simp [results, Tryz.results97, go_sem]) rfl ⟨rfl, (Below.refl _ _).alloc (Nat.le_refl _) _⟩
end Go.Proofs.YtnaangnmlbgmkaaGreatDoor

/-
  A struct of three cells that a call fills; bytes of a call's own that lie beside what is written.
-/
namespace Go.Proofs.YtnaangnmlbgmkaaGreatDoor
set_option linter.unusedVariables false
open Go.RowKit

theorem cells3 {w : World} {g T : Nat} {u v x : Value} (h : Blk w g T [u, v, x]) : w.cell? ⟨g, 0, none⟩ = some u ∧ w.cell? ⟨g, 1, none⟩ = some v ∧ w.cell? ⟨g, 2, none⟩ = some x := ⟨h.cell 0, h.cell 1, h.cell 2⟩
theorem free3 {w : World} {g T : Nat} {cs : List Value} (h : Blk w g T cs) : w.frozen? ⟨g, 0, none⟩ = false ∧ w.frozen? ⟨g, 1, none⟩ = false ∧ w.frozen? ⟨g, 2, none⟩ = false := ⟨h.free 0, h.free 1, h.free 2⟩
theorem res3 {w1 : World} {g T : Nat} {u0 v0 x0 : Value} (u v x : Value) (hk : Blk w1 g T [u0, v0, x0]) :
    (w1.setCell ⟨g, 0, none⟩ u).cell? ⟨g, 0, none⟩ = some u ∧ ((w1.setCell ⟨g, 0, none⟩ u).setCell ⟨g, 1, none⟩ v).cell? ⟨g, 1, none⟩ = some v ∧ (((w1.setCell ⟨g, 0, none⟩ u).setCell ⟨g, 1, none⟩ v).setCell ⟨g, 2, none⟩ x).cell? ⟨g, 2, none⟩ = some x :=
  ⟨(hk.set 0 u).cell 0, ((hk.set 0 u).set 1 v).cell 1, (((hk.set 0 u).set 1 v).set 2 x).cell 2⟩
/-- A block behind three writes to another one, or to itself. -/
theorem Blk.set3 {w : World} {g T : Nat} {u0 v0 x0 : Value} (u v x : Value) (hk : Blk w g T [u0, v0, x0]) : Blk (((w.setCell ⟨g, 0, none⟩ u).setCell ⟨g, 1, none⟩ v).setCell ⟨g, 2, none⟩ x) g T [u, v, x] :=
  ((hk.set 0 u).set 1 v).set 2 x
theorem below_set3' {B : Nat} {w w1 : World} {g : Nat} {u v x : Value} (hb : Below B w w1) (hg : B ≤ g) : Below B w (((w1.setCell ⟨g, 0, none⟩ u).setCell ⟨g, 1, none⟩ v).setCell ⟨g, 2, none⟩ x) :=
  ((hb.setCell (p := ⟨g, 0, none⟩) hg _).setCell (p := ⟨g, 1, none⟩) hg _).setCell (p := ⟨g, 2, none⟩) hg _
section
variable {w w' : World} {B e : Nat} {v : Value} {l : List UInt8}
theorem Own.beside {g : Nat} (h : Own w B e v l) (hg : w.grownBy w' (some g)) (hlt : g < B) : Own w' B e v l :=
  World.ownsRow.kept h hg (by
    cases hv : v.ownBlock with
    | none => exact .inl rfl
    | some k => exact .inr (by have := h.blk hv; simp; omega))
theorem grown_set3 (w : World) (g : Nat) (u v x : Value) : w.grownBy (((w.setCell ⟨g, 0, none⟩ u).setCell ⟨g, 1, none⟩ v).setCell ⟨g, 2, none⟩ x) (some g) :=
  grown_setCell (grown_setCell (grown_setCell (grown_refl _ _) _ _) _ _) _ _
end
/-- One byte in a block of its own. -/
theorem own_one (w : World) (e n : Nat) (hn : n < 256) : Own (w.alloc (.cells #[.int .u8 (n : Int)] e)) w.heap.size e (.slice (some ⟨w.heap.size, 0, none⟩) 1 1) [UInt8.ofNat n] := by
  refine ⟨by simp, .inr ⟨w.heap.size, 1, _, rfl, Nat.le_refl _, heap_alloc_new w _, Nat.le_refl _, by unfold maxLen; omega, rfl, ?_⟩⟩
  simp
  omega
end Go.Proofs.YtnaangnmlbgmkaaGreatDoor

/-
  octet's put of an int, and Put16.
-/
namespace Go.Proofs.YtnaangnmlbgmkaaGreatDoor
open Go.RowKit

/-- Two bytes of a number, the higher one first. -/
def be16 (x : Int) : List UInt8 := [UInt8.ofNat (x / 256 % 256).toNat, UInt8.ofNat (x % 256).toNat]
def PutRel (w : World) (l : List UInt8) (x : Int) (v i : Value) (wr : World) : Prop :=
  Below w.heap.size w wr ∧ ((i = .int .i64 1 ∧ Own wr w.heap.size 5 v l) ∨ (i = .int .i64 0 ∧ Own wr w.heap.size 5 v (l ++ [UInt8.ofNat (x / 256 % 256).toNat])) ∨ (i = .int .i64 (-1) ∧ Own wr w.heap.size 5 v (l ++ be16 x)))
set_option maxHeartbeats 800000 in
theorem put_int (A : Option Addr) (n c : Nat) (l : List UInt8) (hn : n = l.length) (x : Int) (w : World) (hl : l.length ≤ 1000000) (h : Bytes w A l) (_hx0 : -9223372036854775808 ≤ x) (_hx1 : x ≤ 9223372036854775807) :
    Calls Tryz.prog 94 #[.slice A n c, .int .i64 x, .int .i64 2] w (RetBytes w (l ++ be16 x)) := by
  subst hn
  go_enter Tryz.func94, Tryz.ntmps94
  go_wp2_with (first
    | (at_make; refine wpList_make_bytes isBytes rfl _ _ rfl w (l.length : Nat) (l.length + 2 : Nat) l.length (l.length + 2) rfl (by first | rfl | simp) rfl (by simp) (by omega) (by omega) (Below.refl _ _) ?_; intro w1 hown1 hg1 hb1; have H1 := Lib.hid hown1; clear hown1 hg1)
    | (with_reducible refine wpList_copy_bytes isBytes rfl (.tmp 16) (.tmp 17) rfl w _ l.length (l.length + 2) (List.replicate l.length 0) rfl H1.out A l.length c l rfl rfl (by simp) (h.below hb1) hb1 ?_; intro w2 hown2 hg2 hb2; have H2 := Lib.hid hown2; clear hown2 hg2 hb1 H1))
  go_loopw [7, 8] (fun v i wr => PutRel w l x v i wr) (fun _ i _ => (intOf i + 1).toNat)
  case atStart => exact ⟨hb2, .inl ⟨rfl, H2.out⟩⟩
  case round =>
    clear h H2 hb2
    obtain ⟨hbr, hrel | hrel | hrel⟩ := hrel
    · obtain ⟨rfl, hown⟩ := hrel
      have H := Lib.hid hown; clear hown
      go_wp2_with (at_builtin; refine wpList_append_byte isBytes rfl (.tmp 25) (.tmp 31) rfl w _ _ rfl wr _ rfl H.out rfl ?_ ?_ ?_ hbr ?_)
      · omega
      · omega
      · omega
      · intro v' w' hown' _ hb'
        have H' := Lib.hid hown'; clear hown' hbr H
        go_wp2
        go_roundw
        case rel => exact ⟨hb', .inr (.inl ⟨rfl, H'.out⟩)⟩
        case measure => simp [intOf]
    · obtain ⟨rfl, hown⟩ := hrel
      have H := Lib.hid hown; clear hown
      go_wp2_with (at_builtin; refine wpList_append_byte isBytes rfl (.tmp 25) (.tmp 31) rfl w _ _ rfl wr _ rfl H.out rfl ?_ ?_ ?_ hbr ?_)
      · omega
      · omega
      · simp; omega
      · intro v' w' hown' _ hb'
        have H' := Lib.hid hown'; clear hown' hbr H
        go_wp2
        go_roundw
        case rel => exact ⟨hb', .inr (.inr ⟨rfl, H'.out⟩)⟩
        case measure => simp [intOf]
    · obtain ⟨rfl, hown⟩ := hrel
      obtain ⟨A', c', rfl, f1, f2⟩ := hown.form
      have H := Lib.hid hown; clear hown
      go_wp2
      go_ret
      exact ⟨_, _, rfl, f1, f2, H.out, hbr⟩
theorem Put16_any (A : Option Addr) (n c : Nat) (l : List UInt8) (hn : n = l.length) (x : Int) (w : World) (hl : l.length ≤ 1000000) (h : Bytes w A l) (hx0 : -9223372036854775808 ≤ x) (hx1 : x ≤ 9223372036854775807) :
    Calls Tryz.prog 48 #[.slice A n c, .int .i64 x] w (RetBytes w (l ++ be16 x)) := by
  subst hn
  have h35 := Lib.hid (put_int A _ c l rfl x w hl h hx0 hx1)
  clear h hl
  go_enter Tryz.func48, Tryz.ntmps48
  go_wp2_with fail
  refine h35.out.mono ?_
  rintro e w1 ⟨A1, c1, rfl, hr⟩
  go_wp2_with fail
  go_ret
  exact ⟨_, _, by simp, hr⟩
end Go.Proofs.YtnaangnmlbgmkaaGreatDoor

/-
  The document's bytes of numbers.
-/
namespace Go.Proofs.YtnaangnmlbgmkaaGreatDoor
set_option linter.unusedVariables false
set_option linter.unusedSimpArgs false
open Go.RowKit

theorem be16_pos (x : Int) : [UInt8.ofNat (x % 65536 / 256).toNat, UInt8.ofNat (x % 256).toNat] = be16 x := by
  have h1 : x % 65536 / 256 = x / 256 % 256 := by omega
  rw [h1]; rfl
theorem be16_emod' (x : Int) : be16 (x % 65536) = be16 x := by
  have h1 : x % 65536 / 256 % 256 = x / 256 % 256 := by omega
  have h2 : x % 65536 % 256 = x % 256 := by omega
  unfold be16
  rw [h1, h2]
theorem tmod_neg {x : Int} (h : x < 0) : x.tmod 65536 = -((-x) % 65536) := by
  obtain ⟨y, rfl⟩ : ∃ y, x = -y := ⟨-x, by omega⟩
  rw [Int.neg_tmod, Int.neg_neg, Int.tmod_eq_emod_of_nonneg (by omega)]
theorem be16_neg {x : Int} (h : x < 0) (hm : x.tmod 65536 < 0) : [UInt8.ofNat ((x.tmod 65536 + 65536) / 256).toNat, UInt8.ofNat ((x.tmod 65536 + 65536) % 256).toNat] = be16 x := by
  have h1 := tmod_neg h
  have h2 : (x.tmod 65536 + 65536) / 256 = x / 256 % 256 := by omega
  have h3 : (x.tmod 65536 + 65536) % 256 = x % 256 := by omega
  rw [h2, h3]; rfl
theorem be16_zero {x : Int} (h : x < 0) (hm : x.tmod 65536 = 0) : ([0, 0] : List UInt8) = be16 x := by
  have h1 := tmod_neg h
  have h2 : x / 256 % 256 = 0 := by omega
  have h3 : x % 256 = 0 := by omega
  unfold be16
  rw [h2, h3]; rfl

set_option maxHeartbeats 800000 in
theorem refPut16_any (A : Option Addr) (n c : Nat) (l : List UInt8) (hn : n = l.length) (x : Int) (w : World) (hl : l.length ≤ 140737488355300) (h : Bytes w A l) (hx0 : -9223372036854775808 ≤ x) (hx1 : x ≤ 9223372036854775807) :
    Calls Tryz.prog 24 #[.slice A n c, .int .i64 x] w (RetBytes w (l ++ be16 x)) := by
  subst hn
  by_cases hx : 0 ≤ x
  · go_enter Tryz.func24, Tryz.ntmps24
    go_wp2_with (first
      | (at_builtin; refine wpList_append_bytes isBytes rfl (.tmp 13) (.tmp 14) rfl w (.slice none 0 0) [] rfl (Own.nil w _ _) A l l.length c rfl rfl h (by simp; omega) (Below.refl _ _) ?_; intro v1 w1 hown1 hg1 hb1; have H1 := Lib.hid hown1; clear hown1 hg1 h)
      | (at_builtin; refine wpList_append_byte isBytes rfl (.tmp 16) (.tmp 20) rfl w v1 l rfl w1 _ rfl H1.out rfl ?a0p ?a1p ?a2p hb1 ?_))
    case a0p => omega
    case a1p => omega
    case a2p => omega
    intro v2 w2 hown2 hg2 hb2
    have H2 := Lib.hid hown2; clear hown2 hg2 hb1 H1
    go_wp2_with (at_builtin; refine wpList_append_byte isBytes rfl (.tmp 22) (.tmp 26) rfl w v2 _ rfl w2 _ rfl H2.out rfl ?b0p ?b1p ?b2p hb2 ?_)
    case b0p => omega
    case b1p => omega
    case b2p => simp; omega
    intro v3 w3 hown3 hg3 hb3
    obtain ⟨A', c', rfl, f1, f2⟩ := hown3.form
    have H := Lib.hid hown3; clear hown3 hg3 hb2 H2
    go_wp2
    go_ret
    exact ret_own (by simp) f1 f2 H.out hb3 (by simpa using congrArg (l ++ ·) (be16_pos x))
  · have hx' : x < 0 := by omega
    clear hx
    have t1 := tmod_neg hx'
    have t2 : -65536 < x.tmod 65536 := by omega
    by_cases hm : x.tmod 65536 < 0
    · have e2 := Lib.hid (be16_neg hx' hm)
      clear t1
      go_enter Tryz.func24, Tryz.ntmps24
      go_wp2_with (first
        | (at_builtin; refine wpList_append_bytes isBytes rfl (.tmp 13) (.tmp 14) rfl w (.slice none 0 0) [] rfl (Own.nil w _ _) A l l.length c rfl rfl h (by simp; omega) (Below.refl _ _) ?_; intro v1 w1 hown1 hg1 hb1; have H1 := Lib.hid hown1; clear hown1 hg1 h)
        | (at_builtin; refine wpList_append_byte isBytes rfl (.tmp 16) (.tmp 20) rfl w v1 l rfl w1 _ rfl H1.out rfl ?a0n ?a1n ?a2n hb1 ?_))
      case a0n => omega
      case a1n => omega
      case a2n => omega
      intro v2 w2 hown2 hg2 hb2
      have H2 := Lib.hid hown2; clear hown2 hg2 hb1 H1
      go_wp2_with (at_builtin; refine wpList_append_byte isBytes rfl (.tmp 22) (.tmp 26) rfl w v2 _ rfl w2 _ rfl H2.out rfl ?b0n ?b1n ?b2n hb2 ?_)
      case b0n => omega
      case b1n => omega
      case b2n => simp; omega
      intro v3 w3 hown3 hg3 hb3
      obtain ⟨A', c', rfl, f1, f2⟩ := hown3.form
      have H := Lib.hid hown3; clear hown3 hg3 hb2 H2
      go_wp2
      go_ret
      exact ret_own (by simp) f1 f2 H.out hb3 (by simpa using congrArg (l ++ ·) e2.out)
    · have hm0 : x.tmod 65536 = 0 := by omega
      have e2 := Lib.hid (be16_zero hx' hm0)
      clear t1 t2 hm
      go_enter Tryz.func24, Tryz.ntmps24
      go_wp2_with (first
        | (at_builtin; refine wpList_append_bytes isBytes rfl (.tmp 13) (.tmp 14) rfl w (.slice none 0 0) [] rfl (Own.nil w _ _) A l l.length c rfl rfl h (by simp; omega) (Below.refl _ _) ?_; intro v1 w1 hown1 hg1 hb1; have H1 := Lib.hid hown1; clear hown1 hg1 h)
        | (at_builtin; refine wpList_append_byte isBytes rfl (.tmp 16) (.tmp 20) rfl w v1 l rfl w1 _ rfl H1.out rfl ?a0z ?a1z ?a2z hb1 ?_))
      case a0z => omega
      case a1z => omega
      case a2z => omega
      intro v2 w2 hown2 hg2 hb2
      have H2 := Lib.hid hown2; clear hown2 hg2 hb1 H1
      go_wp2_with (at_builtin; refine wpList_append_byte isBytes rfl (.tmp 22) (.tmp 26) rfl w v2 _ rfl w2 _ rfl H2.out rfl ?b0z ?b1z ?b2z hb2 ?_)
      case b0z => omega
      case b1z => omega
      case b2z => simp; omega
      intro v3 w3 hown3 hg3 hb3
      obtain ⟨A', c', rfl, f1, f2⟩ := hown3.form
      have H := Lib.hid hown3; clear hown3 hg3 hb2 H2
      go_wp2
      go_ret
      exact ret_own (by simp) f1 f2 H.out hb3 (by simpa using congrArg (l ++ ·) e2.out)

theorem be32_two {x : Int} (_h0 : 0 ≤ x) (_h1 : x < 4294967296) (l : List UInt8) : l ++ be16 (x / 65536) ++ be16 (x % 65536) = l ++ be32 x := by
  have h3 : x / 65536 / 256 % 256 = x / 16777216 % 256 := by omega
  rw [be16_emod', List.append_assoc]
  simp [be16, be32, h3]

set_option maxHeartbeats 400000 in
theorem refPut32_any (A : Option Addr) (n c : Nat) (l : List UInt8) (hn : n = l.length) (x : Int) (w : World) (hl : l.length ≤ 140737488355296) (h : Bytes w A l) (hx0 : 0 ≤ x) (hx1 : x < 4294967296) :
    Calls Tryz.prog 52 #[.slice A n c, .int .u32 x] w (RetBytes w (l ++ be32 x)) := by
  subst hn
  have e1 := Lib.hid (be32_two hx0 hx1 l)
  go_enter Tryz.func52, Tryz.ntmps52
  go_wp2_with fail
  refine (refPut16_any A _ c l rfl (x / 65536) w (by omega) h (by omega) (by omega)).mono ?_
  clear h
  rintro e w1 ⟨A1, c1, rfl, f1, f2, hown1, hb1⟩
  have H1 := Lib.hid hown1; clear hown1 f1 f2
  go_wp2_with fail
  refine (refPut16_any A1 _ c1 (l ++ be16 (x / 65536)) (by simp) (x % 65536) w1 (by simp [be16]; omega) H1.out.bytes (by omega) (by omega)).mono ?_
  rintro e w2 ⟨A2, c2, rfl, f1, f2, hown2, hb2⟩
  rw [e1.out] at hown2 f1
  have H2 := Lib.hid hown2; have F1 := Lib.hid f1; clear hown2 f1 H1
  go_wp2_with fail
  go_ret
  exact ret_own (by simp [be16, be32]) F1.out f2 (H2.out.lower hb1.size) (hb1.trans (hb2.mono hb1.size)) rfl
end Go.Proofs.YtnaangnmlbgmkaaGreatDoor

/-
  When two lists of bytes are the same to the document.
-/
namespace Go.Proofs.YtnaangnmlbgmkaaGreatDoor
open Go.RowKit

set_option maxHeartbeats 400000 in
theorem Same_any (A A' : Option Addr) (n n' c c' : Nat) (l m : List UInt8) (hn : n = l.length) (hn' : n' = m.length) (w : World) (h : Bytes w A l) (h' : Bytes w A' m) :
    Calls Tryz.prog 10 #[.slice A n c, .slice A' n' c'] w fun e w' => e = .returned (.bool (l == m)) ∧ w = w' := by
  subst hn; subst hn'
  have k1 := conv_bytes (d := 9) isBytes Tryz.underlying9 h c
  have k2 := conv_bytes (d := 9) isBytes Tryz.underlying9 h' c'
  clear h h'
  go_enter Tryz.func10, Tryz.ntmps10
  go_wp2_with fail
  go_ret
  exact ⟨rfl, rfl⟩
end Go.Proofs.YtnaangnmlbgmkaaGreatDoor

/-
  A region that draws its order, and ends in operations that wait for all others: by an invariant, and the walk of its tail; no program stands here.
-/
namespace Go.Proofs.YtnaangnmlbgmkaaGreatDoor
set_option linter.unusedVariables false
set_option linter.unusedSimpArgs false
open Go.RowKit

/-- From m on each operation waits for all that stand ahead of it, itself or by one that it waits for. -/
def tailB (ops : Array Oper) (m : Nat) : Bool :=
  (List.range ops.size).all fun j => decide (j < m) || match ops[j]? with
    | some o => (List.range j).all fun i => waitsB o i || (List.range j).any fun k => waitsB o k && match ops[k]? with
      | some ok => waitsB ok i
      | none => false
    | none => true
section
variable {P : Program} {ops : Array Oper}
theorem tail_spec {m : Nat} (h : tailB ops m = true) {j : Nat} {o : Oper} (hj : ops[j]? = some o) (hm : m ≤ j) {i : Nat} (hi : i < j) : waitsB o i = true ∨ ∃ (k : Nat) (ok : Oper), k < j ∧ ops[k]? = some ok ∧ waitsB o k = true ∧ waitsB ok i = true := by
  unfold tailB at h
  simp only [List.all_eq_true, List.mem_range] at h
  have h1 := h j (Array.getElem?_eq_some_iff.1 hj).1
  rw [hj] at h1
  simp only [Bool.or_eq_true, decide_eq_true_eq, List.all_eq_true, List.mem_range, List.any_eq_true, Bool.and_eq_true] at h1
  rcases h1 with h1 | h1
  · omega
  · rcases h1 i hi with h2 | ⟨k, hk, h3, h4⟩
    · exact .inl h2
    · right
      cases hok : ops[k]? with
      | none => rw [hok] at h4; cases h4
      | some ok => rw [hok] at h4; exact ⟨k, ok, hk, hok, h3, h4⟩
theorem waits_listed {o : Oper} {listed : Array Bool} (h : ∀ e ∈ o.after, Region.binds .any e = true → listed.getD e.on false = true) {k : Nat} (hk : waitsB o k = true) : listed.getD k false = true := by
  unfold waitsB at hk
  rw [Array.any_eq_true'] at hk
  obtain ⟨e, he, hb2⟩ := hk
  simp only [Bool.and_eq_true, beq_iff_eq] at hb2
  rw [← hb2.2]
  exact h e he hb2.1

/-- THE LAW. -/
theorem region_tail {Q : Exit → Act → World → Prop} {id : Nat} {a0 : Act} {w0 : World} (hm : P.follows .mixedOrders = true) (m : Nat)
    (D : Nat → World → Value → Prop) (R : World → World → Prop) (J : Act → World → Prop)
    (hD : ∀ i w w' v, D i w v → R w w' → D i w' v)
    (hshape : flowB ops a0.tmps.size = true) (htail : tailB ops m = true) (hmz : m < ops.size) (hJ0 : J a0 w0.drew)
    (hstep : ∀ (i : Nat) (o : Oper), i < m → ops[i]? = some o → ∀ (a : Act) (w : World), J a w → (∀ s, freeB ops s = true → a.tmps.getD s undef = a0.tmps.getD s undef) → a.tmps.size = a0.tmps.size →
      (∀ (j : Nat) (oj : Oper) (s : Tmp), ops[j]? = some oj → oj.dst = some s → waitsB o j = true → D j w (a.tmps.getD s undef)) → OpTo P o a.eval w (fun v w' => R w w' ∧ D i w' (seen o v) ∧ J (a.put o.dst v) w'))
    (hdone : ∀ (a : Act) (w : World), J a w → (∀ s, freeB ops s = true → a.tmps.getD s undef = a0.tmps.getD s undef) → a.tmps.size = a0.tmps.size → a.defers = a0.defers →
      (∀ (j : Nat) (oj : Oper), j < m → ops[j]? = some oj → D j w (slotOf oj a)) → wpList P ops Q (ops.toList.drop m) a w) :
    (Code.region id ops true).wp P Q a0 w0 := by
  obtain ⟨hg, hb, hn, hd⟩ := flow_spec hshape
  refine wp_region_any hm ?_
  refine wpAny_inv (fun listed a w => listed.size = ops.size ∧
    (((∀ j, m ≤ j → listed.getD j false = false) ∧ (∀ (j : Nat) (oj : Oper), ops[j]? = some oj → listed.getD j false = true → ∀ e ∈ oj.after, Region.binds .any e = true → listed.getD e.on false = true) ∧
      J a w ∧ (∀ s, freeB ops s = true → a.tmps.getD s undef = a0.tmps.getD s undef) ∧ a.tmps.size = a0.tmps.size ∧ a.defers = a0.defers ∧
      ∀ (j : Nat) (oj : Oper), ops[j]? = some oj → listed.getD j false = true → D j w (slotOf oj a)) ∨
     ∃ k, m ≤ k ∧ (∀ j, j < k → listed.getD j true = true) ∧ (∀ j, k ≤ j → listed.getD j false = false) ∧ wpList P ops Q (ops.toList.drop k) a w)) ?_ ?_ _ _ _ _ ?_ (by simp) ?_
  · rintro listed a w i o ⟨hs, hI⟩ hi ho
    have hm' := mem_ready.1 hi
    obtain ⟨o', ho', hw⟩ := hm'.2
    obtain rfl : o = o' := Option.some.inj (ho.symm.trans ho')
    have hil := (Array.getElem?_eq_some_iff.1 ho).1
    have hif : listed.getD i false = false := by
      have := hm'.1
      simp [hs, hil] at this ⊢
      exact this
    -- the tail's walk, one further
    have tail : ∀ k, k = i → m ≤ k → (∀ j, j < k → listed.getD j true = true) → (∀ j, k ≤ j → listed.getD j false = false) → wpList P ops Q (ops.toList.drop k) a w →
        wpOp P ops Q i (fun a' w' => (listed.setIfInBounds i true).size = ops.size ∧
          (((∀ j, m ≤ j → (listed.setIfInBounds i true).getD j false = false) ∧ (∀ (j : Nat) (oj : Oper), ops[j]? = some oj → (listed.setIfInBounds i true).getD j false = true → ∀ e ∈ oj.after, Region.binds .any e = true → (listed.setIfInBounds i true).getD e.on false = true) ∧
            J a' w' ∧ (∀ s, freeB ops s = true → a'.tmps.getD s undef = a0.tmps.getD s undef) ∧ a'.tmps.size = a0.tmps.size ∧ a'.defers = a0.defers ∧
            ∀ (j : Nat) (oj : Oper), ops[j]? = some oj → (listed.setIfInBounds i true).getD j false = true → D j w' (slotOf oj a')) ∨
           ∃ k, m ≤ k ∧ (∀ j, j < k → (listed.setIfInBounds i true).getD j true = true) ∧ (∀ j, k ≤ j → (listed.setIfInBounds i true).getD j false = false) ∧ wpList P ops Q (ops.toList.drop k) a' w')) a w := by
      rintro k rfl hmk h1 h2 hl
      have hlt : k < ops.toList.length := by simpa using hil
      have hoe : ops.toList[k] = o := by
        have := (Array.getElem?_eq_some_iff.1 ho).2
        simpa using this
      rw [List.drop_eq_getElem_cons hlt, hoe] at hl
      have go : wpOp P ops Q k (wpList P ops Q (ops.toList.drop (k + 1))) a w := by
        unfold wpOp
        rw [ho]
        exact hl
      refine wpOp_mono (fun a' w' h' => ⟨by simpa using hs, .inr ⟨k + 1, by omega, fun j hj => ?_, fun j hj => ?_, h'⟩⟩) go
      · by_cases e : j = k
        · subst e; simp [hs, hil]
        · have := h1 j (by omega)
          simpa [Array.getD_eq_getD_getElem?, Array.getElem?_setIfInBounds, Ne.symm e] using this
      · have := h2 j (by omega)
        have e : k ≠ j := by omega
        simpa [Array.getD_eq_getD_getElem?, Array.getElem?_setIfInBounds, e] using this
    rcases hI with ⟨hnl, hcl, hJ, hf, hz, hdf, hl⟩ | ⟨k, hmk, h1, h2, hlst⟩
    · by_cases him : i < m
      · unfold wpOp
        rw [ho]
        have hwant : Region.wanted o (yielded ops a.tmps) = true := by simp [Region.wanted, hg i o ho]
        simp only [hwant, if_true]
        refine .inl (opTo_wp (hstep i o him ho a w hJ hf hz (fun j oj s hj hjs hwt => ?_)) ?_)
        · have := hl j oj hj (waits_listed hw hwt)
          unfold slotOf at this
          rw [hjs] at this
          exact this
        · rintro v w' ⟨hR, hDi, hJ'⟩
          have other : ∀ s, o.dst ≠ some s → (a.put o.dst v).tmps.getD s undef = a.tmps.getD s undef := by
            intro s hs'
            cases hdst : o.dst with
            | none => rfl
            | some d =>
              have hne : d ≠ s := fun e => hs' (by rw [hdst, e])
              simp [Act.put, Array.getD_eq_getD_getElem?, Array.getElem?_setIfInBounds, hne]
          refine ⟨by simpa using hs, .inl ⟨fun j hj => ?_, fun j oj hj hlj e he hbe => ?_, hJ', fun s hsf => ?_, ?_, ?_, fun j oj hj hlj => ?_⟩⟩
          · have := hnl j hj
            have e : i ≠ j := by omega
            simpa [Array.getD_eq_getD_getElem?, Array.getElem?_setIfInBounds, e] using this
          · have h6 : listed.getD e.on false = true := by
              by_cases hji : j = i
              · subst hji
                obtain rfl : o = oj := Option.some.inj (ho.symm.trans hj)
                exact hw e he hbe
              · refine hcl j oj hj ?_ e he hbe
                simpa [Array.getD_eq_getD_getElem?, Array.getElem?_setIfInBounds, Ne.symm hji] using hlj
            by_cases he2 : i = e.on
            · rw [← he2] at h6; rw [hif] at h6; cases h6
            · simpa [Array.getD_eq_getD_getElem?, Array.getElem?_setIfInBounds, he2] using h6
          · rw [other s ?_]
            · exact hf s hsf
            · intro e
              unfold freeB at hsf
              have := List.all_eq_true.1 hsf o (Array.mem_toList_iff.2 (Array.mem_of_getElem? ho))
              simp [e] at this
          · rw [← hz]
            cases o.dst <;> simp [Act.put]
          · rw [← hdf]
            cases o.dst <;> rfl
          · by_cases hji : j = i
            · subst hji
              obtain rfl : o = oj := Option.some.inj (ho.symm.trans hj)
              unfold seen at hDi
              unfold slotOf
              cases hdst : o.dst with
              | none => rw [hdst] at hDi; exact hDi
              | some d =>
                rw [hdst] at hDi
                have hlt : d < a.tmps.size := by rw [hz]; exact hn j o d ho hdst
                simpa [Act.put, Array.getD_eq_getD_getElem?, Array.getElem?_setIfInBounds, hlt] using hDi
            · have hlj' : listed.getD j false = true := by
                simpa [Array.getD_eq_getD_getElem?, Array.getElem?_setIfInBounds, Ne.symm hji] using hlj
              have h3 := hD j w w' _ (hl j oj hj hlj') hR
              unfold slotOf at h3 ⊢
              cases hdj : oj.dst with
              | none => rw [hdj] at h3; exact h3
              | some s =>
                rw [hdj] at h3
                simp only at h3 ⊢
                rw [other s (fun e => hji (hd j i oj o s hj ho hdj e))]
                exact h3
      · -- the tail begins
        have hall : ∀ j, j < i → listed.getD j false = true := by
          intro j hj
          rcases tail_spec htail ho (by omega) hj with h5 | ⟨k, ok, hk, hok, h6, h7⟩
          · exact waits_listed hw h5
          · exact waits_listed (hcl k ok hok (waits_listed hw h6)) h7
        have hmi : i = m := by
          rcases Nat.lt_or_ge m i with h8 | h8
          · have h9 := hall m h8
            rw [hnl m (Nat.le_refl _)] at h9
            cases h9
          · omega
        subst hmi
        refine tail i rfl (Nat.le_refl _) (fun j hj => ?_) (fun j hj => hnl j hj) (hdone a w hJ hf hz hdf fun j oj hj hoj => hl j oj hoj (hall j hj))
        have h10 := hall j hj
        have hjz : j < listed.size := by omega
        simp [hjz] at h10 ⊢
        exact h10
    · have hki : k = i := by
        rcases Nat.lt_trichotomy k i with h3 | h3 | h3
        · rcases tail_spec htail ho (by omega) h3 with h5 | ⟨k', ok, hk', hok, h6, h7⟩
          · have := waits_listed hw h5
            rw [h2 k (Nat.le_refl _)] at this; cases this
          · have h8 := waits_listed hw h6
            rcases Nat.lt_or_ge k' k with h9 | h9
            · have h10 := hb k' ok hok
              unfold waitsB at h7
              rw [Array.any_eq_true'] at h7
              obtain ⟨e, he, hb2⟩ := h7
              simp only [Bool.and_eq_true, beq_iff_eq] at hb2
              have := h10 e he
              omega
            · rw [h2 k' h9] at h8; cases h8
        · exact h3
        · have h11 := h1 i h3
          rw [hm'.1] at h11; cases h11
      exact tail k hki hmk h1 h2 hlst
  · rintro listed a w ⟨hs, hI⟩ hr
    have hal := ready_nil_all hs hb hr
    rcases hI with ⟨hnl, _⟩ | ⟨k, hmk, h1, h2, hlst⟩
    · have := hal m hmz
      rw [hnl m (Nat.le_refl _)] at this
      cases this
    · have hk : ops.size ≤ k := by
        rcases Nat.lt_or_ge k ops.size with h3 | h3
        · have := hal k h3
          rw [h2 k (Nat.le_refl _)] at this; cases this
        · exact h3
      rw [List.drop_eq_nil_of_le (by simpa using hk)] at hlst
      exact hlst
  · unfold leftN; simp
  · refine ⟨by simp, .inl ⟨fun j hj => ?_, fun j oj hj hl => ?_, hJ0, fun _ _ => rfl, rfl, rfl, fun j oj hj hl => ?_⟩⟩
    · by_cases hlt : j < ops.size
      · simp [hlt]
      · simp [Array.getElem?_eq_none (show (Array.replicate ops.size false).size ≤ j by simp; omega)]
    · exfalso
      have hlt := (Array.getElem?_eq_some_iff.1 hj).1
      simp [hlt] at hl
    · exfalso
      have hlt := (Array.getElem?_eq_some_iff.1 hj).1
      simp [hlt] at hl
theorem act_eq {A : Act} {t : Array Value} (hd : A.defers = []) (hs : A.tmps.size = t.size) (h : ∀ s, s < t.size → A.tmps.getD s undef = t.getD s undef) : A = { tmps := t, defers := [] } := by
  obtain ⟨at_, ad⟩ := A
  simp only at hd hs h
  subst hd
  congr 1
  apply Array.ext hs
  intro i h1 h2
  have := h i h2
  simpa [h1, h2] using this
end
end Go.Proofs.YtnaangnmlbgmkaaGreatDoor

/-
  How long a path counts; whether it may be: the program's answer and the document's.
-/
namespace Go.Proofs.YtnaangnmlbgmkaaGreatDoor
set_option linter.unusedVariables false
set_option linter.unusedSimpArgs false
open Go.RowKit

/-- How many numbers a path has. -/
def totN (L : List Sg) : Nat := (L.map fun s => s.nums.length).sum
/-- How much a segment counts. -/
def wt (s : Sg) : Nat := if s.kind = 1 then 1 else s.nums.length
/-- How long a path counts. -/
def cntN (L : List Sg) : Nat := (L.map wt).sum
theorem sum_take {f : Sg → Nat} {L : List Sg} {j : Nat} {s : Sg} (h : L[j]? = some s) : ((L.take (j + 1)).map f).sum = ((L.take j).map f).sum + f s := by
  have hj := (List.getElem?_eq_some_iff.1 h).1
  rw [List.take_succ_eq_append_getElem hj]
  have e : L[j] = s := (List.getElem?_eq_some_iff.1 h).2
  simp [e]
theorem sum_take_le (f : Sg → Nat) (L : List Sg) (j : Nat) : ((L.take j).map f).sum ≤ (L.map f).sum := by
  have e : (L.map f).sum = ((L.take j).map f).sum + ((L.drop j).map f).sum := by
    rw [← List.sum_append, ← List.map_append, List.take_append_drop]
  omega
theorem cnt_le : ∀ (L : List Sg), cntN L ≤ totN L + L.length := by
  intro L
  induction L with
  | nil => simp [cntN, totN]
  | cons s L ih =>
    have h : wt s ≤ s.nums.length + 1 := by unfold wt; split <;> omega
    simp only [cntN, totN, List.map_cons, List.sum_cons, List.length_cons] at ih ⊢
    omega
theorem nums_le {L : List Sg} {j : Nat} {s : Sg} (h : L[j]? = some s) : s.nums.length ≤ totN L := by
  have h1 := sum_take (f := fun s => s.nums.length) h
  have h2 := sum_take_le (fun s => s.nums.length) L (j + 1)
  unfold totN
  omega

theorem weight_any (s : Sg) (w : World) :
    Calls Tryz.prog 139 #[.agg #[.int .i64 s.kind, .slice s.adr s.nums.length s.cap]] w fun e w' => e = .returned (.int .i64 ((wt s : Nat) : Int)) ∧ Below w.heap.size w w' := by
  by_cases hk : s.kind = 1
  · have e : wt s = 1 := by unfold wt; rw [if_pos hk]
    have HE := Lib.hid e; clear e
    have hk1 : (s.kind == 1) = true := by simpa using hk
    clear hk
    go_enter Tryz.func139, Tryz.ntmps139
    go_wp2_with fail
    go_ret
    exact ⟨by rw [HE.out]; rfl, (Below.refl _ _).alloc (Nat.le_refl _) _⟩
  · have e : wt s = s.nums.length := by unfold wt; rw [if_neg hk]
    have HE := Lib.hid e; clear e
    have hk1 : (s.kind == 1) = false := by simpa using hk
    clear hk
    go_enter Tryz.func139, Tryz.ntmps139
    go_wp2_with fail
    go_ret
    exact ⟨by rw [HE.out]; rfl, (Below.refl _ _).alloc (Nat.le_refl _) _⟩

set_option maxHeartbeats 1600000 in
theorem Count_any (A : Option Addr) (c : Nat) (L : List Sg) (w : World) (h : Segs w w.heap.size A L) (hc : L.length ≤ c) (hm : c ≤ maxLen) (ht : totN L + L.length ≤ 1152921504606846976) :
    Calls Tryz.prog 129 #[.slice A L.length c] w fun e w' => e = .returned (.int .i64 ((cntN L : Nat) : Int)) ∧ Below w.heap.size w w' := by
  have HS := Lib.hid h; clear h
  have hcl := cnt_le L
  have QW := fun s W => Lib.hid (weight_any s W)
  go_enter Tryz.func129, Tryz.ntmps129
  go_wp2_with fail
  go_loopw [3, 8] (fun n i wr => Below w.heap.size w wr ∧ ∃ j : Nat, j ≤ L.length ∧ i = .int .i64 (j : Int) ∧ n = .int .i64 ((cntN (L.take j) : Nat) : Int)) (fun _ i _ => L.length - (intOf i).toNat)
  case atStart => exact ⟨Below.refl _ _, 0, Nat.zero_le _, rfl, by simp [cntN]⟩
  case round =>
    obtain ⟨hbr, j, hj, rfl, rfl⟩ := hrel
    by_cases hlt : j < L.length
    · obtain ⟨s, hs⟩ : ∃ s, L[j]? = some s := ⟨_, List.getElem?_eq_getElem hlt⟩
      obtain ⟨b, off, rfl, hb, k1, k2, hok⟩ := (HS.out.below hbr (Nat.le_refl _)).at hs
      have HST := Lib.hid (show cntN (L.take (j + 1)) = cntN (L.take j) + wt s from sum_take hs)
      have hle := sum_take_le wt L (j + 1)
      have hle2 : cntN (L.take j) + wt s ≤ 1152921504606846976 := by rw [← HST.out]; exact Nat.le_trans hle (Nat.le_trans hcl ht)
      clear hle hok hs
      go_wp2_with fail
      refine (QW s _).out.mono ?_
      rintro e w2 ⟨rfl, hb2⟩
      go_wp2_with fail
      go_roundw
      case rel => exact ⟨hbr.trans (((Below.refl wr.heap.size wr).alloc (Nat.le_refl _) _).trans (hb2.mono (by simp)) |>.mono hbr.size), j + 1, by omega, by go_num, by rw [HST.out]; go_num⟩
      case measure => simp [intOf]; omega
    · obtain rfl : j = L.length := by omega
      go_wp2_with fail
      go_ret
      exact ⟨by rw [List.take_length]; rfl, hbr⟩

/-- May a part of a path be? -/
def okS (s : Sg) : Bool := (s.kind == 1 || s.kind == 2) && (s.nums.length != 0)
/-- May a path be? -/
def rightB (L : List Sg) : Bool := decide (L.length ≤ 8) && (L.all okS && decide (totN L ≤ 64))
theorem right_len {L : List Sg} (h : ¬ L.length ≤ 8) : rightB L = false := by unfold rightB; rw [decide_eq_false h]; rfl
theorem right_bad {L : List Sg} {j : Nat} {s : Sg} (h : L[j]? = some s) (hs : okS s = false) : rightB L = false := by
  have hm : s ∈ L := List.mem_of_getElem? h
  have : L.all okS = false := by
    rw [List.all_eq_false]
    exact ⟨s, hm, by simp [hs]⟩
  unfold rightB
  rw [this]
  simp
theorem right_end {L : List Sg} (h8 : L.length ≤ 8) (h : (L.take L.length).all okS = true) : rightB L = decide (totN L ≤ 64) := by
  rw [List.take_length] at h
  unfold rightB
  rw [h, decide_eq_true h8]
  simp
theorem right_big {L : List Sg} {j : Nat} {s : Sg} (h : L[j]? = some s) (hs : 64 < s.nums.length) : rightB L = false := by
  have := nums_le h
  unfold rightB
  rw [decide_eq_false (show ¬ totN L ≤ 64 by omega)]
  simp
theorem all_take {L : List Sg} {j : Nat} {s : Sg} (h : L[j]? = some s) (ha : (L.take j).all okS = true) (hs : okS s = true) : (L.take (j + 1)).all okS = true := by
  have hj := (List.getElem?_eq_some_iff.1 h).1
  rw [List.take_succ_eq_append_getElem hj, List.all_append, ha]
  have e : L[j] = s := (List.getElem?_eq_some_iff.1 h).2
  simp [e, hs]
/-- The three ways of a part: it may be, its kind may not be, it has no numbers. -/
theorem okS_ways (s : Sg) : (okS s = true ∧ s.kind = 1 ∧ 0 < s.nums.length) ∨ (okS s = true ∧ s.kind = 2 ∧ 0 < s.nums.length) ∨ (okS s = false ∧ s.kind ≠ 1 ∧ s.kind ≠ 2) ∨ (okS s = false ∧ s.kind = 1 ∧ s.nums.length = 0) ∨ (okS s = false ∧ s.kind = 2 ∧ s.nums.length = 0) := by
  unfold okS
  by_cases h1 : s.kind = 1
  · by_cases h0 : s.nums.length = 0
    · right; right; right; left; simp [h1, h0]
    · left; simp [h1, h0]; omega
  · by_cases h2 : s.kind = 2
    · by_cases h0 : s.nums.length = 0
      · right; right; right; right; simp [h2, h0]
      · right; left; simp [h2, h0]; omega
    · right; right; left; simp [h1, h2]

set_option maxHeartbeats 3200000 in
theorem Right_any (A : Option Addr) (c : Nat) (L : List Sg) (w : World) (h : Segs w w.heap.size A L) (hc : L.length ≤ c) (hm : c ≤ maxLen) (ht : totN L ≤ 1152921504606846976) :
    Calls Tryz.prog 114 #[.slice A L.length c] w fun e w' => e = .returned (.bool (rightB L)) ∧ Below w.heap.size w w' := by
  have HS := Lib.hid h; clear h
  by_cases h8 : L.length ≤ 8
  · have h8I : ¬ (8 : Int) < (L.length : Int) := by omega
    go_enter Tryz.func114, Tryz.ntmps114
    go_wp2_with fail
    go_loopw [3, 11] (fun n i wr => Below w.heap.size w wr ∧ ∃ j : Nat, j ≤ L.length ∧ i = .int .i64 (j : Int) ∧ n = .int .i64 ((totN (L.take j) : Nat) : Int) ∧ Hid ((L.take j).all okS = true)) (fun _ i _ => L.length - (intOf i).toNat)
    case atStart => exact ⟨Below.refl _ _, 0, Nat.zero_le _, rfl, by simp [totN], Lib.hid (by simp)⟩
    case round =>
      obtain ⟨hbr, j, hj, rfl, rfl, hall⟩ := hrel
      by_cases hlt : j < L.length
      · obtain ⟨s, hs⟩ : ∃ s, L[j]? = some s := ⟨_, List.getElem?_eq_getElem hlt⟩
        obtain ⟨b, off, rfl, hb, k1, k2, hok⟩ := (HS.out.below hbr (Nat.le_refl _)).at hs
        have HST := Lib.hid (show totN (L.take (j + 1)) = totN (L.take j) + s.nums.length from sum_take hs)
        have hle := sum_take_le (fun s => s.nums.length) L (j + 1)
        have hle2 : totN (L.take j) + s.nums.length ≤ 1152921504606846976 := by rw [← HST.out]; exact Nat.le_trans hle ht
        have HG := Lib.hid (all_take hs hall.out)
        have HB := Lib.hid (right_bad hs)
        have hbA := hbr.alloc hbr.size (.cells #[.int .i64 s.kind, .slice s.adr s.nums.length s.cap] 112)
        clear hle hok hs hall
        rcases okS_ways s with ⟨h0, h1, h2⟩ | ⟨h0, h1, h2⟩ | ⟨h0, h1, h2⟩ | ⟨h0, h1, h2⟩ | ⟨h0, h1, h2⟩
        · have HA := Lib.hid (HG.out h0)
          have e1 : (s.kind != 1) = false := by simpa using h1
          have e3 : ((s.nums.length : Int) == 0) = false := by simpa using (show ¬ (s.nums.length : Int) = 0 by omega)
          clear h0 h1 h2
          go_wp2_with fail
          go_roundw
          case rel => exact ⟨hbA, j + 1, by omega, by go_num, by rw [HST.out]; go_num, HA⟩
          case measure => simp [intOf]; omega
        · have HA := Lib.hid (HG.out h0)
          have e1 : (s.kind != 1) = true := by simp [h1]
          have e2 : (s.kind != 2) = false := by simpa using h1
          have e3 : ((s.nums.length : Int) == 0) = false := by simpa using (show ¬ (s.nums.length : Int) = 0 by omega)
          clear h0 h1 h2
          go_wp2_with fail
          go_roundw
          case rel => exact ⟨hbA, j + 1, by omega, by go_num, by rw [HST.out]; go_num, HA⟩
          case measure => simp [intOf]; omega
        · have HE := Lib.hid (HB.out h0)
          have e1 : (s.kind != 1) = true := by simpa using h1
          have e2 : (s.kind != 2) = true := by simpa using h2
          clear h0 h1 h2
          go_wp2_with fail
          go_ret
          exact ⟨by rw [HE.out]; rfl, hbA⟩
        · have HE := Lib.hid (HB.out h0)
          have e1 : (s.kind != 1) = false := by simpa using h1
          have e3 : ((s.nums.length : Int) == 0) = true := by simpa using (show (s.nums.length : Int) = 0 by omega)
          clear h0 h1 h2
          go_wp2_with fail
          go_ret
          exact ⟨by rw [HE.out]; rfl, hbA⟩
        · have HE := Lib.hid (HB.out h0)
          have e1 : (s.kind != 1) = true := by simp [h1]
          have e2 : (s.kind != 2) = false := by simpa using h1
          have e3 : ((s.nums.length : Int) == 0) = true := by simpa using (show (s.nums.length : Int) = 0 by omega)
          clear h0 h1 h2
          go_wp2_with fail
          go_ret
          exact ⟨by rw [HE.out]; rfl, hbA⟩
      · obtain rfl : j = L.length := by omega
        have HE := Lib.hid (right_end h8 hall.out)
        have e4 : totN (L.take L.length) = totN L := by rw [List.take_length]
        rw [e4]
        clear hall e4
        go_wp2_with fail
        go_ret
        exact ⟨by rw [HE.out]; simp; omega, hbr⟩
  · have h8I : (8 : Int) < (L.length : Int) := by omega
    have HE := Lib.hid (right_len h8)
    clear h8
    go_enter Tryz.func114, Tryz.ntmps114
    go_wp2_with fail
    go_ret
    exact ⟨by rw [HE.out]; rfl, Below.refl _ _⟩
end Go.Proofs.YtnaangnmlbgmkaaGreatDoor

/-
  A segment with numbers of its own.
-/
namespace Go.Proofs.YtnaangnmlbgmkaaGreatDoor
set_option linter.unusedVariables false
set_option linter.unusedSimpArgs false
open Go.RowKit

theorem below_box {w w' : World} {o : Obj} (hb : Below (w.alloc o).heap.size (w.alloc o) w') : Below w.heap.size w w' :=
  ((Below.refl _ _).alloc (Nat.le_refl _) o).trans (hb.mono (by simp))
theorem cells2 {w : World} {g T : Nat} {u v : Value} (h : Blk w g T [u, v]) : w.cell? ⟨g, 0, none⟩ = some u ∧ w.cell? ⟨g, 1, none⟩ = some v := ⟨h.cell 0, h.cell 1⟩
theorem free2 {w : World} {g T : Nat} {cs : List Value} (h : Blk w g T cs) : w.frozen? ⟨g, 0, none⟩ = false ∧ w.frozen? ⟨g, 1, none⟩ = false := ⟨h.free 0, h.free 1⟩
theorem res_cells {w1 : World} {g T : Nat} {u0 v0 : Value} (u v : Value) (hk : Blk w1 g T [u0, v0]) :
    (w1.setCell ⟨g, 0, none⟩ u).cell? ⟨g, 0, none⟩ = some u ∧ ((w1.setCell ⟨g, 0, none⟩ u).setCell ⟨g, 1, none⟩ v).cell? ⟨g, 1, none⟩ = some v :=
  ⟨(hk.set 0 u).cell 0, ((hk.set 0 u).set 1 v).cell 1⟩

/-- What is the call's own stays, if another block below its own is written. -/
theorem own32_apart {w w' : World} {B g : Nat} {v : Value} {z : List Nat} (h : Own32 w B v z) (hg : w.grownBy w' (some g)) (hB : g < B) : Own32 w' B v z := by
  refine World.ownsRow.kept h hg ?_
  cases he : v.ownBlock with
  | none => exact .inl rfl
  | some k =>
    right
    intro e
    have := (World.ownsRow.lt h k he).1
    have e2 : k = g := by simpa using e
    omega
/-- What a call leaves that returns a segment with numbers of its own. -/
def RetSeg (w : World) (k : Int) (z : List Nat) (e : Ending) (w' : World) : Prop :=
  ∃ A c, e = .returned (.agg #[.int .i64 k, .slice A z.length c]) ∧ z.length ≤ c ∧ c ≤ maxLen ∧ Own32 w' w.heap.size (.slice A z.length c) z ∧ Below w.heap.size w w'

set_option maxHeartbeats 3200000 in
theorem own_any (s : Sg) (w : World) (h : Sg.Ok w w.heap.size s) (hl : s.nums.length ≤ 1000000000) :
    Calls Tryz.prog 131 #[.agg #[.int .i64 s.kind, .slice s.adr s.nums.length s.cap]] w (RetSeg w s.kind s.nums) := by
  obtain ⟨hc, hm, hA, hn, hk⟩ := h
  have hbx : Below (w.alloc (.cells #[.int .i64 s.kind, .slice s.adr s.nums.length s.cap] 112)).heap.size (w.alloc (.cells #[.int .i64 s.kind, .slice s.adr s.nums.length s.cap] 112)) (w.alloc (.cells #[.int .i64 s.kind, .slice s.adr s.nums.length s.cap] 112)) := Below.refl _ _
  have hb0 := (hbx.alloc (Nat.le_refl _) (.cells #[.int .i64 0, .slice none 0 0] 112)).drew
  have HS := Lib.hid (fun (w' : World) (hb : Below (w.alloc (.cells #[.int .i64 s.kind, .slice s.adr s.nums.length s.cap] 112)).heap.size (w.alloc (.cells #[.int .i64 s.kind, .slice s.adr s.nums.length s.cap] 112)) w') => cells2 ((Blk.new w 112 [.int .i64 s.kind, .slice s.adr s.nums.length s.cap]).below hb (by simp)))
  have hk1 : Blk ((w.alloc (.cells #[.int .i64 s.kind, .slice s.adr s.nums.length s.cap] 112)).alloc (.cells #[.int .i64 0, .slice none 0 0] 112)).drew (w.heap.size + 1) 112 [.int .i64 0, .slice none 0 0] := by
    have e : w.heap.size + 1 = (w.alloc (.cells #[.int .i64 s.kind, .slice s.adr s.nums.length s.cap] 112)).heap.size := by simp
    rw [e]
    exact (Blk.new (w.alloc (.cells #[.int .i64 s.kind, .slice s.adr s.nums.length s.cap] 112)) 112 [.int .i64 0, .slice none 0 0])
  have HK := Lib.hid hk1
  have QC := fun W h => Lib.hid (Clone32_any s.adr s.nums.length s.cap s.nums rfl W h hl)
  have HAT := Lib.hid (fun (w' : World) (hb : Below w.heap.size w w') => (hA.below hb (Nat.le_refl _)).lift hb.size)
  clear hk1 hA hbx
  go_enter Tryz.func131, Tryz.ntmps131
  go_wp2_with fail
  go_region_held3 (fun w' => w'.cell? ⟨w.heap.size, 0, none⟩ = some (.int .i64 s.kind) ∧ w'.cell? ⟨w.heap.size, 1, none⟩ = some (.slice s.adr s.nums.length s.cap)) (first | exact HS.out _ hb0 | exact HS.out _ hb2 | exact HS.out _ ((hb2.setCell (by simp) _).setCell (by simp) _)) ((first
    | (go_at_call 108; refine (QC _ (HAT.out _ (below_box hb0))).out.mono ?_; rintro e w2 ⟨A2, c2, rfl, f1, f2, ho2, hg2⟩; have hb2 := hb0.trans (hg2.mono hb0.size); have hk2 := HK.out.below hg2 HK.out.lt; have fr := free2 hk2; have cr := cells2 hk2; have HK2 := Lib.hid hk2; have HO2 := Lib.hid ho2; clear hk2 ho2)))
  go_wp2_with fail
  refine bodyPost_ret (v := .agg #[.int .i64 s.kind, .slice A2 s.nums.length c2]) (by simp [results, Tryz.results131, go_sem, (res_cells (.int .i64 s.kind) (.slice A2 s.nums.length c2) HK2.out).1, (res_cells (.int .i64 s.kind) (.slice A2 s.nums.length c2) HK2.out).2]) rfl ⟨A2, c2, rfl, f1, f2, ?_, ?_⟩
  · refine Own32.lower (own32_apart HO2.out (grown_setCell (grown_setCell (grown_refl w2 (some (w.heap.size + 1))) _ _) _ _) ?_) ?_
    · show w.heap.size + 1 < ((w.alloc _).alloc _).heap.size
      simp
    · show w.heap.size ≤ ((w.alloc _).alloc _).heap.size
      simp
      omega
  · exact below_box ((hb2.setCell (by simp) _).setCell (by simp) _)
end Go.Proofs.YtnaangnmlbgmkaaGreatDoor

/-
  The reader's Byte, Left, Err and Take.
-/
namespace Go.Proofs.YtnaangnmlbgmkaaGreatDoor
open Go.RowKit

/-- What a Take leaves: bytes of its own. -/
def TakePost (w : World) (B g : Nat) (res rest : List UInt8) (s : Bool) (e : Ending) (w' : World) : Prop :=
  ∃ A c, e = .returned (.slice A res.length c) ∧ res.length ≤ c ∧ c ≤ maxLen ∧ Own w' w.heap.size 5 (.slice A res.length c) res ∧ Rd w' B g rest s ∧ w.grownBy w' (some g)
theorem Take_any (n : Int) (B g : Nat) (l : List UInt8) (s : Bool) (w : World) (h : Rd w B g l s) (hl : l.length ≤ 1000000) :
    Calls Tryz.prog 26 #[.pointer (some ⟨g, 0, none⟩), .int .i64 n] w (TakePost w B g (rdTake l s n).1 (rdTake l s n).2.1 (rdTake l s n).2.2) := by
  have hb := h.1
  have hlt := h.lt
  have hr := rdTake_len l s n
  have h38 := Lib.hid (next_any n B g l s w h)
  clear h
  obtain ⟨X, hX⟩ : ∃ X, X = rdTake l s n := ⟨_, rfl⟩
  rw [← hX] at h38 hr ⊢
  have HX := Lib.hid hX; clear hX
  go_enter Tryz.func26, Tryz.ntmps26
  go_wp2_with fail
  refine h38.out.mono ?_
  rintro e w1 ⟨A1, c1, rfl, f1, f2, hA1, hR1, hg1⟩
  have HA := Lib.hid hA1; have HR := Lib.hid hR1; have HG := Lib.hid hg1; clear hA1 hR1 hg1
  go_wp2_with fail
  refine (Clone_any A1 _ c1 X.1 rfl w1 (HA.out.bytes (Nat.le_trans hb (Nat.le_trans (Nat.le_of_lt hlt) HG.out.size))) (by omega)).mono ?_
  rintro e w2 ⟨A2, c2, rfl, k1, k2, hown2, hb2⟩
  have HO := Lib.hid hown2; have HB := Lib.hid hb2; clear hown2 hb2
  go_wp2_with fail
  go_ret
  exact ⟨A2, c2, rfl, k1, k2, HO.out.lower HG.out.size, HR.out.below HB.out HR.out.lt, grown_trans HG.out (grown_of_below HB.out _)⟩
/-- What a number leaves. -/
def NumPost (k : IntKind) (w : World) (B g : Nat) (res rest : List UInt8) (s : Bool) (e : Ending) (w' : World) : Prop :=
  e = .returned (.int k (num res : Nat)) ∧ Rd w' B g rest s ∧ w.grownBy w' (some g)
theorem Byte_any (B g : Nat) (l : List UInt8) (s : Bool) (w : World) (h : Rd w B g l s) :
    Calls Tryz.prog 96 #[.pointer (some ⟨g, 0, none⟩)] w (NumPost .i64 w B g (rdTake l s 1).1 (rdTake l s 1).2.1 (rdTake l s 1).2.2) := by
  have hb := h.1
  have hlt := h.lt
  have hr := rdTake_len l s 1
  have h38 := Lib.hid (next_any 1 B g l s w h)
  clear h
  obtain ⟨X, hX⟩ : ∃ X, X = rdTake l s 1 := ⟨_, rfl⟩
  rw [← hX] at h38 hr ⊢
  have HX := Lib.hid hX; clear hX
  have hn := num_lt4 (l := X.1) (by omega)
  go_enter Tryz.func96, Tryz.ntmps96
  go_wp2_with fail
  refine h38.out.mono ?_
  rintro e w1 ⟨A1, c1, rfl, f1, f2, hA1, hR1, hg1⟩
  have HA := Lib.hid hA1; have HR := Lib.hid hR1; have HG := Lib.hid hg1; clear hA1 hR1 hg1
  go_wp2_with fail
  refine (number_any A1 _ c1 X.1 rfl w1 (by omega) (HA.out.bytes (Nat.le_trans hb (Nat.le_trans (Nat.le_of_lt hlt) HG.out.size)))).mono ?_
  rintro e w2 ⟨rfl, rfl⟩
  go_wp2_with fail
  go_ret
  exact ⟨rfl, HR.out, HG.out⟩
theorem Left_any (B g : Nat) (l : List UInt8) (s : Bool) (w : World) (h : Rd w B g l s) :
    Calls Tryz.prog 32 #[.pointer (some ⟨g, 0, none⟩)] w fun e w' => e = .returned (.int .i64 l.length) ∧ w = w' := by
  obtain ⟨hB, A, c, hk, hl, hm, hA⟩ := h
  have c0 : w.cell? ⟨g, 0, none⟩ = some (.slice A l.length c) := hk.cell 0
  clear hk hA
  go_enter Tryz.func32, Tryz.ntmps32
  go_wp2_with fail
  go_ret
  exact ⟨rfl, rfl⟩
/-- The number of a reader's error. -/
def errN (s : Bool) : Int := match s with | true => 3 | false => 0
theorem Err_any (B g : Nat) (l : List UInt8) (s : Bool) (w : World) (h : Rd w B g l s) :
    Calls Tryz.prog 28 #[.pointer (some ⟨g, 0, none⟩)] w fun e w' => e = .returned (.int .i64 (errN s)) ∧ w = w' := by
  obtain ⟨hB, A, c, hk, hl, hm, hA⟩ := h
  have c1 : w.cell? ⟨g, 1, none⟩ = some (.bool s) := hk.cell 1
  clear hk hA
  cases s with
  | false =>
    go_enter Tryz.func28, Tryz.ntmps28
    go_wp2_with fail
    go_ret
    exact ⟨rfl, rfl⟩
  | true =>
    go_enter Tryz.func28, Tryz.ntmps28
    go_wp2_with fail
    go_ret
    exact ⟨rfl, rfl⟩
theorem number_nil (w : World) : Calls Tryz.prog 56 #[.slice none 0 0] w fun e w' => e = .returned (.int .u32 0) ∧ w = w' :=
  number_any none 0 0 [] rfl w (by decide) (Bytes.nil _ _)
theorem Byte_nil (w : World) : Calls Tryz.prog 96 #[.pointer none] w fun e w' => e = .returned (.int .i64 0) ∧ w = w' := by
  go_enter Tryz.func96, Tryz.ntmps96
  go_wp2_with fail
  refine (next_nil 1 w).mono ?_
  rintro e w1 ⟨rfl, rfl⟩
  go_wp2_with fail
  refine (number_nil w).mono ?_
  rintro e w1 ⟨rfl, rfl⟩
  go_wp2_with fail
  go_ret
  exact ⟨rfl, rfl⟩
theorem Take_nil (n : Int) (w : World) : Calls Tryz.prog 26 #[.pointer none, .int .i64 n] w fun e w' => e = .returned (.slice none 0 0) ∧ w = w' := by
  go_enter Tryz.func26, Tryz.ntmps26
  go_wp2_with fail
  refine (next_nil n w).mono ?_
  rintro e w1 ⟨rfl, rfl⟩
  go_wp2_with fail
  refine (Clone_nil 0 w).mono ?_
  rintro e w1 ⟨rfl, rfl⟩
  go_wp2_with fail
  go_ret
  exact ⟨rfl, rfl⟩
theorem Left_nil (w : World) : Calls Tryz.prog 32 #[.pointer none] w fun e w' => e = .returned (.int .i64 0) ∧ w = w' := by
  go_enter Tryz.func32, Tryz.ntmps32
  go_wp2_with fail
  go_ret
  exact ⟨rfl, rfl⟩
theorem Err_nil (w : World) : Calls Tryz.prog 28 #[.pointer none] w fun e w' => e = .returned (.int .i64 2) ∧ w = w' := by
  go_enter Tryz.func28, Tryz.ntmps28
  go_wp2_with fail
  go_ret
  exact ⟨rfl, rfl⟩
end Go.Proofs.YtnaangnmlbgmkaaGreatDoor

/-
  prefix's Right, Holds and Covers.
-/
namespace Go.Proofs.YtnaangnmlbgmkaaGreatDoor
set_option linter.unusedVariables false
set_option linter.unusedSimpArgs false
open Go.RowKit

/-- A call in a quiet walk, by a contract that leaves the world as it is. -/
theorem still {P : Program} {f : FuncId} {args : Array Value} {w : World} {n : Nat} {v : Value} (h : Calls P f args (w.drewN n) fun e w' => e = .returned v ∧ w.drewN n = w') :
    Calls P f args (w.drewN n) fun e w' => e = .returned v ∧ ∃ m, w' = w.drewN m := h.mono fun _ _ ⟨he, hm⟩ => ⟨he, n, hm.symm⟩

theorem andNot_val {a k : Nat} (ha : a < 4294967296) (h : k ≤ 32) : bits .andNot .u32 (a : Int) ((maskN k : Nat) : Int) = ((a % 2 ^ (32 - k) : Nat) : Int) := by
  rw [u32_andNot_nat a (maskN k) ha (maskN_lt k), andNot_mask h]
theorem okP_in {a k : Nat} (h : k ≤ 32) : okPx (a : Int) (k : Int) = (((a % 2 ^ (32 - k) : Nat) : Int) == 0) := by
  unfold okPx
  rw [Bool.eq_iff_iff]
  simp only [decide_eq_true_eq, beq_iff_eq, Int.toNat_natCast]
  rw [hi_eq_iff]
  omega
theorem okP_out {a n : Int} (h : n < 0 ∨ 32 < n) : okPx a n = false := by
  unfold okPx
  simp only [decide_eq_false_iff_not]
  omega

def RetBool (w : World) (b : Bool) (e : Ending) (w' : World) : Prop := e = .returned (.bool b) ∧ Below w.heap.size w w'

set_option maxHeartbeats 800000 in
theorem RightP_any (a : Nat) (n : Int) (w : World) (ha : a < 4294967296) (h0 : -9223372036854775808 ≤ n) (h1 : n ≤ 9223372036854775807) :
    Calls Tryz.prog 42 #[.agg #[.int .u32 (a : Int), .int .i64 n]] w (RetBool w (okPx (a : Int) n)) := by
  by_cases hn : n < 0
  · have e1 := Lib.hid (okP_out (a := (a : Int)) (n := n) (.inl hn))
    have hd : decide ((0 : Int) ≤ n) = false := by simpa using hn
    go_enter Tryz.func42, Tryz.ntmps42
    go_wp2_with fail
    go_quiet (fail)
    go_wp2_with fail
    go_ret
    exact ⟨by rw [e1.out]; rfl, below_drewN ((Below.refl _ _).alloc (Nat.le_refl _) _) _⟩
  · obtain ⟨k, rfl⟩ := Int.eq_ofNat_of_zero_le (show 0 ≤ n by omega)
    have hd : decide ((0 : Int) ≤ (k : Int)) = true := by simp
    by_cases hk : k ≤ 32
    · have hd2 : decide ((k : Int) ≤ 32) = true := by simp; omega
      have e1 := Lib.hid (okP_in (a := a) hk)
      have q9 := fun w => Lib.hid (Mask_any (k : Int) w (by omega) (by omega))
      rw [cl_nat hk] at q9
      have hb := andNot_val ha hk
      go_enter Tryz.func42, Tryz.ntmps42
      go_wp2_with fail
      go_quiet ((go_at_call 73; exact still (q9 _).out))
      go_wp2_with fail
      go_ret
      exact ⟨by rw [e1.out]; rfl, below_drewN ((Below.refl _ _).alloc (Nat.le_refl _) _) _⟩
    · have hd2 : decide ((k : Int) ≤ 32) = false := by simp; omega
      have e1 := Lib.hid (okP_out (a := (a : Int)) (n := (k : Int)) (.inr (by omega)))
      go_enter Tryz.func42, Tryz.ntmps42
      go_wp2_with fail
      go_quiet (fail)
      go_wp2_with fail
      go_ret
      exact ⟨by rw [e1.out]; rfl, below_drewN ((Below.refl _ _).alloc (Nat.le_refl _) _) _⟩
end Go.Proofs.YtnaangnmlbgmkaaGreatDoor

/-
  Bits of numbers, the program's and the document's; the document's Mask and Norm.
-/
namespace Go.Proofs.YtnaangnmlbgmkaaGreatDoor
set_option linter.unusedVariables false
set_option linter.unusedSimpArgs false
open Go.RowKit

/-- A bit of a number. -/
def bitI (a : Nat) (i : Int) : Nat := if 0 ≤ i ∧ i ≤ 31 then a / 2 ^ (31 - i.toNat) % 2 else 0
/-- What the document's loops hold after j rounds. -/
def nf (a k j : Nat) : Nat := if j ≤ k then a / 2 ^ (32 - j) else a / 2 ^ (32 - k) * 2 ^ (j - k)

theorem bitI_in {a i : Nat} (h : i ≤ 31) : bitI a (i : Int) = a / 2 ^ (31 - i) % 2 := by
  unfold bitI; rw [if_pos ⟨by omega, by omega⟩, Int.toNat_natCast]
theorem bitI_out {a : Nat} {i : Int} (h : i < 0 ∨ 31 < i) : bitI a i = 0 := by
  unfold bitI; rw [if_neg (by omega)]
theorem half_pow (a : Nat) {j : Nat} (h : 0 < j) (h2 : j ≤ 31) : a / 2 ^ (31 - j) / 2 = a / 2 ^ (31 - (j - 1)) := by
  rw [Nat.div_div_eq_div_mul, ← Nat.pow_succ]
  congr 2
  omega
theorem nf_zero {a : Nat} (k : Nat) (h : a < 4294967296) : nf a k 0 = 0 := by
  unfold nf
  rw [if_pos (Nat.zero_le _)]
  exact Nat.div_eq_of_lt (by simpa using h)
theorem nf_lt (a : Nat) {k j : Nat} (h : j < k) (hk : k ≤ 32) : nf a k (j + 1) = 2 * nf a k j + a / 2 ^ (31 - j) % 2 := by
  unfold nf
  rw [if_pos (by omega), if_pos (by omega)]
  have e1 : 32 - (j + 1) = 31 - j := by omega
  have e2 : a / 2 ^ (32 - j) = a / 2 ^ (31 - j) / 2 := by
    rw [Nat.div_div_eq_div_mul, ← Nat.pow_succ]
    congr 2
    omega
  rw [e1, e2]
  omega
theorem nf_ge (a : Nat) {k j : Nat} (h : k ≤ j) : nf a k (j + 1) = 2 * nf a k j := by
  unfold nf
  rw [if_neg (by omega)]
  by_cases hj : j ≤ k
  · obtain rfl : j = k := by omega
    rw [if_pos hj, Nat.add_sub_cancel_left, Nat.pow_one, Nat.mul_comm]
  · rw [if_neg hj]
    have e : j + 1 - k = (j - k) + 1 := by omega
    rw [e, Nat.pow_succ, ← Nat.mul_assoc, Nat.mul_comm]
theorem nf_end (a : Nat) {k : Nat} (hk : k ≤ 32) : nf a k 32 = hi a k := by
  unfold nf hi
  by_cases h : 32 ≤ k
  · obtain rfl : k = 32 := by omega
    simp
  · rw [if_neg h]
theorem nf_le (a : Nat) {k j : Nat} (hj : j ≤ 32) : nf a k j ≤ a := by
  unfold nf
  by_cases h : j ≤ k
  · rw [if_pos h]; exact Nat.div_le_self _ _
  · rw [if_neg h]
    exact Nat.le_trans (Nat.mul_le_mul_left _ (Nat.pow_le_pow_right (by decide) (by omega))) (hi_le a k)
theorem all_bits : ∀ j, j < 32 → 4294967295 / 2 ^ (31 - j) % 2 = 1 := by decide
theorem all_hi : ∀ k, k < 33 → hi 4294967295 k = maskN k := by decide

theorem RefBit_any (a : Nat) (i : Int) (w : World) (ha : a < 4294967296) (h0 : -9223372036854775808 ≤ i) (h1 : i ≤ 9223372036854775807) :
    Calls Tryz.prog 134 #[.int .u32 (a : Int), .int .i64 i] w fun e w' => e = .returned (.int .i64 (bitI a i : Nat)) ∧ w = w' := by
  rcases (show i < 0 ∨ (¬ i < 0 ∧ 31 < i) ∨ (0 ≤ i ∧ i ≤ 31) by omega) with h | ⟨h, h2⟩ | ⟨h, h2⟩
  · have e1 := Lib.hid (bitI_out (a := a) (i := i) (.inl h))
    go_enter Tryz.func134, Tryz.ntmps134
    go_wp2_with fail
    go_ret
    exact ⟨by rw [e1.out]; rfl, rfl⟩
  · have e1 := Lib.hid (bitI_out (a := a) (i := i) (.inr h2))
    go_enter Tryz.func134, Tryz.ntmps134
    go_wp2_with fail
    go_ret
    exact ⟨by rw [e1.out]; rfl, rfl⟩
  · obtain ⟨k, rfl⟩ := Int.eq_ofNat_of_zero_le h
    have e1 := Lib.hid (bitI_in (a := a) (i := k) (by omega))
    have hz : ¬ ((k : Int) < 0) := by omega
    have hz2 : ¬ ((31 : Int) < (k : Int)) := by omega
    go_enter Tryz.func134, Tryz.ntmps134
    go_wp2_with fail
    go_loop [5, 6] (fun n m => ∃ j : Nat, k ≤ j ∧ j ≤ 31 ∧ m = .int .i64 (j : Int) ∧ n = .int .i64 ((a / 2 ^ (31 - j) : Nat) : Int)) (fun _ m => (intOf m).toNat)
    case atStart => exact ⟨31, by omega, by omega, rfl, by simp⟩
    case round =>
      obtain ⟨j, hj1, hj2, rfl, rfl⟩ := hrel
      obtain ⟨X, hX⟩ : ∃ X, X = a / 2 ^ (31 - j) := ⟨_, rfl⟩
      have hXa : X ≤ a := by rw [hX]; exact Nat.div_le_self _ _
      rw [← hX]
      by_cases hz : j = k
      · subst hz
        have hX2 := Lib.hid hX; clear hX
        go_wp2
        go_ret
        exact ⟨by rw [e1.out, ← hX2.out]; rfl, rfl⟩
      · have hX2 := Lib.hid hX; clear hX
        have hlt : (k : Int) < (j : Int) := by omega
        go_wp2
        go_round
        case rel => exact ⟨j - 1, by omega, by omega, by go_num, by rw [← half_pow a (by omega) hj2, ← hX2.out]; go_num⟩
        case measure => simp [intOf]; omega
end Go.Proofs.YtnaangnmlbgmkaaGreatDoor

/-
  Whether a path may be, by the document.
-/
namespace Go.Proofs.YtnaangnmlbgmkaaGreatDoor
set_option linter.unusedVariables false
set_option linter.unusedSimpArgs false
open Go.RowKit

set_option maxHeartbeats 3200000 in
theorem RefRight_any (A : Option Addr) (c : Nat) (L : List Sg) (w : World) (h : Segs w w.heap.size A L) (hc : L.length ≤ c) (hm : c ≤ maxLen) (ht : totN L ≤ 1152921504606846976) :
    Calls Tryz.prog 36 #[.slice A L.length c] w fun e w' => e = .returned (.bool (rightB L)) ∧ w = w' := by
  have HS := Lib.hid h; clear h
  by_cases h8 : L.length ≤ 8
  · have h8I : ¬ (8 : Int) < (L.length : Int) := by omega
    go_enter Tryz.func36, Tryz.ntmps36
    go_wp2_with fail
    go_loop [3, 4] (fun n i => ∃ j : Nat, j ≤ L.length ∧ i = .int .i64 (j : Int) ∧ n = .int .i64 ((totN (L.take j) : Nat) : Int) ∧ Hid ((L.take j).all okS = true)) (fun _ i => L.length - (intOf i).toNat)
    case atStart => exact ⟨0, Nat.zero_le _, rfl, by simp [totN], Lib.hid (by simp)⟩
    case round =>
      obtain ⟨j, hj, rfl, rfl, hall⟩ := hrel
      by_cases hlt : j < L.length
      · obtain ⟨s, hs⟩ : ∃ s, L[j]? = some s := ⟨_, List.getElem?_eq_getElem hlt⟩
        obtain ⟨b, off, rfl, hb, k1, k2, hok⟩ := HS.out.at hs
        have HST := Lib.hid (show totN (L.take (j + 1)) = totN (L.take j) + s.nums.length from sum_take hs)
        have hle := sum_take_le (fun s => s.nums.length) L (j + 1)
        have hle2 : totN (L.take j) + s.nums.length ≤ 1152921504606846976 := by rw [← HST.out]; exact Nat.le_trans hle ht
        have HG := Lib.hid (all_take hs hall.out)
        have HB := Lib.hid (right_bad hs)
        have HBG := Lib.hid (fun h => right_big hs h)
        clear hle hok hs hall
        rcases okS_ways s with ⟨h0, h1, h2⟩ | ⟨h0, h1, h2⟩ | ⟨h0, h1, h2⟩ | ⟨h0, h1, h2⟩ | ⟨h0, h1, h2⟩
        · have HA := Lib.hid (HG.out h0)
          have e1 : (s.kind != 1) = false := by simpa using h1
          have e3 : ((s.nums.length : Int) == 0) = false := by simpa using (show ¬ (s.nums.length : Int) = 0 by omega)
          by_cases h64 : s.nums.length ≤ 64
          · have h64I : ¬ (64 : Int) < (s.nums.length : Int) := by omega
            clear h0 h1 h2
            go_wp2_with fail
            go_round
            case rel => exact ⟨j + 1, by omega, by go_num, by rw [HST.out]; go_num, HA⟩
            case measure => simp [intOf]; omega
          · have h64I : (64 : Int) < (s.nums.length : Int) := by omega
            have HE := Lib.hid (HBG.out (by omega))
            clear h0 h1 h2
            go_wp2_with fail
            go_ret
            exact ⟨by rw [HE.out]; rfl, rfl⟩
        · have HA := Lib.hid (HG.out h0)
          have e1 : (s.kind != 1) = true := by simp [h1]
          have e2 : (s.kind != 2) = false := by simpa using h1
          have e3 : ((s.nums.length : Int) == 0) = false := by simpa using (show ¬ (s.nums.length : Int) = 0 by omega)
          by_cases h64 : s.nums.length ≤ 64
          · have h64I : ¬ (64 : Int) < (s.nums.length : Int) := by omega
            clear h0 h1 h2
            go_wp2_with fail
            go_round
            case rel => exact ⟨j + 1, by omega, by go_num, by rw [HST.out]; go_num, HA⟩
            case measure => simp [intOf]; omega
          · have h64I : (64 : Int) < (s.nums.length : Int) := by omega
            have HE := Lib.hid (HBG.out (by omega))
            clear h0 h1 h2
            go_wp2_with fail
            go_ret
            exact ⟨by rw [HE.out]; rfl, rfl⟩
        · have HE := Lib.hid (HB.out h0)
          have e1 : (s.kind != 1) = true := by simpa using h1
          have e2 : (s.kind != 2) = true := by simpa using h2
          clear h0 h1 h2
          go_wp2_with fail
          go_ret
          exact ⟨by rw [HE.out]; rfl, rfl⟩
        · have HE := Lib.hid (HB.out h0)
          have e1 : (s.kind != 1) = false := by simpa using h1
          have e3 : ((s.nums.length : Int) == 0) = true := by simpa using (show (s.nums.length : Int) = 0 by omega)
          clear h0 h1 h2
          go_wp2_with fail
          go_ret
          exact ⟨by rw [HE.out]; rfl, rfl⟩
        · have HE := Lib.hid (HB.out h0)
          have e1 : (s.kind != 1) = true := by simp [h1]
          have e2 : (s.kind != 2) = false := by simpa using h1
          have e3 : ((s.nums.length : Int) == 0) = true := by simpa using (show (s.nums.length : Int) = 0 by omega)
          clear h0 h1 h2
          go_wp2_with fail
          go_ret
          exact ⟨by rw [HE.out]; rfl, rfl⟩
      · obtain rfl : j = L.length := by omega
        have HE := Lib.hid (right_end h8 hall.out)
        have e4 : totN (L.take L.length) = totN L := by rw [List.take_length]
        rw [e4]
        clear hall e4
        go_wp2_with fail
        go_ret
        exact ⟨by rw [HE.out]; simp; omega, rfl⟩
  · have h8I : (8 : Int) < (L.length : Int) := by omega
    have HE := Lib.hid (right_len h8)
    clear h8
    go_enter Tryz.func36, Tryz.ntmps36
    go_wp2_with fail
    go_ret
    exact ⟨by rw [HE.out]; rfl, rfl⟩
end Go.Proofs.YtnaangnmlbgmkaaGreatDoor

/-
  A path's bytes.
-/
namespace Go.Proofs.YtnaangnmlbgmkaaGreatDoor
set_option linter.unusedVariables false
set_option linter.unusedSimpArgs false
open Go.RowKit

section
variable {P : Program} {w : World} {ops : Array Oper} {rest : List Oper} {o : Oper} {a : Act} {Q : Exit → Act → World → Prop}
theorem cells_two {X Y : Int} (h0 : 0 ≤ X ∧ X < 256) (h1 : 0 ≤ Y ∧ Y < 256) : ([UInt8.ofNat X.toNat, UInt8.ofNat Y.toNat].map fun b : UInt8 => Value.int .u8 (b.toNat : Int)) = [.int .u8 X, .int .u8 Y] := by
  simp only [List.map_cons, List.map_nil, List.cons.injEq, Value.int.injEq, true_and, and_true]
  constructor
  · simp; omega
  · simp; omega
/-- 'out = append(out, c, d)': two bytes. -/
theorem wpList_append_two {t e : TypeId} (T : IsBytes P t e) (hgd : o.guard = none) (s x : Operand) (ho : o.op = .call { callee := .builtin .append, args := #[s, x], argTypes := #[t, t] })
    (w0 : World) (v : Value) (l : List UInt8) (hs : a.eval s = v) (wr : World) (X Y : Int) (hw : w = wr.alloc (.cells #[.int .u8 X, .int .u8 Y] e)) (hown : Own wr w0.heap.size e v l) (hx : a.eval x = .slice (some ⟨wr.heap.size, 0, none⟩) 2 2)
    (h0 : 0 ≤ X ∧ X < 256) (h1 : 0 ≤ Y ∧ Y < 256) (hsz : l.length + 2 ≤ 140737488355328) (hb : Below w0.heap.size w0 wr)
    (h : ∀ v' w', Own w' w0.heap.size e v' (l ++ [UInt8.ofNat X.toNat, UInt8.ofNat Y.toNat]) → wr.grownBy w' v.ownBlock → Below w0.heap.size w0 w' → wpList P ops Q rest (a.put o.dst v') w') : wpList P ops Q (o :: rest) a w := by
  subst hw
  have hb2 := bytes_lit wr e [UInt8.ofNat X.toNat, UInt8.ofNat Y.toNat]
  rw [cells_two h0 h1] at hb2
  exact wpList_append_bytes T hgd s x ho w0 v l hs (hown.alloc _) _ [UInt8.ofNat X.toNat, UInt8.ofNat Y.toNat] 2 2 hx rfl hb2 hsz (hb.alloc hb.size _) fun v' w' ho' hg hb' => h v' w' ho' (grown_of_alloc hg) hb'
end

theorem blk_kept {w w' : World} {g t : Nat} {cs : List Value} {v : Value} (h : Blk w g t cs) (hg : w.grownBy w' v.ownBlock) (hne : ∀ k, v.ownBlock = some k → k < g) : Blk w' g t cs :=
  (hg.block g h.lt (by intro e; first | exact Nat.lt_irrefl _ (hne g e) | exact Nat.lt_irrefl _ (hne g e.symm))).trans h
/-- A number's bytes. -/
def numB (wide : Bool) (x : Nat) : List UInt8 := if wide = true then be32 (x : Int) else if 65535 < x then be16 23456 else be16 (x : Int)
theorem numB_len (wide : Bool) (x : Nat) : (numB wide x).length ≤ 4 := by unfold numB; split <;> (try split) <;> simp [be32, be16]

theorem number3_any (x : Nat) (wide : Bool) (w : World) (hx : x < 4294967296) :
    Calls Tryz.prog 117 #[.int .u32 (x : Int), .bool wide] w (RetBytes w (numB wide x)) := by
  cases wide with
  | true =>
    have e : numB true x = be32 (x : Int) := by unfold numB; rw [if_pos rfl]
    have Q := Lib.hid (Put32_any none 0 0 [] rfl (x : Int) w (by simp) (Bytes.nil _ _) (by omega) (by omega))
    rw [List.nil_append, ← e] at Q
    clear e
    go_enter Tryz.func117, Tryz.ntmps117
    go_wp2_with fail
    refine Q.out.mono ?_
    rintro e w1 ⟨A1, c1, rfl, hr⟩
    go_wp2_with fail
    go_ret
    exact ⟨_, _, rfl, hr⟩
  | false =>
    by_cases hb : 65535 < x
    · have hbI : (65535 : Int) < (x : Int) := by omega
      have e : numB false x = be16 23456 := by unfold numB; rw [if_neg (by decide), if_pos hb]
      have Q := Lib.hid (Put16_any none 0 0 [] rfl 23456 w (by simp) (Bytes.nil _ _) (by omega) (by omega))
      rw [List.nil_append, ← e] at Q
      clear hb e
      go_enter Tryz.func117, Tryz.ntmps117
      go_wp2_with fail
      refine Q.out.mono ?_
      rintro e w1 ⟨A1, c1, rfl, hr⟩
      go_wp2_with fail
      go_ret
      exact ⟨_, _, rfl, hr⟩
    · have hbI : ¬ (65535 : Int) < (x : Int) := by omega
      have e : numB false x = be16 (x : Int) := by unfold numB; rw [if_neg (by decide), if_neg hb]
      have Q := Lib.hid (Put16_any none 0 0 [] rfl (x : Int) w (by simp) (Bytes.nil _ _) (by omega) (by omega))
      rw [List.nil_append, ← e] at Q
      clear hb e
      go_enter Tryz.func117, Tryz.ntmps117
      go_wp2_with fail
      refine Q.out.mono ?_
      rintro e w1 ⟨A1, c1, rfl, hr⟩
      go_wp2_with fail
      go_ret
      exact ⟨_, _, rfl, hr⟩

/-- The bytes of numbers, of a segment, of a path. -/
def numsB (wide : Bool) (z : List Nat) : List UInt8 := z.flatMap (numB wide)
def headB (s : Sg) : List UInt8 := [UInt8.ofNat (s.kind % 256).toNat, UInt8.ofNat ((s.nums.length : Int) % 256).toNat]
def putB (wide : Bool) (L : List Sg) : List UInt8 := L.flatMap fun s => headB s ++ numsB wide s.nums
theorem numsB_len (wide : Bool) (z : List Nat) : (numsB wide z).length ≤ 4 * z.length := by
  induction z with
  | nil => simp [numsB]
  | cons x z ih =>
    have := numB_len wide x
    simp only [numsB, List.flatMap_cons, List.length_append, List.length_cons] at ih ⊢
    omega
theorem putB_len (wide : Bool) (L : List Sg) : (putB wide L).length ≤ 2 * L.length + 4 * totN L := by
  induction L with
  | nil => simp [putB]
  | cons s L ih =>
    have := numsB_len wide s.nums
    simp only [putB, totN, headB, List.flatMap_cons, List.length_append, List.length_cons, List.length_nil, List.map_cons, List.sum_cons] at ih ⊢
    omega
theorem numsB_step {wide : Bool} {z : List Nat} {k : Nat} (h : k < z.length) : numsB wide (z.take (k + 1)) = numsB wide (z.take k) ++ numB wide (z.getD k 0) := by
  have e : z.getD k 0 = z[k] := by simp [List.getD, h]
  unfold numsB
  rw [List.take_succ_eq_append_getElem h, e, List.flatMap_append]
  simp only [List.flatMap_cons, List.flatMap_nil, List.append_nil]
theorem putB_step {wide : Bool} {L : List Sg} {j : Nat} {s : Sg} (h : L[j]? = some s) : putB wide (L.take (j + 1)) = putB wide (L.take j) ++ headB s ++ numsB wide s.nums := by
  have hj := (List.getElem?_eq_some_iff.1 h).1
  have e : L[j] = s := (List.getElem?_eq_some_iff.1 h).2
  rw [List.take_succ_eq_append_getElem hj, e]
  simp [putB]
def PutRelA (w : World) (wide : Bool) (L : List Sg) (v i : Value) (wr : World) : Prop :=
  Below w.heap.size w wr ∧ ∃ j : Nat, j ≤ L.length ∧ i = .int .i64 (j : Int) ∧ Own wr w.heap.size 5 v (putB wide (L.take j))
def PutRelB (w : World) (wide : Bool) (l : List UInt8) (z : List Nat) (v i : Value) (wr : World) : Prop :=
  Below w.heap.size w wr ∧ ∃ j : Nat, j ≤ z.length ∧ i = .int .i64 (j : Int) ∧ Own wr w.heap.size 5 v (l ++ numsB wide (z.take j))

set_option maxHeartbeats 3200000 in
theorem Put3_any (A : Option Addr) (c : Nat) (L : List Sg) (wide : Bool) (w : World) (h : Segs w w.heap.size A L) (hl : L.length ≤ 1000000000) (ht : totN L ≤ 1000000000) :
    Calls Tryz.prog 81 #[.slice A L.length c, .bool wide] w (RetBytes w (putB wide L)) := by
  have HS := Lib.hid h; clear h
  go_enter Tryz.func81, Tryz.ntmps81
  go_wp2_with fail
  go_loopw [5, 12] (fun v i wr => PutRelA w wide L v i wr) (fun _ i _ => L.length - (intOf i).toNat)
  case atStart => exact ⟨Below.refl _ _, 0, Nat.zero_le _, rfl, Own.nil _ _ _⟩
  case round =>
    obtain ⟨hbr, j, hj, rfl, hown⟩ := hrel
    by_cases hlt : j < L.length
    · obtain ⟨s, hs⟩ : ∃ s, L[j]? = some s := ⟨_, List.getElem?_eq_getElem hlt⟩
      obtain ⟨b, off, rfl, hb, k1, k2, hok⟩ := (HS.out.below hbr (Nat.le_refl _)).at hs
      have hlen : (putB wide (L.take j)).length ≤ 6000000000 := by
        have h1 := putB_len wide (L.take j)
        have h2 : totN (L.take j) ≤ totN L := sum_take_le (fun s => s.nums.length) L j
        have h3 : (L.take j).length ≤ j := by simp; omega
        omega
      have hsn := Nat.le_trans (nums_le hs) ht
      have HN := Lib.hid (numsB_len wide s.nums)
      have HLEN := Lib.hid hlen
      have HST := Lib.hid (putB_step (wide := wide) hs)
      have HOW := Lib.hid hown
      have HAT := Lib.hid (fun W (hB : Below w.heap.size w W) => (HS.out.at hs).choose_spec.choose_spec.2.2.2.2.2.2.1.below hB (Nat.le_refl _))
      have HFIT := Lib.hid hok.2.2.2.1
      have hbA := hbr.alloc hbr.size (.cells #[.int .i64 s.kind, .slice s.adr s.nums.length s.cap] 112)
      have c7 := cells2 (Blk.new wr 112 [.int .i64 s.kind, .slice s.adr s.nums.length s.cap])
      have HBA := Lib.hid hbA
      have HBR := Lib.hid hbr
      have HJ := Lib.hid hlt
      have HC7 := Lib.hid (Blk.new wr 112 [.int .i64 s.kind, .slice s.adr s.nums.length s.cap])
      clear hlen hok hown hbA hs hbr
      go_wp2_with (at_builtin; go_loud (refine wpList_append_two isBytes rfl (.tmp 16) (.tmp 24) rfl w _ _ rfl (wr.alloc (.cells #[.int .i64 s.kind, .slice s.adr s.nums.length s.cap] 112)) _ _ rfl (HOW.out.alloc _) (by simp [go_sem]) ?_ ?_ ?_ HBA.out ?_))
      · omega
      · omega
      · have := HLEN.out; omega
      · intro v1 w1 hown1 hg1 hb1
        have HO1 := Lib.hid (show Own w1 w.heap.size 5 v1 (putB wide (L.take j) ++ headB s) from hown1)
        have c8 := cells2 (blk_kept HC7.out hg1 (fun k hk => (World.ownsRow.lt HOW.out k hk).2))
        have HL2 := Lib.hid (show (putB wide (L.take j) ++ headB s).length ≤ 6000000002 by have := HLEN.out; simp [headB]; omega)
        have HB1 := Lib.hid hb1
        clear c7 hown1 hg1 hb1
        go_wp2_with fail
        go_loopw [5, 29] (fun v i wr => PutRelB w wide (putB wide (L.take j) ++ headB s) s.nums v i wr) (fun _ i _ => s.nums.length - (intOf i).toNat)
        case atStart => exact ⟨HB1.out, 0, Nat.zero_le _, rfl, by simpa [numsB] using HO1.out⟩
        case round =>
          obtain ⟨hbr, k, hk, rfl, hown⟩ := hrel
          by_cases hlt : k < s.nums.length
          · obtain ⟨b2, off2, hA2, hb2, k3⟩ := (HAT.out _ hbr).cell hlt
            have hx : s.nums.getD k 0 < 4294967296 := HFIT.out _ (by rw [show s.nums.getD k 0 = s.nums[k] by simp [List.getD, hlt]]; exact List.getElem_mem hlt)
            have HNS := Lib.hid (numsB_step (wide := wide) hlt)
            have HNL := Lib.hid (numsB_len wide (s.nums.take k))
            obtain ⟨x, hxe⟩ : ∃ x, x = s.nums.getD k 0 := ⟨_, rfl⟩
            rw [← hxe] at hx k3 HNS
            have Q := Lib.hid (number3_any x wide wr hx)
            have HOW2 := Lib.hid hown; have HBR2 := Lib.hid hbr; have HK := Lib.hid hlt
            clear hxe hown hbr
            rw [hA2]
            go_wp2_with fail
            refine Q.out.mono ?_
            rintro e w2 ⟨A3, c3, rfl, f1, f2, ho3, hb3⟩
            have HO3 := Lib.hid ho3; have HB3 := Lib.hid (HBR2.out.trans (hb3.mono HBR2.out.size))
            have HO4 := Lib.hid (HOW2.out.below hb3)
            clear ho3 hb3
            go_wp2_with (at_builtin; refine wpList_append_bytes isBytes rfl (.tmp 33) (.tmp 36) rfl w _ _ rfl HO4.out A3 (numB wide x) _ c3 rfl rfl HO3.out.bytes ?_ HB3.out ?_)
            · have h1 := HNL.out; have h2 := HL2.out; have h3 := numB_len wide x; have h4 : (s.nums.take k).length ≤ k := by simp; omega
              have h5 := HK.out
              rw [List.length_append]
              omega
            · intro v4 w4 hown4 hg4 hb4
              have HO5 := Lib.hid (show Own w4 w.heap.size 5 v4 (putB wide (L.take j) ++ headB s ++ numsB wide (s.nums.take (k + 1))) from by rw [HNS.out]; simpa only [List.append_assoc] using hown4)
              have HB5 := Lib.hid hb4
              clear hown4 hg4 hb4
              go_wp2_with fail
              go_roundw
              case rel => exact ⟨HB5.out, k + 1, HK.out, by go_num, HO5.out⟩
              case measure => have := HK.out; simp [intOf]; omega
          · obtain rfl : k = s.nums.length := by omega
            rw [List.take_length] at hown
            have HO2 := Lib.hid hown; have HB2 := Lib.hid hbr
            clear hown hbr
            go_wp2_with fail
            go_roundw
            case rel => exact ⟨HB2.out, j + 1, HJ.out, by go_num, by rw [HST.out]; exact HO2.out⟩
            case measure => have := HJ.out; simp [intOf]; omega
    · obtain rfl : j = L.length := by omega
      obtain ⟨A1, c1, rfl, f1, f2⟩ := hown.form
      rw [List.take_length] at hown f1
      go_wp2_with fail
      go_ret
      exact ⟨_, _, by rw [List.take_length]; rfl, f1, f2, hown, hbr⟩
end Go.Proofs.YtnaangnmlbgmkaaGreatDoor

/-
  All numbers of a path: the program's answer.
-/
namespace Go.Proofs.YtnaangnmlbgmkaaGreatDoor
set_option linter.unusedVariables false
set_option linter.unusedSimpArgs false
open Go.RowKit

/-- All numbers of a path. -/
def flatN (L : List Sg) : List Nat := L.flatMap fun s => s.nums
theorem flatN_len (L : List Sg) : (flatN L).length = totN L := by
  induction L with
  | nil => rfl
  | cons s L ih => simp only [flatN, totN, List.flatMap_cons, List.length_append, List.map_cons, List.sum_cons] at ih ⊢; rw [ih]
theorem flatN_step {L : List Sg} {j : Nat} {s : Sg} (h : L[j]? = some s) : flatN (L.take (j + 1)) = flatN (L.take j) ++ s.nums := by
  have hj := (List.getElem?_eq_some_iff.1 h).1
  have e : L[j] = s := (List.getElem?_eq_some_iff.1 h).2
  rw [List.take_succ_eq_append_getElem hj, e]
  simp [flatN]
def FlatRel (w : World) (L : List Sg) (v i : Value) (wr : World) : Prop :=
  Below w.heap.size w wr ∧ ∃ j : Nat, j ≤ L.length ∧ i = .int .i64 (j : Int) ∧ Own32 wr w.heap.size v (flatN (L.take j))

set_option maxHeartbeats 1600000 in
theorem Flat_any (A : Option Addr) (c : Nat) (L : List Sg) (w : World) (h : Segs w w.heap.size A L) (hl : L.length ≤ 1000000000) (ht : totN L ≤ 35184372088832) :
    Calls Tryz.prog 87 #[.slice A L.length c] w (Ret32 w (flatN L)) := by
  have HS := Lib.hid h; clear h
  go_enter Tryz.func87, Tryz.ntmps87
  go_wp2_with fail
  go_loopw [3, 8] (fun v i wr => FlatRel w L v i wr) (fun _ i _ => L.length - (intOf i).toNat)
  case atStart => exact ⟨Below.refl _ _, 0, Nat.zero_le _, rfl, Own32.nil _ _⟩
  case round =>
    obtain ⟨hbr, j, hj, rfl, hown⟩ := hrel
    by_cases hlt : j < L.length
    · obtain ⟨s, hs⟩ : ∃ s, L[j]? = some s := ⟨_, List.getElem?_eq_getElem hlt⟩
      obtain ⟨b, off, rfl, hb, k1, k2, hok⟩ := (HS.out.below hbr (Nat.le_refl _)).at hs
      have HST := Lib.hid (flatN_step hs)
      have HSZ := Lib.hid (show ((flatN (L.take j)).length + s.nums.length) * 4 ≤ 140737488355328 by
        have h1 : totN (L.take (j + 1)) = totN (L.take j) + s.nums.length := sum_take (f := fun s => s.nums.length) hs
        have h2 : totN (L.take (j + 1)) ≤ totN L := sum_take_le (fun s => s.nums.length) L (j + 1)
        rw [flatN_len]; omega)
      have hbA := hbr.alloc hbr.size (.cells #[.int .i64 s.kind, .slice s.adr s.nums.length s.cap] 112)
      have HAT := Lib.hid (hok.2.2.1.below ((Below.refl w.heap.size wr).alloc hbr.size (.cells #[.int .i64 s.kind, .slice s.adr s.nums.length s.cap] 112)) (Nat.le_refl _))
      have c7 := cells2 (Blk.new wr 112 [.int .i64 s.kind, .slice s.adr s.nums.length s.cap])
      have HOW := Lib.hid (hown.alloc (.cells #[.int .i64 s.kind, .slice s.adr s.nums.length s.cap] 112))
      have HBA := Lib.hid hbA; have HJ := Lib.hid hlt
      clear hs hok hown hbA hbr
      go_wp2_with (at_builtin; go_loud (refine wpList_app isU32 rfl (.tmp 12) (.tmp 14) rfl w _ _ (cells32 (flatN (L.take j))) rfl HOW.out s.adr s.nums.length s.cap (cells32 s.nums) rfl (by simp [cells32]) HAT.out.news (cells32_one _) HSZ.out HBA.out ?_))
      intro v1 w1 hown1 hg1 hb1
      have O1 := Lib.hid (show Own32 w1 w.heap.size v1 (flatN (L.take (j + 1))) from by
        rw [HST.out]
        unfold Own32 cells32 at *
        rw [List.length_append, List.map_append]
        exact hown1)
      have HB1 := Lib.hid hb1
      clear hown1 hg1 hb1 c7
      go_wp2_with fail
      go_roundw
      case rel => exact ⟨HB1.out, j + 1, HJ.out, by go_num, O1.out⟩
      case measure => have := HJ.out; simp [intOf]; omega
    · obtain rfl : j = L.length := by omega
      rw [List.take_length] at hown
      obtain ⟨A1, c1, rfl, f1, f2⟩ := hown.form
      have HAT := Lib.hid hown; have HBR := Lib.hid hbr
      clear hown hbr
      go_wp2_with fail
      go_ret
      exact ⟨_, _, rfl, f1, f2, HAT.out, HBR.out⟩
end Go.Proofs.YtnaangnmlbgmkaaGreatDoor

/-
  Whether a number is in a path.
-/
namespace Go.Proofs.YtnaangnmlbgmkaaGreatDoor
set_option linter.unusedVariables false
set_option linter.unusedSimpArgs false
open Go.RowKit

/-- Is a number in a list? -/
def inB (z : List Nat) (v : Nat) : Bool := z.any fun x => x == v
theorem has_step {z : List Nat} {v j : Nat} (hj : j < z.length) (h : inB (z.take j) v = false) (hv : v ≠ z.getD j 0) : inB (z.take (j + 1)) v = false := by
  have e : z.getD j 0 = z[j] := by simp [List.getD, hj]
  rw [e] at hv
  unfold inB at h ⊢
  rw [List.take_succ_eq_append_getElem hj, List.any_append, h]
  simpa using fun e => hv e.symm
theorem has_now {z : List Nat} {v j : Nat} (hj : j < z.length) (hv : v = z.getD j 0) : inB z v = true := by
  have e : z.getD j 0 = z[j] := by simp [List.getD, hj]
  rw [e] at hv
  unfold inB
  rw [List.any_eq_true]
  exact ⟨z[j], List.getElem_mem hj, by simp [hv]⟩
/-- What a search leaves: the place where it found, or one below all. -/
def Found (b : Bool) (w : World) (e : Ending) (w' : World) : Prop := ∃ k : Int, e = .returned (.int .i64 k) ∧ -1 ≤ k ∧ k ≤ 1152921504606846976 ∧ decide (0 ≤ k) = b

/-- Is a number in a path? -/
def hasB (L : List Sg) (v : Nat) : Bool := L.any fun s => inB s.nums v
theorem hasB_step {L : List Sg} {v j : Nat} {s : Sg} (hs : L[j]? = some s) (h : hasB (L.take j) v = false) (hn : inB s.nums v = false) : hasB (L.take (j + 1)) v = false := by
  have hj := (List.getElem?_eq_some_iff.1 hs).1
  have e : L[j] = s := (List.getElem?_eq_some_iff.1 hs).2
  rw [List.take_succ_eq_append_getElem hj, e]
  unfold hasB at h ⊢
  rw [List.any_append, h]
  simpa using hn
theorem hasB_now {L : List Sg} {v j : Nat} {s : Sg} (hs : L[j]? = some s) (hn : inB s.nums v = true) : hasB L v = true := by
  unfold hasB
  rw [List.any_eq_true]
  exact ⟨s, List.mem_of_getElem? hs, hn⟩

end Go.Proofs.YtnaangnmlbgmkaaGreatDoor

/-
  Numbers of four bytes each, by a closure.
-/
namespace Go.Proofs.YtnaangnmlbgmkaaGreatDoor
set_option linter.unusedVariables false
set_option linter.unusedSimpArgs false
open Go.RowKit

def FourRel (w : World) (z : List Nat) (v i : Value) (wr : World) : Prop :=
  Below w.heap.size w wr ∧ ∃ j : Nat, j ≤ z.length ∧ i = .int .i64 (j : Int) ∧ Own wr w.heap.size 5 v (numsB true (z.take j))
set_option maxHeartbeats 3200000 in
theorem four1_any (b : Nat) (A : Option Addr) (c : Nat) (z : List Nat) (w : World) (hc : w.cell? ⟨b, 0, none⟩ = some (.slice A z.length c)) (h : At32 w w.heap.size A z) (hz : ∀ n ∈ z, n < 4294967296) (hl : z.length ≤ 1000000) :
    Calls Tryz.prog 118 #[.pointer (some ⟨b, 0, none⟩)] w (RetBytes w (numsB true z)) := by
  have HAT := Lib.hid h; have HFIT := Lib.hid hz; have HLZ := Lib.hid hl
  clear h hz
  go_enter Tryz.func118, Tryz.ntmps118
  go_wp2_with fail
  go_loopw [2, 4, 7] (fun v _ i wr => FourRel w z v i wr) (fun _ _ i _ => z.length - (intOf i).toNat)
  case atStart => exact ⟨Below.refl _ _, 0, Nat.zero_le _, rfl, by simpa [numsB] using Own.nil _ _ _⟩
  case round =>
    obtain ⟨hbr, k, hk, rfl, hown⟩ := hrel
    by_cases hlt : k < z.length
    · obtain ⟨b2, off2, hA2, hb2, k3⟩ := (HAT.out.below hbr (Nat.le_refl _)).cell hlt
      have hx : z.getD k 0 < 4294967296 := HFIT.out _ (by rw [show z.getD k 0 = z[k] by simp [List.getD, hlt]]; exact List.getElem_mem hlt)
      have HNS := Lib.hid (numsB_step (wide := true) hlt)
      have HNL := Lib.hid (numsB_len true (z.take k))
      have HN4 := Lib.hid (numB_len true (z.getD k 0))
      have en : numB true (z.getD k 0) = be32 ((z.getD k 0 : Nat) : Int) := by unfold numB; rw [if_pos rfl]
      rw [en] at HNS HN4
      obtain ⟨x, hxe⟩ : ∃ x, x = z.getD k 0 := ⟨_, rfl⟩
      rw [← hxe] at hx k3 HNS HN4
      have q := Put32_any none 0 0 [] rfl (x : Int) wr (by simp) (Bytes.nil _ _) (by omega) (by omega)
      rw [List.nil_append] at q
      have Q := Lib.hid q
      have HOW2 := Lib.hid hown; have HBR2 := Lib.hid hbr; have HK := Lib.hid hlt
      clear hxe hown hbr q en hc
      rw [hA2]
      go_wp2_with fail
      refine Q.out.mono ?_
      rintro e w2 ⟨A3, c3, rfl, f1, f2, ho3, hb3⟩
      have HO3 := Lib.hid ho3; have HB3 := Lib.hid (HBR2.out.trans (hb3.mono HBR2.out.size))
      have HO4 := Lib.hid (HOW2.out.below hb3)
      clear ho3 hb3
      go_wp2_with (at_builtin; refine wpList_append_bytes isBytes rfl (.tmp 11) (.tmp 13) rfl w _ _ rfl HO4.out A3 (be32 (x : Int)) _ c3 rfl rfl HO3.out.bytes ?_ HB3.out ?_)
      · have h1 := HNL.out; have h2 := HLZ.out; have h3 := HN4.out; have h4 : (z.take k).length ≤ k := by simp; omega
        have h5 := HK.out
        omega
      · intro v4 w4 hown4 hg4 hb4
        have HO5 := Lib.hid (show Own w4 w.heap.size 5 v4 (numsB true (z.take (k + 1))) from by rw [HNS.out]; exact hown4)
        have HB5 := Lib.hid hb4
        clear hown4 hg4 hb4
        go_wp2_with fail
        go_roundw
        case rel => exact ⟨HB5.out, k + 1, HK.out, by go_num, HO5.out⟩
        case measure => have := HK.out; simp [intOf]; omega
    · obtain rfl : k = z.length := by omega
      obtain ⟨A1, c1, rfl, f1, f2⟩ := hown.form
      rw [List.take_length] at hown f1
      have HO := Lib.hid hown; have HB := Lib.hid hbr
      clear hown hbr hc
      go_wp2_with fail
      go_ret
      exact ⟨_, _, by rw [List.take_length]; rfl, f1, f2, HO.out, HB.out⟩
set_option maxHeartbeats 800000 in
theorem four_any (A : Option Addr) (n c : Nat) (w : World) :
    Calls Tryz.prog 82 #[.slice A n c] w fun e w' => e = .returned (.func (.func 118) #[] #[.pointer (some ⟨w.heap.size, 0, none⟩)]) ∧ w' = w.alloc (.cells #[.slice A n c] 25) := by
  go_enter Tryz.func82, Tryz.ntmps82
  go_wp2_with fail
  go_ret
  exact ⟨rfl, rfl⟩
end Go.Proofs.YtnaangnmlbgmkaaGreatDoor

/-
  Is there a number among some that finds no room in two bytes?
-/
namespace Go.Proofs.YtnaangnmlbgmkaaGreatDoor
set_option linter.unusedVariables false
open Go.RowKit

def bigB (n : Nat) : Bool := decide (65535 < n)
theorem big_any (n : Nat) (w : World) :
    Calls Tryz.prog 88 #[.int .u32 (n : Int)] w fun e w' => e = .returned (.bool (bigB n)) ∧ w = w' := by
  have hb : decide ((65535 : Int) < (n : Int)) = bigB n := by
    unfold bigB
    rw [decide_eq_decide]
    omega
  have HB := Lib.hid hb; clear hb
  go_enter Tryz.func88, Tryz.ntmps88
  go_wp2_with fail
  go_ret
  exact ⟨by rw [← HB.out]; first | rfl | (congr 2; rw [decide_eq_decide]; omega), rfl⟩
/-- A number of the first j that is big. -/
def bigs (z : List Nat) : Bool := z.any bigB
theorem bigs_step {z : List Nat} {j : Nat} (hj : j < z.length) (h : bigs (z.take j) = false) (hb : bigB (z.getD j 0) = false) : bigs (z.take (j + 1)) = false := by
  have e : z.getD j 0 = z[j] := by simp [List.getD, hj]
  rw [e] at hb
  unfold bigs at h ⊢
  rw [List.take_succ_eq_append_getElem hj, List.any_append, h]
  simpa using hb
theorem bigs_now {z : List Nat} {j : Nat} (hj : j < z.length) (hb : bigB (z.getD j 0) = true) : bigs z = true := by
  have e : z.getD j 0 = z[j] := by simp [List.getD, hj]
  rw [e] at hb
  unfold bigs
  rw [List.any_eq_true]
  exact ⟨z[j], List.getElem_mem hj, hb⟩
/-- What a search leaves. -/
def Found4 (b : Bool) (e : Ending) : Prop := ∃ k : Int, e = .returned (.int .i64 k) ∧ -1 ≤ k ∧ k ≤ 1152921504606846976 ∧ decide (0 ≤ k) = b
set_option maxHeartbeats 1600000 in
theorem IndexFunc4_any (A : Option Addr) (c : Nat) (z : List Nat) (w : World) (h : At32 w w.heap.size A z) (hl : z.length ≤ 1152921504606846976) :
    Calls Tryz.prog 120 #[.slice A z.length c, .func (.func 88) #[] #[]] w fun e w' => Found4 (bigs z) e ∧ w = w' := by
  have HS := Lib.hid h; clear h
  go_enter Tryz.func120, Tryz.ntmps120
  go_wp2_with fail
  go_loop [8] (fun i => ∃ j : Nat, j ≤ z.length ∧ i = .int .i64 (j : Int) ∧ Hid (bigs (z.take j) = false)) (fun i => z.length - (intOf i).toNat)
  case atStart => exact ⟨0, Nat.zero_le _, rfl, Lib.hid (by simp [bigs])⟩
  case round =>
    obtain ⟨j, hj, rfl, hno⟩ := hrel
    by_cases hlt : j < z.length
    · obtain ⟨b, off, rfl, hb, k1⟩ := HS.out.cell hlt
      have Q := Lib.hid (big_any (z.getD j 0) w)
      have HNo := Lib.hid (fun h : bigB (z.getD j 0) = true => bigs_now hlt h)
      have HSt := Lib.hid (fun h : bigB (z.getD j 0) = false => bigs_step hlt hno.out h)
      obtain ⟨x, hx⟩ : ∃ x, x = z.getD j 0 := ⟨_, rfl⟩
      rw [← hx] at k1 Q HNo HSt
      clear hx
      cases hn : bigB x with
      | true =>
        rw [hn] at Q
        have HN := Lib.hid (HNo.out hn)
        clear hn HNo HSt
        go_wp2_with (go_at_call 88; refine Q.out.mono ?_; rintro e w2 ⟨rfl, rfl⟩)
        go_ret
        exact ⟨⟨_, rfl, by omega, by omega, by rw [HN.out]; simp⟩, rfl⟩
      | false =>
        rw [hn] at Q
        have HN := Lib.hid (HSt.out hn)
        clear hn HNo HSt
        go_wp2_with (go_at_call 88; refine Q.out.mono ?_; rintro e w2 ⟨rfl, rfl⟩)
        go_round
        case rel => exact ⟨j + 1, by omega, by go_num, HN⟩
        case measure => simp [intOf]; omega
    · obtain rfl : j = z.length := by omega
      go_wp2_with fail
      go_ret
      exact ⟨⟨_, rfl, by omega, by omega, by have := hno.out; rw [List.take_length] at this; rw [this]; rfl⟩, rfl⟩
theorem ContainsFunc4_any (A : Option Addr) (c : Nat) (z : List Nat) (w : World) (h : At32 w w.heap.size A z) (hl : z.length ≤ 1152921504606846976) :
    Calls Tryz.prog 86 #[.slice A z.length c, .func (.func 88) #[] #[]] w fun e w' => e = .returned (.bool (bigs z)) ∧ w = w' := by
  have Q := Lib.hid (IndexFunc4_any A c z w h hl); clear h
  go_enter Tryz.func86, Tryz.ntmps86
  go_wp2_with fail
  refine Q.out.mono ?_
  rintro e w1 ⟨⟨k, rfl, f1, f2, hk⟩, rfl⟩
  have HK := Lib.hid hk; clear hk
  go_wp2_with fail
  go_ret
  exact ⟨by rw [← HK.out]; rfl, rfl⟩
end Go.Proofs.YtnaangnmlbgmkaaGreatDoor

/-
  The reader's U32.
-/
namespace Go.Proofs.YtnaangnmlbgmkaaGreatDoor
open Go.RowKit

theorem U32_any (B g : Nat) (l : List UInt8) (s : Bool) (w : World) (h : Rd w B g l s) :
    Calls Tryz.prog 98 #[.pointer (some ⟨g, 0, none⟩)] w (NumPost .u32 w B g (rdTake l s 4).1 (rdTake l s 4).2.1 (rdTake l s 4).2.2) := by
  have hb := h.1
  have hlt := h.lt
  have hr := rdTake_len l s 4
  have h38 := Lib.hid (next_any 4 B g l s w h)
  clear h
  obtain ⟨X, hX⟩ : ∃ X, X = rdTake l s 4 := ⟨_, rfl⟩
  rw [← hX] at h38 hr ⊢
  have HX := Lib.hid hX; clear hX
  have hn := num_lt4 (l := X.1) (by omega)
  go_enter Tryz.func98, Tryz.ntmps98
  go_wp2_with fail
  refine h38.out.mono ?_
  rintro e w1 ⟨A1, c1, rfl, f1, f2, hA1, hR1, hg1⟩
  have HA := Lib.hid hA1; have HR := Lib.hid hR1; have HG := Lib.hid hg1; clear hA1 hR1 hg1
  go_wp2_with fail
  refine (number_any A1 _ c1 X.1 rfl w1 (by omega) (HA.out.bytes (Nat.le_trans hb (Nat.le_trans (Nat.le_of_lt hlt) HG.out.size)))).mono ?_
  rintro e w2 ⟨rfl, rfl⟩
  go_wp2_with fail
  go_ret
  exact ⟨rfl, HR.out, HG.out⟩
theorem U32_nil (w : World) : Calls Tryz.prog 98 #[.pointer none] w fun e w' => e = .returned (.int .u32 0) ∧ w = w' := by
  go_enter Tryz.func98, Tryz.ntmps98
  go_wp2_with fail
  refine (next_nil 4 w).mono ?_
  rintro e w1 ⟨rfl, rfl⟩
  go_wp2_with fail
  refine (number_nil w).mono ?_
  rintro e w1 ⟨rfl, rfl⟩
  go_wp2_with fail
  go_ret
  exact ⟨rfl, rfl⟩
end Go.Proofs.YtnaangnmlbgmkaaGreatDoor

/-
  The reader's U16.
-/
namespace Go.Proofs.YtnaangnmlbgmkaaGreatDoor
open Go.RowKit

theorem U16_any (B g : Nat) (l : List UInt8) (s : Bool) (w : World) (h : Rd w B g l s) :
    Calls Tryz.prog 27 #[.pointer (some ⟨g, 0, none⟩)] w (NumPost .i64 w B g (rdTake l s 2).1 (rdTake l s 2).2.1 (rdTake l s 2).2.2) := by
  have hb := h.1
  have hlt := h.lt
  have hr := rdTake_len l s 2
  have h38 := Lib.hid (next_any 2 B g l s w h)
  clear h
  obtain ⟨X, hX⟩ : ∃ X, X = rdTake l s 2 := ⟨_, rfl⟩
  rw [← hX] at h38 hr ⊢
  have HX := Lib.hid hX; clear hX
  have hn := num_lt4 (l := X.1) (by omega)
  go_enter Tryz.func27, Tryz.ntmps27
  go_wp2_with fail
  refine h38.out.mono ?_
  rintro e w1 ⟨A1, c1, rfl, f1, f2, hA1, hR1, hg1⟩
  have HA := Lib.hid hA1; have HR := Lib.hid hR1; have HG := Lib.hid hg1; clear hA1 hR1 hg1
  go_wp2_with fail
  refine (number_any A1 _ c1 X.1 rfl w1 (by omega) (HA.out.bytes (Nat.le_trans hb (Nat.le_trans (Nat.le_of_lt hlt) HG.out.size)))).mono ?_
  rintro e w2 ⟨rfl, rfl⟩
  go_wp2_with fail
  go_ret
  exact ⟨rfl, HR.out, HG.out⟩
theorem U16_nil (w : World) : Calls Tryz.prog 27 #[.pointer none] w fun e w' => e = .returned (.int .i64 0) ∧ w = w' := by
  go_enter Tryz.func27, Tryz.ntmps27
  go_wp2_with fail
  refine (next_nil 2 w).mono ?_
  rintro e w1 ⟨rfl, rfl⟩
  go_wp2_with fail
  refine (number_nil w).mono ?_
  rintro e w1 ⟨rfl, rfl⟩
  go_wp2_with fail
  go_ret
  exact ⟨rfl, rfl⟩
end Go.Proofs.YtnaangnmlbgmkaaGreatDoor

/-
  The document's reader: what each of its calls tells, and where it stands behind it.
-/
namespace Go.Proofs.YtnaangnmlbgmkaaGreatDoor
open Go.RowKit

section
variable {w w' : World} {B g k : Nat} {l : List UInt8} {s : Bool}
end

/-- What the document's reader tells of a Take of n. -/
def refTake (l : List UInt8) (k : Nat) (s : Bool) (n : Int) : List UInt8 × Nat × Bool := if s = false ∧ 0 ≤ n ∧ n ≤ (l.length : Int) - k then ((l.drop k).take n.toNat, k + n.toNat, false) else ([], k, true)

theorem byte_lt (b : UInt8) : (b.toNat : Int) < 256 := by have := b.toNat_lt; omega

theorem len_lt {l : List UInt8} {k j m : Nat} (hl : l.length ≤ 1000000) (_hj : j ≤ m) : ((l.drop k).take j).length < 140737488355328 := by
  simp only [List.length_take, List.length_drop]
  omega

theorem own_take {w' : World} {B e : Nat} {v : Value} {l : List UInt8} {k j : Nat} (h : k + j < l.length) (ho : Own w' B e v ((l.drop k).take j ++ [UInt8.ofNat ((l[k + j]?.getD 0).toNat : Int).toNat])) : Own w' B e v ((l.drop k).take (j + 1)) := by
  rw [take_snoc _ j (by simp; omega)]
  have e1 : UInt8.ofNat ((l[k + j]?.getD 0).toNat : Int).toNat = (l.drop k).getD j 0 := by simp [List.getD, List.getElem?_drop]
  rw [e1] at ho
  exact ho

def RefLoop (w : World) (l : List UInt8) (k : Nat) (m : Nat) (v i : Value) (wr : World) : Prop :=
  Below w.heap.size w wr ∧ ∃ j : Nat, j ≤ m ∧ i = .int .i64 (j : Int) ∧ Own wr w.heap.size 5 v ((l.drop k).take j)

end Go.Proofs.YtnaangnmlbgmkaaGreatDoor

/-
  Whether two lists of numbers are the same.
-/
namespace Go.Proofs.YtnaangnmlbgmkaaGreatDoor
set_option linter.unusedVariables false
set_option linter.unusedSimpArgs false
open Go.RowKit

/-- Are two lists of numbers the same? -/
def sameZ (y z : List Nat) : Bool := decide (y = z)
theorem same_step {y z : List Nat} {j : Nat} (hy : j < y.length) (hz : j < z.length) (h : y.take j = z.take j) :
    (y.getD j 0 = z.getD j 0 → y.take (j + 1) = z.take (j + 1)) ∧ (¬ y.getD j 0 = z.getD j 0 → sameZ y z = false) := by
  have e1 : y.getD j 0 = y[j] := by simp [List.getD, hy]
  have e2 : z.getD j 0 = z[j] := by simp [List.getD, hz]
  refine ⟨fun e => ?_, fun e => ?_⟩
  · rw [List.take_succ_eq_append_getElem hy, List.take_succ_eq_append_getElem hz, h, ← e1, ← e2, e]
  · unfold sameZ
    exact decide_eq_false (fun e3 => e (by rw [e3]))
theorem same_end {y z : List Nat} (hl : y.length = z.length) (h : y.take y.length = z.take y.length) : sameZ y z = true := by
  rw [List.take_length, hl, List.take_length] at h
  unfold sameZ
  exact decide_eq_true h

set_option maxHeartbeats 1600000 in
theorem Nums_any (A A' : Option Addr) (c c' : Nat) (y z : List Nat) (w : World) (h : At32 w w.heap.size A y) (h' : At32 w w.heap.size A' z) (hl : y.length ≤ 9223372036854775807) :
    Calls Tryz.prog 66 #[.slice A y.length c, .slice A' z.length c'] w fun e w' => e = .returned (.bool (sameZ y z)) ∧ ∃ m, w' = w.drewN m := by
  have HS := Lib.hid h; have HS' := Lib.hid h'; clear h h'
  by_cases hlen : y.length = z.length
  · have HL := Lib.hid hlen
    rw [← hlen]
    clear hlen
    go_enter Tryz.func66, Tryz.ntmps66
    go_wp2_with fail
    go_loopw [5] (fun i wr => ∃ (j m : Nat), wr = w.drewN m ∧ j ≤ y.length ∧ i = .int .i64 (j : Int) ∧ Hid (y.take j = z.take j)) (fun i _ => y.length - (intOf i).toNat)
    case atStart => exact ⟨0, 0, rfl, Nat.zero_le _, rfl, Lib.hid (by simp)⟩
    case round =>
      obtain ⟨j, m, rfl, hj, rfl, hsm⟩ := hrel
      by_cases hlt : j < y.length
      · have hlt' : j < z.length := by rw [← HL.out]; exact hlt
        obtain ⟨b, off, hA, hb, k1⟩ := HS.out.cell hlt
        obtain ⟨b', off', hA', hb', k2⟩ := HS'.out.cell hlt'
        have HST := Lib.hid (same_step hlt hlt' hsm.out)
        obtain ⟨x, hx⟩ : ∃ x, x = y.getD j 0 := ⟨_, rfl⟩
        obtain ⟨x', hx'⟩ : ∃ x', x' = z.getD j 0 := ⟨_, rfl⟩
        rw [← hx] at k1 HST
        rw [← hx'] at k2 HST
        have HJ := Lib.hid hlt
        clear hx hx' hlt'
        subst hA; subst hA'
        by_cases he : x = x'
        · have he2 : ((x : Int) != (x' : Int)) = false := by simp; omega
          have HN := Lib.hid (HST.out.1 he)
          clear he HST
          go_wp2_with fail
          go_quiet (fail)
          go_wp2_with fail
          go_roundw
          case rel => exact ⟨j + 1, _, rfl, HJ.out, by go_num, HN⟩
          case measure => have := HJ.out; simp [intOf]; omega
        · have he2 : ((x : Int) != (x' : Int)) = true := by simp; omega
          have HN := Lib.hid (HST.out.2 he)
          clear he HST
          go_wp2_with fail
          go_quiet (fail)
          go_wp2_with fail
          go_ret
          exact ⟨by rw [HN.out]; rfl, _, by first | rfl | exact World.drewN_drewN _ _ _⟩
      · obtain rfl : j = y.length := by omega
        have HE := Lib.hid (same_end HL.out hsm.out)
        go_wp2_with fail
        go_ret
        exact ⟨by rw [HE.out]; rfl, _, rfl⟩
  · have hne : ((y.length : Int) != (z.length : Int)) = true := by simp; omega
    have HE := Lib.hid (show sameZ y z = false from by unfold sameZ; exact decide_eq_false (fun e => hlen (by rw [e])))
    clear hlen
    go_enter Tryz.func66, Tryz.ntmps66
    go_wp2_with fail
    go_ret
    exact ⟨by rw [HE.out]; rfl, 0, rfl⟩
end Go.Proofs.YtnaangnmlbgmkaaGreatDoor

/-
  The first number of a path: the program's answer and the document's.
-/
namespace Go.Proofs.YtnaangnmlbgmkaaGreatDoor
set_option linter.unusedVariables false
set_option linter.unusedSimpArgs false
open Go.RowKit

/-- The first number of a path that begins with a sequence. -/
def firstL (L : List Sg) : Nat × Bool := match L[0]? with
  | none => (0, false)
  | some s => if s.kind = 2 then (match s.nums[0]? with | none => (0, false) | some x => (x, true)) else (0, false)
def retFirst (p : Nat × Bool) : Value := .tuple #[.int .u32 (p.1 : Int), .bool p.2]

set_option maxHeartbeats 1600000 in
theorem First_any (A : Option Addr) (c : Nat) (L : List Sg) (w : World) (h : Segs w w.heap.size A L) :
    Calls Tryz.prog 64 #[.slice A L.length c] w fun e w' => e = .returned (retFirst (firstL L)) ∧ w = w' := by
  by_cases h0 : L.length = 0
  · obtain rfl : L = [] := List.eq_nil_of_length_eq_zero h0
    clear h0 h
    go_enter Tryz.func64, Tryz.ntmps64
    go_wp2_with fail
    exact bodyPost_ret (v := retFirst (0, false)) (by simp [results, Tryz.results64, go_sem, retFirst]) rfl ⟨rfl, rfl⟩
  · obtain ⟨s, hs⟩ : ∃ s, L[0]? = some s := ⟨_, List.getElem?_eq_getElem (by omega)⟩
    obtain ⟨b, off, rfl, hb, k1, k2, hok⟩ := h.at hs
    simp only [Nat.zero_mul, Nat.add_zero] at k1 k2
    have hl0 : ((L.length : Int) == 0) = false := by rw [beq_eq_false_iff_ne]; omega
    have hl1 : (0 : Int) < (L.length : Int) := by omega
    by_cases h2 : s.kind = 2
    · have hk : (s.kind != 2) = false := by simpa using h2
      by_cases h3 : s.nums.length = 0
      · have hn : ((s.nums.length : Int) == 0) = true := by rw [beq_iff_eq]; omega
        have HE := Lib.hid (show firstL L = (0, false) by unfold firstL; rw [hs]; simp only [h2, if_true]; rw [List.getElem?_eq_none (by omega)])
        clear hs hok h h2 h3 h0
        go_enter Tryz.func64, Tryz.ntmps64
        go_wp2_with fail
        exact bodyPost_ret (v := retFirst (0, false)) (by simp [results, Tryz.results64, go_sem, retFirst]) rfl ⟨by rw [HE.out], rfl⟩
      · have hn : ((s.nums.length : Int) == 0) = false := by rw [beq_eq_false_iff_ne]; omega
        obtain ⟨b2, off2, hA2, hb2, k3⟩ := hok.2.2.1.cell (k := 0) (by omega)
        obtain ⟨x, hx⟩ : ∃ x, s.nums[0]? = some x := ⟨_, List.getElem?_eq_getElem (by omega)⟩
        have hxe : s.nums.getD 0 0 = x := by simp [List.getD, hx]
        rw [hxe] at k3
        simp only [Nat.add_zero] at k3
        have hn1 : (0 : Int) < (s.nums.length : Int) := by omega
        have HE := Lib.hid (show firstL L = (x, true) by unfold firstL; rw [hs]; simp only [h2, if_true, hx])
        rw [hA2] at k2
        clear hs hok h h2 h3 h0 hA2 hxe hx
        go_enter Tryz.func64, Tryz.ntmps64
        go_wp2_with fail
        exact bodyPost_ret (v := retFirst (x, true)) (by simp [results, Tryz.results64, go_sem, retFirst]) rfl ⟨by rw [HE.out], rfl⟩
    · have hk : (s.kind != 2) = true := by simpa using h2
      have HE := Lib.hid (show firstL L = (0, false) by unfold firstL; rw [hs]; simp only [h2, if_false])
      clear hs hok h h2 h0
      go_enter Tryz.func64, Tryz.ntmps64
      go_wp2_with fail
      exact bodyPost_ret (v := retFirst (0, false)) (by simp [results, Tryz.results64, go_sem, retFirst]) rfl ⟨by rw [HE.out], rfl⟩

end Go.Proofs.YtnaangnmlbgmkaaGreatDoor

/-
  Lists of segments of a call's own, each with numbers of its own.
-/
namespace Go.Proofs.YtnaangnmlbgmkaaGreatDoor
set_option linter.unusedVariables false
open Go.RowKit

theorem wpList_app_one' {P : Program} {w : World} {ops : Array Oper} {rest : List Oper} {o : Oper} {a : Act} {Q : Exit → Act → World → Prop} {t e : TypeId} {z : Value} {size bytes : Nat} (T : IsRow P t e z size bytes) (hgd : o.guard = none) (s x : Operand) (ho : o.op = .call { callee := .builtin .append, args := #[s, x], argTypes := #[t, t] })
    (base : Nat) (v : Value) (n : Nat) (xs : List Value) (hs : a.eval s = v) (wr : World) (cs : List Value) (hw : w = wr.alloc (.cells cs.toArray e)) (hown : wr.ownsRow base e size v n xs) (hx : a.eval x = .slice (some ⟨wr.heap.size, 0, none⟩) 1 1)
    (hl : cs.length = size) (h1 : ∀ u ∈ cs, u.oneCell' = true) (hsz : (n + 1) * bytes ≤ 140737488355328) (hb : base ≤ wr.heap.size)
    (h : ∀ v' w', w'.ownsRow base e size v' (n + 1) (xs ++ cs) → wr.grownBy w' v.ownBlock → wpList P ops Q rest (a.put o.dst v') w') : wpList P ops Q (o :: rest) a w := by
  subst hw
  obtain ⟨i, hi, hz0, hz1, hz2⟩ := info_parts T.info
  have h47 : n + 1 ≤ 140737488355328 := Nat.le_trans (Nat.le_mul_of_pos_right _ T.some') hsz
  refine wpList_append_own _ hgd s x t ho base e i z size bytes T.ht hi hz0 hz1 hz2 T.hzs T.pos v n xs hs (hown.alloc _) ⟨wr.heap.size, 0, none⟩ 1 1 cs hx (by simpa using hl) (fun j u hu => ?_) h1 (by unfold maxLen; omega) hsz (by simp; omega) fun v' w' ho' hg _ => h v' w' ho' (grown_of_alloc hg)
  rw [Addr.add_lit, (Blk.new wr e cs).cell]
  simpa using hu

theorem below_set3 {w w1 : World} {h : Nat} {u v : Value} (hb : Below w.heap.size w w1) (hg : w.heap.size ≤ h) : Below w.heap.size w ((w1.setCell ⟨h, 0, none⟩ u).setCell ⟨h, 1, none⟩ v) :=
  (hb.setCell (p := ⟨h, 0, none⟩) (by simpa using hg) _).setCell (p := ⟨h, 1, none⟩) (by simpa using hg) _

def Sg.sl (s : Sg) : Value := .slice s.adr s.nums.length s.cap
def Sg.two (s : Sg) : List Value := [.int .i64 s.kind, s.sl]
def flatS (M : List Sg) : List Value := M.flatMap Sg.two
def Sg.abs (s : Sg) : Int × List Nat := (s.kind, s.nums)
def Sg.Fit (s : Sg) : Prop := (∀ x ∈ s.nums, x < 4294967296) ∧ (-9223372036854775808 ≤ s.kind ∧ s.kind ≤ 9223372036854775807)
theorem flat_len (M : List Sg) : (flatS M).length = M.length * 2 := by
  induction M with
  | nil => rfl
  | cons s M ih => simp only [flatS, List.flatMap_cons, List.length_append, List.length_cons] at ih ⊢; rw [ih]; simp [Sg.two]; omega
theorem flat_snoc (M : List Sg) (s : Sg) : flatS (M ++ [s]) = flatS M ++ s.two := by simp [flatS]
theorem flat_at : ∀ (M : List Sg) (j : Nat) (s : Sg), M[j]? = some s → (flatS M)[j * 2]? = some (.int .i64 s.kind) ∧ (flatS M)[j * 2 + 1]? = some s.sl := by
  intro M
  induction M with
  | nil => intro j s h; simp at h
  | cons x M ih =>
    intro j s h
    have e : flatS (x :: M) = .int .i64 x.kind :: x.sl :: flatS M := by simp [flatS, Sg.two]
    rw [e]
    rcases j with _ | j
    · simp at h
      subst h
      exact ⟨rfl, rfl⟩
    · have h2 := ih j s (by simpa using h)
      have e1 : (j + 1) * 2 = j * 2 + 1 + 1 := by omega
      rw [e1]
      exact ⟨by simpa using h2.1, by simpa using h2.2⟩
theorem two_one (s : Sg) : ∀ u ∈ s.two, u.oneCell' = true := by
  intro u hu
  simp only [Sg.two, List.mem_cons, List.not_mem_nil, or_false] at hu
  rcases hu with rfl | rfl <;> rfl

theorem own_types {w : World} {B B' n n' size size' : Nat} {e e' : TypeId} {v v' : Value} {xs xs' : List Value} (h : w.ownsRow B e size v n xs) (h' : w.ownsRow B' e' size' v' n' xs') (he : e ≠ e') : v.ownBlock = none ∨ v.ownBlock ≠ v'.ownBlock := by
  rcases h.2 with ⟨rfl, _⟩ | ⟨g, cap, cur, rfl, _, hg, _⟩
  · exact .inl rfl
  · right
    rcases h'.2 with ⟨rfl, _⟩ | ⟨g', cap', cur', rfl, _, hg', _⟩
    · simp [Value.ownBlock]
    · intro e1
      have e2 : g = g' := by simpa [Value.ownBlock] using e1
      subst e2
      rw [hg] at hg'
      injection hg' with h1
      injection h1 with h2 h3
      exact he h3

/-- The value v is a slice of the call's own (blocks at B or later) that holds the segments M, each with numbers of its own; those of the last one lie at H or later, those ahead of it below H. -/
structure OwnSegs (w : World) (B H : Nat) (v : Value) (M : List Sg) : Prop where
  row : w.ownsRow B 112 2 v M.length (flatS M)
  own : ∀ s ∈ M, Own32 w B s.sl s.nums
  low : ∀ s ∈ M.dropLast, ∀ k, s.sl.ownBlock = some k → k < H
  last : ∀ s, M.getLast? = some s → ∀ k, s.sl.ownBlock = some k → H ≤ k
  fit : ∀ s ∈ M, s.Fit
theorem OwnSegs.nil (w : World) (B H : Nat) : OwnSegs w B H (.slice none 0 0) [] :=
  ⟨World.ownsRow_nil w B _ 2, fun s h => by simp at h, fun s h => by simp at h, fun s h => by simp at h, fun s h => by simp at h⟩
theorem segNe : (24 : TypeId) ≠ 112 := by decide
theorem OwnSegs.below {w w' : World} {B H : Nat} {v : Value} {M : List Sg} (h : OwnSegs w B H v M) (hb : Below w.heap.size w w') : OwnSegs w' B H v M :=
  ⟨World.ownsRow.kept h.row (row := none) ⟨hb.os, hb.tape, hb.output, hb.size, fun k hk _ => hb.block k hk⟩ (by cases v.ownBlock <;> simp), fun s hs => (h.own s hs).below hb, h.low, h.last, h.fit⟩
/-- A segment more, with numbers that lie at H' or later, behind all that was there. -/
theorem OwnSegs.push {w w' : World} {B H H' : Nat} {v v' : Value} {M : List Sg} {s : Sg} (h : OwnSegs w B H v M) (hs : Own32 w H' s.sl s.nums) (hB : B ≤ H') (hH : ∀ s ∈ M, ∀ k, s.sl.ownBlock = some k → k < H') (hf : s.Fit)
    (hrow : w'.ownsRow B 112 2 v' (M.length + 1) (flatS M ++ s.two)) (hg : w.grownBy w' v.ownBlock) : OwnSegs w' B H' v' (M ++ [s]) := by
  refine ⟨?_, ?_, ?_, ?_, ?_⟩
  · rw [List.length_append, flat_snoc]
    exact hrow
  · intro x hx
    rcases List.mem_append.1 hx with h1 | h1
    · exact World.ownsRow.kept (h.own x h1) hg (own_types (h.own x h1) h.row segNe)
    · obtain rfl : x = s := by simpa using h1
      exact World.ownsRow.kept (hs.lower hB) hg (own_types hs h.row segNe)
  · intro x hx k hk
    rw [List.dropLast_concat] at hx
    exact hH x hx k hk
  · intro x hx k hk
    rw [List.getLast?_concat] at hx
    cases hx
    exact (World.ownsRow.lt hs k hk).1
  · intro x hx
    rcases List.mem_append.1 hx with h1 | h1
    · exact h.fit x h1
    · obtain rfl : x = s := by simpa using h1
      exact hf
theorem OwnSegs.blocks {w : World} {B H : Nat} {v : Value} {M : List Sg} (h : OwnSegs w B H v M) : ∀ s ∈ M, ∀ k, s.sl.ownBlock = some k → k < w.heap.size := fun s hs k hk => (World.ownsRow.lt (h.own s hs) k hk).2
theorem OwnSegs.form {w : World} {B H : Nat} {v : Value} {M : List Sg} (h : OwnSegs w B H v M) : ∃ A c, v = .slice A M.length c ∧ M.length ≤ c ∧ c ≤ maxLen := by
  rcases h.row.2 with ⟨rfl, hn⟩ | ⟨g, cap, cur, rfl, hbg, hg, hnc, hcm, hcs, htake⟩
  · exact ⟨none, 0, by rw [hn], by omega, Nat.zero_le _⟩
  · exact ⟨_, cap, rfl, hnc, hcm⟩
/-- Such a list can be read. -/
theorem OwnSegs.segs {w : World} {B H n c : Nat} {A : Option Addr} {M : List Sg} (h : OwnSegs w B H (.slice A n c) M) : Segs w w.heap.size A M := by
  intro hl
  rcases h.row.2 with ⟨hv, hn⟩ | ⟨g, cap, cur, hv, hbg, hg, hnc, hcm, hcs, htake⟩
  · exact absurd (List.eq_nil_of_length_eq_zero hn) hl
  · have hA : A = some ⟨g, 0, none⟩ := by injection hv
    refine ⟨g, 0, hA, (Array.getElem?_eq_some_iff.1 hg).1, fun j s hj => ?_⟩
    have hc := World.ownsRow.cells h.row (g := g) (by subst hA; rfl)
    have f := flat_at M j s hj
    have c1 := hc (j * 2) _ f.1
    have c2 := hc (j * 2 + 1) _ f.2
    rw [Addr.add_lit] at c1 c2
    have ho := h.own s (List.mem_of_getElem? hj)
    obtain ⟨A', c', hsl, g1, g2⟩ := ho.form
    simp only [Sg.sl, Value.slice.injEq] at hsl
    obtain ⟨h1, h2, h3⟩ := hsl
    subst h1 h3
    exact ⟨c1, c2, g1, g2, Own32.at ho, (h.fit s (List.mem_of_getElem? hj)).1, (h.fit s (List.mem_of_getElem? hj)).2⟩
/-- The last segment with more numbers: they are the call's own as before, and the segment's cell tells where they lie. -/
theorem OwnSegs.more {w w1 : World} {B H g n c : Nat} {M : List Sg} {s : Sg} {A1 : Option Addr} {c1 : Nat} {z : List Nat} (h : OwnSegs w B H (.slice (some ⟨g, 0, none⟩) n c) (M ++ [s])) (hB : B ≤ H)
    (ho : Own32 w1 H (.slice A1 z.length c1) z) (hz : ∀ x ∈ z, x < 4294967296) (hg : w.grownBy w1 s.sl.ownBlock) :
    OwnSegs (w1.setCell ⟨g, M.length * 2 + 1, none⟩ (.slice A1 z.length c1)) B H (.slice (some ⟨g, 0, none⟩) n c) (M ++ [⟨s.kind, A1, c1, z⟩]) := by
  have hmem : s ∈ M ++ [s] := by simp
  have hrow1 : w1.ownsRow B 112 2 (.slice (some ⟨g, 0, none⟩) n c) (M ++ [s]).length (flatS (M ++ [s])) :=
    World.ownsRow.kept h.row hg (own_types h.row (h.own s hmem) (Ne.symm segNe))
  have hn : n = (M ++ [s]).length := by
    rcases h.row.2 with ⟨hv, _⟩ | ⟨_, _, _, hv, _⟩
    · cases hv
    · injection hv
  subst hn
  have hst := (World.ownsRow.stored hrow1 (M.length * 2 + 1) (.slice A1 z.length c1)).1
  have hgw : w1.grownBy (w1.setCell ⟨g, M.length * 2 + 1, none⟩ (.slice A1 z.length c1)) (some g) := grown_setCell (grown_refl _ _) _ _
  have hflat : (flatS (M ++ [s])).set (M.length * 2 + 1) (.slice A1 z.length c1) = flatS (M ++ [⟨s.kind, A1, c1, z⟩]) := by
    rw [flat_snoc, flat_snoc, List.set_append_right _ _ (by rw [flat_len]; omega), flat_len]
    have e : M.length * 2 + 1 - M.length * 2 = 1 := by omega
    rw [e]
    rfl
  have hnb : ∀ (x : Sg), Own32 w1 B x.sl x.nums → x.sl.ownBlock = none ∨ x.sl.ownBlock ≠ some g := fun x hx => own_types hx hrow1 segNe
  have hkeep : ∀ x ∈ M, Own32 w1 B x.sl x.nums := by
    intro x hx
    refine World.ownsRow.kept (h.own x (by simp [hx])) hg ?_
    cases hk : x.sl.ownBlock with
    | none => exact .inl rfl
    | some k =>
      right
      intro e
      have h1 := h.low x (by rw [List.dropLast_concat]; exact hx) k hk
      have h2 := h.last s (by rw [List.getLast?_concat]) k e.symm
      omega
  refine ⟨?_, ?_, ?_, ?_, ?_⟩
  · have e2 : (M ++ [(⟨s.kind, A1, c1, z⟩ : Sg)]).length = (M ++ [s]).length := by simp
    rw [e2, ← hflat]
    exact hst
  · intro x hx
    rcases List.mem_append.1 hx with h1 | h1
    · exact World.ownsRow.kept (hkeep x h1) hgw (hnb x (hkeep x h1))
    · obtain rfl : x = ⟨s.kind, A1, c1, z⟩ := by simpa using h1
      exact World.ownsRow.kept (ho.lower hB) hgw (hnb ⟨s.kind, A1, c1, z⟩ (ho.lower hB))
  · intro x hx k hk
    rw [List.dropLast_concat] at hx
    exact h.low x (by rw [List.dropLast_concat]; exact hx) k hk
  · intro x hx k hk
    rw [List.getLast?_concat] at hx
    cases hx
    exact (World.ownsRow.lt ho k hk).1
  · intro x hx
    rcases List.mem_append.1 hx with h1 | h1
    · exact h.fit x (by simp [h1])
    · obtain rfl : x = ⟨s.kind, A1, c1, z⟩ := by simpa using h1
      exact ⟨hz, (h.fit s hmem).2⟩
end Go.Proofs.YtnaangnmlbgmkaaGreatDoor

/-
  Three slices of bytes, one behind another.
-/
namespace Go.Proofs.YtnaangnmlbgmkaaGreatDoor
set_option linter.unusedVariables false
set_option linter.unusedSimpArgs false
open Go.RowKit

set_option maxHeartbeats 1600000 in
theorem GrowNil_any (n : Nat) (w : World) (hn : n ≤ 70368744177664) :
    Calls Tryz.prog 93 #[.slice none 0 0, .int .i64 (n : Int)] w fun e w' => ∃ A c, e = .returned (.slice A 0 c) ∧ Own w' w.heap.size 5 (.slice A 0 c) [] ∧ Below w.heap.size w w' := by
  by_cases h0 : n = 0
  · subst h0
    go_enter Tryz.func93, Tryz.ntmps93
    go_wp2
    go_ret
    exact ⟨none, 0, rfl, Own.nil _ _ _, Below.refl _ _⟩
  · have hG1 := grownCap_ge w n 0 5
    have hG2 := grownCap_le_maxLen w n 0 5 (by unfold maxLen; omega)
    have hsz : (Builtin.zeroCells #[Value.int .u8 0] n ++ Builtin.zeroCells #[Value.int .u8 0] (grownCap w n 0 5 - n)).size = grownCap w n 0 5 * 1 := by
      rw [Array.size_append, size_zeroCells, size_zeroCells]
      have e : (#[Value.int .u8 0]).size = 1 := rfl
      rw [e]; omega
    have HG := Lib.hid hG2; have HS := Lib.hid hsz
    clear hG1 hG2 hsz
    have hp : (0 : Int) < (n : Int) := by omega
    have eb : Tryz.t5.bytes = 1 := rfl
    have g1 : ¬ 281474976710656 < (n : Int) * (Tryz.t5.bytes : Int) := by rw [eb]; omega
    have g2 : ¬ 281474976710656 < Builtin.nextslicecap n 0 * Tryz.t5.bytes := by rw [eb, nextslicecap_zero (by omega)]; omega
    clear eb
    go_enter Tryz.func93, Tryz.ntmps93
    go_wp2
    go_ret
    exact ⟨_, grownCap w n 0 5, rfl, ⟨rfl, .inr ⟨w.heap.size, grownCap w n 0 5, _, rfl, Nat.le_refl _, heap_alloc_new w _, Nat.zero_le _, HG.out, HS.out, rfl⟩⟩, ((Below.refl _ _).alloc (Nat.le_refl _) _).drew⟩
end Go.Proofs.YtnaangnmlbgmkaaGreatDoor

/-
  prefix's Holds and Covers.
-/
namespace Go.Proofs.YtnaangnmlbgmkaaGreatDoor
set_option linter.unusedVariables false
set_option linter.unusedSimpArgs false
open Go.RowKit

/-- Is a number within a prefix? -/
def holdsB (a n : Int) (x : Nat) : Bool := okPx a n && (((hi x n.toNat : Nat) : Int) == a)

theorem okP_range {a n : Int} (h : okPx a n = true) : 0 ≤ n ∧ n ≤ 32 := by
  unfold okPx at h
  simp only [decide_eq_true_eq] at h
  exact ⟨h.1, h.2.1⟩

/-- A prefix in a block of its own, and what stays of it. -/
theorem box_cells (w : World) (u v : Value) {w' : World} (hb : Below (w.alloc (.cells #[u, v] 54)).heap.size (w.alloc (.cells #[u, v] 54)) w') :
    w'.cell? ⟨w.heap.size, 0, none⟩ = some u ∧ w'.cell? ⟨w.heap.size, 1, none⟩ = some v := by
  have hk := Blk.new w 54 [u, v]
  have hk' := hk.below hb (by simp)
  exact ⟨hk'.cell 0, hk'.cell 1⟩
theorem below_boxP {w w' : World} {o : Obj} (hb : Below (w.alloc o).heap.size (w.alloc o) w') : Below w.heap.size w w' :=
  ((Below.refl _ _).alloc (Nat.le_refl _) o).trans (hb.mono (by simp))

/-- An operation that its guard passes over is taken first. -/
theorem skipH {P : Program} {md : Region.Mode} {ops : Array Oper} {Q : Exit → Act → World → Prop} {S : World → Prop} {i : Nat} {oi : Oper} {fuel : Nat} {listed : Array Bool} {a : Act} {w : World} (hi : ops[i]? = some oi)
    (hs : Region.noSelect ops = true) (hf : Region.free md ops listed i = true) (hr : (Region.ready md ops listed).contains i = true)
    (hQ : ∀ c a w, Q (.panic c) (a.put oi.dst undef) w → Q (.panic c) a w) (hw : Region.wanted oi (yielded ops a.tmps) = false) (hS : S w)
    (h : wpAnyH P md ops Q S fuel (listed.setIfInBounds i true) (a.put oi.dst undef) w) : wpAnyH P md ops Q S (fuel + 1) listed a w :=
  wpAnyH_take hi hs hf hr hQ (Or.inr ⟨hw, rfl⟩) hS h

end Go.Proofs.YtnaangnmlbgmkaaGreatDoor

/-
  The program's Bit; the document's Mask.
-/
namespace Go.Proofs.YtnaangnmlbgmkaaGreatDoor
set_option linter.unusedVariables false
set_option linter.unusedSimpArgs false
open Go.RowKit

theorem bit_shr (a k : Nat) (h : a / 2 ^ (31 - k) < 4294967296) : wrap64 (bits .and .u32 ((a : Int) / 2 ^ (31 - k)) 1) = ((a / 2 ^ (31 - k) % 2 : Nat) : Int) := by
  have e : ((a : Int) / 2 ^ (31 - k)) = ((a / 2 ^ (31 - k) : Nat) : Int) := by simp
  rw [e]
  have h2 := u32_and_nat (a / 2 ^ (31 - k)) 1 h (by decide)
  have e3 : (((1 : Nat) : Int)) = 1 := rfl
  rw [e3] at h2
  rw [h2, Nat.and_one_is_mod]
  exact IntWalk.wrap64_in _ ⟨by omega, by omega⟩

end Go.Proofs.YtnaangnmlbgmkaaGreatDoor

/-
  slices.Concat of however many slices of bytes.
-/
namespace Go.Proofs.YtnaangnmlbgmkaaGreatDoor
set_option linter.unusedVariables false
set_option linter.unusedSimpArgs false
open Go.RowKit

/-- A slice of bytes: its address, its capacity, its bytes. -/
abbrev Sl := Option Addr × Nat × List UInt8
def joinB (L : List Sl) : List UInt8 := (L.map (·.2.2)).flatten
theorem joinB_step {L : List Sl} {j : Nat} {x : Sl} (h : L[j]? = some x) : joinB (L.take (j + 1)) = joinB (L.take j) ++ x.2.2 := by
  have hj := (List.getElem?_eq_some_iff.1 h).1
  have e : L[j] = x := (List.getElem?_eq_some_iff.1 h).2
  unfold joinB
  rw [List.take_succ_eq_append_getElem hj, e]
  simp
theorem joinB_le {L : List Sl} {j : Nat} : (joinB (L.take j)).length ≤ (joinB L).length := by
  have h : joinB L = joinB (L.take j) ++ joinB (L.drop j) := by
    unfold joinB
    rw [← List.flatten_append, ← List.map_append, List.take_append_drop]
  rw [h, List.length_append]; omega
/-- The slices lie in a block, one behind the other, and their bytes where they say. -/
def Sls (w : World) (k : Nat) (L : List Sl) : Prop :=
  k < w.heap.size ∧ (∀ (j : Nat) (x : Sl), L[j]? = some x → w.cell? ⟨k, j, none⟩ = some (.slice x.1 x.2.2.length x.2.1)) ∧ ∀ x ∈ L, Bytes w x.1 x.2.2
theorem Sls.below {w w' : World} {k : Nat} {L : List Sl} (h : Sls w k L) (hb : Below w.heap.size w w') : Sls w' k L :=
  ⟨Nat.lt_of_lt_of_le h.1 hb.size, fun j x hx => (hb.cell (p := ⟨k, j, none⟩) h.1).trans (h.2.1 j x hx), fun x hx => (h.2.2 x hx).below hb⟩
theorem sls_of_blk {w : World} {k t : Nat} {L : List Sl} (hk : Blk w k t (L.map fun x => Value.slice x.1 x.2.2.length x.2.1)) (hb : ∀ x ∈ L, Bytes w x.1 x.2.2) : Sls w k L :=
  ⟨hk.lt, fun j x hx => by rw [hk.cell]; simp [hx], hb⟩
def ConcatRel (w : World) (L : List Sl) (v i : Value) (wr : World) : Prop := Below w.heap.size w wr ∧ ∃ j : Nat, j ≤ L.length ∧ i = .int .i64 (j : Int) ∧ Own wr w.heap.size 5 v (joinB (L.take j))

set_option maxHeartbeats 3200000 in
theorem ConcatN_any (k n c : Nat) (L : List Sl) (w : World) (hn : n = L.length) (h : Sls w k L) (hT : (joinB L).length ≤ 70368744177664) (hnm : L.length ≤ 1000000) :
    Calls Tryz.prog 47 #[.slice (some ⟨k, 0, none⟩) n c] w (RetBytes w (joinB L)) := by
  subst hn
  have H := Lib.hid h; clear h
  have HTT := Lib.hid hT
  have q61 := Lib.hid (GrowNil_any (joinB L).length w hT)
  clear hT
  go_enter Tryz.func47, Tryz.ntmps47
  go_wp2_with fail
  go_loop [3, 5, 11] (fun s _ i => ∃ j : Nat, j ≤ L.length ∧ i = .int .i64 (j : Int) ∧ s = .int .i64 (((joinB (L.take j)).length : Nat) : Int)) (fun _ _ i => L.length - (intOf i).toNat)
  case atStart => exact ⟨0, by omega, rfl, rfl⟩
  case round =>
    obtain ⟨j, hj, rfl, rfl⟩ := hrel
    by_cases hlt : j < L.length
    · obtain ⟨x, hx⟩ : ∃ x, L[j]? = some x := ⟨_, List.getElem?_eq_getElem hlt⟩
      have hc := H.out.2.1 j x hx
      have HS := Lib.hid (joinB_step hx)
      have hle : (joinB (L.take j)).length + x.2.2.length ≤ 70368744177664 := by
        have h1 := joinB_le (L := L) (j := j + 1)
        have h2 := HTT.out
        rw [HS.out, List.length_append] at h1
        omega
      obtain ⟨A, ca, l⟩ := x
      obtain ⟨T, hTt⟩ : ∃ T, T = (joinB (L.take j)).length := ⟨_, rfl⟩
      rw [← hTt] at hle
      simp only [← hTt]
      have HTt := Lib.hid hTt
      clear hTt hx
      dsimp only at hc hle
      go_wp2_with fail
      go_round
      case rel => exact ⟨j + 1, by omega, by go_num, by rw [HS.out, List.length_append, ← HTt.out]; go_num⟩
      case measure => simp [intOf]; omega
    · obtain rfl : j = L.length := by omega
      simp only [List.take_length]
      go_wp2_with fail
      refine q61.out.mono ?_
      rintro e w1 ⟨A, c1, rfl, hown, hb1⟩
      have HO := Lib.hid hown; clear hown
      go_wp2_with fail
      go_loopw [6, 8, 27] (fun v _ i wr => ConcatRel w L v i wr) (fun _ _ i _ => L.length - (intOf i).toNat)
      case atStart => exact ⟨hb1, 0, by omega, rfl, HO.out⟩
      case round =>
        clear hb1 HO q61
        obtain ⟨hbr, j, hj, rfl, hown⟩ := hrel
        have HO := Lib.hid hown; clear hown
        by_cases hlt : j < L.length
        · obtain ⟨x, hx⟩ : ∃ x, L[j]? = some x := ⟨_, List.getElem?_eq_getElem hlt⟩
          have hc := (H.out.below hbr).2.1 j x hx
          have HY := Lib.hid ((H.out.below hbr).2.2 x (List.mem_of_getElem? hx))
          have HS := Lib.hid (joinB_step hx)
          have hle : (joinB (L.take j)).length + x.2.2.length ≤ 140737488355328 := by
            have h1 := joinB_le (L := L) (j := j + 1)
            have h2 := HTT.out
            rw [HS.out, List.length_append] at h1
            omega
          obtain ⟨A', ca, l⟩ := x
          have HLn := Lib.hid hle
          clear hle hx
          dsimp only at hc
          go_wp2_with (at_builtin; refine wpList_append_bytes isBytes rfl (.tmp 31) (.tmp 32) rfl w _ _ rfl HO.out A' l _ ca rfl rfl HY.out HLn.out hbr ?_)
          intro v' w' hown' _ hb'
          have H' := Lib.hid hown'; clear hown' hbr HO HY
          go_wp2
          go_roundw
          case rel => exact ⟨hb', j + 1, by omega, by go_num, by rw [HS.out]; exact H'.out⟩
          case measure => simp [intOf]; omega
        · obtain rfl : j = L.length := by omega
          have h9 := HO.out
          rw [List.take_length] at h9
          obtain ⟨A', c', rfl, hc1, hc2⟩ := h9.form
          have HO9 := Lib.hid h9
          clear h9 HO
          go_wp2
          go_ret
          exact ret_own rfl hc1 hc2 HO9.out hbr rfl
end Go.Proofs.YtnaangnmlbgmkaaGreatDoor

/-
  A path's bytes, by the document.
-/
namespace Go.Proofs.YtnaangnmlbgmkaaGreatDoor
set_option linter.unusedVariables false
set_option linter.unusedSimpArgs false
open Go.RowKit

/-- What one number adds, whatever bytes stand ahead of it. -/
theorem refNum_own {w wr w' : World} {A : Option Addr} {c : Nat} {l m : List UInt8} (hb : Below w.heap.size w wr) (ho : Own w' wr.heap.size 5 (.slice A (l ++ m).length c) (l ++ m)) (hb' : Below wr.heap.size wr w') :
    Own w' w.heap.size 5 (.slice A (l ++ m).length c) (l ++ m) ∧ Below w.heap.size w w' := ⟨ho.lower hb.size, hb.trans (hb'.mono hb.size)⟩

set_option maxHeartbeats 6400000 in
theorem RefPut3_any (A : Option Addr) (c : Nat) (L : List Sg) (wide : Bool) (w : World) (h : Segs w w.heap.size A L) (hl : L.length ≤ 12) (ht : totN L ≤ 35184372087808) :
    Calls Tryz.prog 51 #[.slice A L.length c, .bool wide] w (RetBytes w (putB wide L)) := by
  have HS := Lib.hid h; clear h
  go_enter Tryz.func51, Tryz.ntmps51
  go_wp2_with fail
  go_loopw [5, 6] (fun v i wr => PutRelA w wide L v i wr) (fun _ i _ => L.length - (intOf i).toNat)
  case atStart => exact ⟨Below.refl _ _, 0, Nat.zero_le _, rfl, Own.nil _ _ _⟩
  case round =>
    obtain ⟨hbr, j, hj, rfl, hown⟩ := hrel
    by_cases hlt : j < L.length
    · obtain ⟨s, hs⟩ : ∃ s, L[j]? = some s := ⟨_, List.getElem?_eq_getElem hlt⟩
      have hs2 := HS.out.at hs
      have hs1 := (HS.out.below hbr (Nat.le_refl _)).at hs
      obtain ⟨b, off, rfl, hb, k1, k2, hok⟩ := hs1
      have h1 := putB_len wide (L.take j)
      have h2 : totN (L.take (j + 1)) = totN (L.take j) + s.nums.length := sum_take (f := fun s => s.nums.length) hs
      have h3 : totN (L.take (j + 1)) ≤ totN L := sum_take_le (fun s => s.nums.length) L (j + 1)
      have h4 : (L.take j).length ≤ j := by simp; omega
      have HLEN := Lib.hid (show (putB wide (L.take j)).length + 2 + 4 * s.nums.length ≤ 140737488355296 by omega)
      have hsn : s.nums.length ≤ 35184372087808 := by omega
      have hpl : (putB wide (L.take j)).length + 1 < 140737488355328 := by omega
      clear h1 h2 h3 h4
      have HST := Lib.hid (putB_step (wide := wide) hs)
      have HOW := Lib.hid hown
      have HFIT := Lib.hid hok.2.2.2.1
      have HSS := Lib.hid hs
      have HBR := Lib.hid hbr
      have HJ := Lib.hid hlt
      clear hok hown hs hbr hs2
      go_wp2_with (at_builtin; go_loud (refine wpList_append_byte isBytes rfl (.tmp 15) (.tmp 22) rfl w _ _ rfl wr _ rfl HOW.out rfl ?_ ?_ ?_ HBR.out ?_))
      · omega
      · omega
      · omega
      intro v1 w1 hown1 hg1 hb1
      obtain ⟨b', off', hAe, hb', k3, k4, _⟩ := (HS.out.below hb1 (Nat.le_refl _)).at HSS.out
      cases hAe
      have HO1 := Lib.hid hown1; have HB1 := Lib.hid hb1
      clear hown1 hg1 hb1 k1 k2
      go_wp2_with (at_builtin; go_loud (refine wpList_append_byte isBytes rfl (.tmp 24) (.tmp 32) rfl w _ _ rfl w1 _ rfl HO1.out rfl ?_ ?_ ?_ HB1.out ?_))
      · omega
      · omega
      · rw [List.length_append, List.length_singleton]; omega
      intro v2 w2 hown2 hg2 hb2
      have HO2 := Lib.hid (show Own w2 w.heap.size 5 v2 (putB wide (L.take j) ++ headB s) from by first | exact hown2 | (rw [List.append_assoc] at hown2; exact hown2))
      have HB2 := Lib.hid hb2
      clear hown2 hg2 hb2 k3 k4
      go_wp2_with fail
      go_loopw [5, 7] (fun v i wr => PutRelB w wide (putB wide (L.take j) ++ headB s) s.nums v i wr) (fun _ i _ => s.nums.length - (intOf i).toNat)
      case atStart => exact ⟨HB2.out, 0, Nat.zero_le _, rfl, by simpa [numsB] using HO2.out⟩
      case round =>
        obtain ⟨hbr, k, hk, rfl, hown⟩ := hrel
        obtain ⟨b3, off3, hAe, hb3, k1, k2, hok⟩ := (HS.out.below hbr (Nat.le_refl _)).at HSS.out
        cases hAe
        by_cases hlt2 : k < s.nums.length
        · obtain ⟨b2, off2, hA2, hb2, k3⟩ := hok.2.2.1.cell hlt2
          have hx : s.nums.getD k 0 < 4294967296 := HFIT.out _ (by rw [show s.nums.getD k 0 = s.nums[k] by simp [List.getD, hlt2]]; exact List.getElem_mem hlt2)
          have HNS := Lib.hid (numsB_step (wide := wide) hlt2)
          have hnl := numsB_len wide (s.nums.take k)
          have htk : (s.nums.take k).length ≤ k := by simp; omega
          obtain ⟨x, hxe⟩ : ∃ x, x = s.nums.getD k 0 := ⟨_, rfl⟩
          rw [← hxe] at hx k3 HNS
          obtain ⟨A1, c1, rfl, f1, f2⟩ := hown.form
          have hll : (putB wide (L.take j) ++ headB s ++ numsB wide (s.nums.take k)).length ≤ 140737488355296 := by
            have h1 := HLEN.out
            simp only [List.length_append, headB, List.length_cons, List.length_nil] at *
            omega
          obtain ⟨l, hl9⟩ : ∃ l, l = putB wide (L.take j) ++ headB s ++ numsB wide (s.nums.take k) := ⟨_, rfl⟩
          have HE := Lib.hid (show putB wide (L.take j) ++ headB s ++ numsB wide (s.nums.take (k + 1)) = l ++ numB wide x by rw [HNS.out, hl9]; simp only [List.append_assoc])
          rw [← hl9] at hown hll ⊢
          have HBY := Lib.hid hown.bytes
          have HBR3 := Lib.hid hbr; have HK := Lib.hid hlt2
          rw [hA2] at k2
          have fin : ∀ (A' : Option Addr) (c' : Nat) (w' : World), Own w' wr.heap.size 5 (.slice A' (l ++ numB wide x).length c') (l ++ numB wide x) → Below wr.heap.size wr w' → Own w' w.heap.size 5 (.slice A' (l ++ numB wide x).length c') (putB wide (L.take j) ++ headB s ++ numsB wide (s.nums.take (k + 1))) ∧ Below w.heap.size w w' := by
            intro A' c' w' h1 h2
            rw [HE.out]
            exact refNum_own HBR3.out h1 h2
          have FIN := Lib.hid fin
          clear hown hok hbr hxe hl9 hnl htk f1 f2 hA2 HNS fin
          cases wide with
          | true =>
            have e : numB true x = be32 (x : Int) := by unfold numB; rw [if_pos rfl]
            have Q := Lib.hid (refPut32_any A1 l.length c1 l rfl (x : Int) wr hll HBY.out (by omega) (by omega))
            rw [← e] at Q
            clear e
            go_wp2_with fail
            refine Q.out.mono ?_
            rintro e w3 ⟨A3, c3, rfl, f1, f2, ho3, hb3'⟩
            have HF := Lib.hid (FIN.out A3 c3 w3 ho3 hb3')
            clear ho3 hb3' f1 f2
            go_wp2_with fail
            go_roundw
            case rel => exact ⟨HF.out.2, k + 1, HK.out, by go_num, by have h9 := HF.out.1; rw [List.length_append] at h9; exact h9⟩
            case measure => have := HK.out; simp [intOf]; omega
          | false =>
            by_cases hbig : 65535 < x
            · have hbI : (65535 : Int) < (x : Int) := by omega
              have e : numB false x = be16 23456 := by unfold numB; rw [if_neg (by decide), if_pos hbig]
              have Q := Lib.hid (refPut16_any A1 l.length c1 l rfl 23456 wr (by omega) HBY.out (by omega) (by omega))
              rw [← e] at Q
              clear e hbig
              go_wp2_with fail
              refine Q.out.mono ?_
              rintro e w3 ⟨A3, c3, rfl, f1, f2, ho3, hb3'⟩
              have HF := Lib.hid (FIN.out A3 c3 w3 ho3 hb3')
              clear ho3 hb3' f1 f2
              go_wp2_with fail
              go_roundw
              case rel => exact ⟨HF.out.2, k + 1, HK.out, by go_num, by have h9 := HF.out.1; rw [List.length_append] at h9; exact h9⟩
              case measure => have := HK.out; simp [intOf]; omega
            · have hbI : ¬ (65535 : Int) < (x : Int) := by omega
              have e : numB false x = be16 (x : Int) := by unfold numB; rw [if_neg (by decide), if_neg hbig]
              have Q := Lib.hid (refPut16_any A1 l.length c1 l rfl (x : Int) wr (by omega) HBY.out (by omega) (by omega))
              rw [← e] at Q
              clear e hbig
              go_wp2_with fail
              refine Q.out.mono ?_
              rintro e w3 ⟨A3, c3, rfl, f1, f2, ho3, hb3'⟩
              have HF := Lib.hid (FIN.out A3 c3 w3 ho3 hb3')
              clear ho3 hb3' f1 f2
              go_wp2_with fail
              go_roundw
              case rel => exact ⟨HF.out.2, k + 1, HK.out, by go_num, by have h9 := HF.out.1; rw [List.length_append] at h9; exact h9⟩
              case measure => have := HK.out; simp [intOf]; omega
        · obtain rfl : k = s.nums.length := by omega
          rw [List.take_length] at hown
          have HO9 := Lib.hid hown; have HB9 := Lib.hid hbr
          clear hown hbr hok
          go_wp2_with fail
          go_roundw
          case rel => exact ⟨HB9.out, j + 1, HJ.out, by go_num, by rw [HST.out]; exact HO9.out⟩
          case measure => have := HJ.out; simp [intOf]; omega
    · obtain rfl : j = L.length := by omega
      rw [List.take_length] at hown
      obtain ⟨A1, c1, rfl, f1, f2⟩ := hown.form
      have HO9 := Lib.hid hown; have HB9 := Lib.hid hbr
      clear hown hbr
      go_wp2_with fail
      go_ret
      exact ⟨_, _, rfl, f1, f2, HO9.out, HB9.out⟩
end Go.Proofs.YtnaangnmlbgmkaaGreatDoor

/-
  All numbers of a path, and whether one is there: by the document.
-/
namespace Go.Proofs.YtnaangnmlbgmkaaGreatDoor
set_option linter.unusedVariables false
set_option linter.unusedSimpArgs false
open Go.RowKit

theorem take32_step {z : List Nat} {k : Nat} (h : k < z.length) : z.take (k + 1) = z.take k ++ [z.getD k 0] := by
  have e : z.getD k 0 = z[k] := by simp [List.getD, h]
  rw [List.take_succ_eq_append_getElem h, e]
def FlatRelB (w : World) (y z : List Nat) (v i : Value) (wr : World) : Prop :=
  Below w.heap.size w wr ∧ ∃ j : Nat, j ≤ z.length ∧ i = .int .i64 (j : Int) ∧ Own32 wr w.heap.size v (y ++ z.take j)

set_option maxHeartbeats 3200000 in
theorem RefFlat_any (A : Option Addr) (c : Nat) (L : List Sg) (w : World) (h : Segs w w.heap.size A L) (hl : L.length ≤ 1000000000) (ht : totN L ≤ 35184372088832) :
    Calls Tryz.prog 53 #[.slice A L.length c] w (Ret32 w (flatN L)) := by
  have HS := Lib.hid h; clear h
  go_enter Tryz.func53, Tryz.ntmps53
  go_wp2_with fail
  go_loopw [3, 4] (fun v i wr => FlatRel w L v i wr) (fun _ i _ => L.length - (intOf i).toNat)
  case atStart => exact ⟨Below.refl _ _, 0, Nat.zero_le _, rfl, Own32.nil _ _⟩
  case round =>
    obtain ⟨hbr, j, hj, rfl, hown⟩ := hrel
    by_cases hlt : j < L.length
    · obtain ⟨s, hs⟩ : ∃ s, L[j]? = some s := ⟨_, List.getElem?_eq_getElem hlt⟩
      have HST := Lib.hid (flatN_step hs)
      have HSZ := Lib.hid (show (flatN (L.take j)).length + s.nums.length ≤ 35184372088832 by
        have h1 : totN (L.take (j + 1)) = totN (L.take j) + s.nums.length := sum_take (f := fun s => s.nums.length) hs
        have h2 : totN (L.take (j + 1)) ≤ totN L := sum_take_le (fun s => s.nums.length) L (j + 1)
        rw [flatN_len]; omega)
      have hsn : s.nums.length ≤ 35184372088832 := by have := HSZ.out; omega
      have HSS := Lib.hid hs
      have HOW := Lib.hid hown; have HBR := Lib.hid hbr; have HJ := Lib.hid hlt
      clear hs hown hbr
      go_wp2_with fail
      go_loopw [3, 5] (fun v i wr => FlatRelB w (flatN (L.take j)) s.nums v i wr) (fun _ i _ => s.nums.length - (intOf i).toNat)
      case atStart => exact ⟨HBR.out, 0, Nat.zero_le _, rfl, by simpa using HOW.out⟩
      case round =>
        clear HOW HBR
        obtain ⟨hbr, k, hk, rfl, hown⟩ := hrel
        obtain ⟨b, off, rfl, hb, k1, k2, hok⟩ := (HS.out.below hbr (Nat.le_refl _)).at HSS.out
        have HBR := Lib.hid hbr
        by_cases hlt2 : k < s.nums.length
        · obtain ⟨b2, off2, hA2, hb2, k3⟩ := hok.2.2.1.cell hlt2
          have HTK := Lib.hid (take32_step hlt2)
          obtain ⟨x, hxe⟩ : ∃ x, x = s.nums.getD k 0 := ⟨_, rfl⟩
          rw [← hxe] at k3 HTK
          rw [hA2] at k2
          have HOW := Lib.hid hown; have HK := Lib.hid hlt2
          have HLN := Lib.hid (show ((flatN (L.take j) ++ s.nums.take k).length + 1) * 4 ≤ 140737488355328 by
            have h1 := HSZ.out
            rw [List.length_append, List.length_take]
            omega)
          clear hxe hok hown hbr hA2
          go_wp2_with (at_builtin; go_loud (refine wpList_app_one isU32 rfl (.tmp 22) (.tmp 31) rfl w _ _ (cells32 _) rfl wr [.int .u32 (x : Int)] rfl HOW.out rfl rfl (by simp [Value.oneCell']) HLN.out HBR.out ?_))
          intro v1 w1 hown1 hg1 hb1
          have O1 := Lib.hid (show Own32 w1 w.heap.size v1 (flatN (L.take j) ++ s.nums.take (k + 1)) from by
            rw [HTK.out, ← List.append_assoc]
            have e : ((flatN (L.take j) ++ s.nums.take k) ++ [x]).length = (flatN (L.take j)).length + k + 1 := by
              have := HK.out
              simp only [List.length_append, List.length_take, List.length_cons, List.length_nil]
              omega
            unfold Own32 cells32 at *
            rw [List.map_append, e]
            exact hown1)
          have HB1 := Lib.hid hb1
          clear hown1 hg1 hb1
          go_wp2_with fail
          go_roundw
          case rel => exact ⟨HB1.out, k + 1, HK.out, by go_num, O1.out⟩
          case measure => have := HK.out; simp [intOf]; omega
        · obtain rfl : k = s.nums.length := by omega
          rw [List.take_length] at hown
          have HOW := Lib.hid hown
          clear hown hbr hok
          go_wp2_with fail
          go_roundw
          case rel => exact ⟨HBR.out, j + 1, HJ.out, by go_num, by rw [HST.out]; exact HOW.out⟩
          case measure => have := HJ.out; simp [intOf]; omega
    · obtain rfl : j = L.length := by omega
      rw [List.take_length] at hown
      obtain ⟨A1, c1, rfl, f1, f2⟩ := hown.form
      have HAT := Lib.hid hown; have HBR := Lib.hid hbr
      clear hown hbr
      go_wp2_with fail
      go_ret
      exact ⟨_, _, rfl, f1, f2, HAT.out, HBR.out⟩

theorem hasB_flat (L : List Sg) (v : Nat) : inB (flatN L) v = hasB L v := by
  unfold inB flatN hasB inB
  rw [List.any_flatMap]

end Go.Proofs.YtnaangnmlbgmkaaGreatDoor

/-
  The number that a reader of a path is at.
-/
namespace Go.Proofs.YtnaangnmlbgmkaaGreatDoor
set_option linter.unusedVariables false
set_option linter.unusedSimpArgs false
open Go.RowKit

def nextN (wide : Bool) : Int := if wide = true then 4 else 2
theorem next3_any (B g : Nat) (l : List UInt8) (s wide : Bool) (w : World) (h : Rd w B g l s) :
    Calls Tryz.prog 138 #[.pointer (some ⟨g, 0, none⟩), .bool wide] w (NumPost .u32 w B g (rdTake l s (nextN wide)).1 (rdTake l s (nextN wide)).2.1 (rdTake l s (nextN wide)).2.2) := by
  cases wide with
  | true =>
    have e : nextN true = 4 := rfl
    rw [e]
    have Q := Lib.hid (U32_any B g l s w h)
    obtain ⟨X, hX⟩ : ∃ X, X = rdTake l s 4 := ⟨_, rfl⟩
    rw [← hX] at Q ⊢
    clear h hX e
    go_enter Tryz.func138, Tryz.ntmps138
    go_wp2_with fail
    refine Q.out.mono ?_
    rintro e w1 ⟨rfl, h1, h2⟩
    have H1 := Lib.hid h1; have H2 := Lib.hid h2; clear h1 h2
    go_wp2_with fail
    go_ret
    exact ⟨rfl, H1.out, H2.out⟩
  | false =>
    have e : nextN false = 2 := rfl
    rw [e]
    have hr := rdTake_len l s 2
    have Q := Lib.hid (U16_any B g l s w h)
    obtain ⟨X, hX⟩ : ∃ X, X = rdTake l s 2 := ⟨_, rfl⟩
    rw [← hX] at Q hr ⊢
    have hn := num_lt4 (l := X.1) (by omega)
    obtain ⟨y, hy⟩ : ∃ y, y = num X.1 := ⟨_, rfl⟩
    have HY := Lib.hid hy
    rw [← hy] at hn
    have hnI : (y : Int) < 4294967296 := by omega
    have Q2 := Lib.hid (show Calls Tryz.prog 27 #[.pointer (some ⟨g, 0, none⟩)] w (fun e w' => e = .returned (.int .i64 (y : Int)) ∧ Rd w' B g X.2.1 X.2.2 ∧ w.grownBy w' (some g)) from Q.out.mono (fun e w' ⟨h1, h2, h3⟩ => ⟨by rw [HY.out]; exact h1, h2, h3⟩))
    clear h hX e hr hn hy Q
    go_enter Tryz.func138, Tryz.ntmps138
    go_wp2_with fail
    refine Q2.out.mono ?_
    rintro e w1 ⟨rfl, h1, h2⟩
    have H1 := Lib.hid h1; have H2 := Lib.hid h2; clear h1 h2
    go_wp2_with fail
    go_ret
    exact ⟨by rw [← HY.out]; rfl, H1.out, H2.out⟩
end Go.Proofs.YtnaangnmlbgmkaaGreatDoor

/-
  A path whose sequences that follow one another are one (written by gen03n.py).
-/
namespace Go.Proofs.YtnaangnmlbgmkaaGreatDoor
set_option linter.unusedVariables false
set_option linter.unusedSimpArgs false
open Go.RowKit

/-- A part more of a path whose sequences are one. -/
def normStep (acc : List (Int × List Nat)) (s : Int × List Nat) : List (Int × List Nat) := match acc.getLast? with
  | none => acc ++ [s]
  | some (k, z) => if k = 2 ∧ s.1 = 2 then acc.dropLast ++ [(2, z ++ s.2)] else acc ++ [s]
/-- A path whose sequences that follow one another are one. -/
def normL (L : List (Int × List Nat)) : List (Int × List Nat) := L.foldl normStep []
theorem normL_snoc (L : List (Int × List Nat)) (s : Int × List Nat) : normL (L ++ [s]) = normStep (normL L) s := by simp [normL]
theorem normL_take {L : List Sg} {j : Nat} {s : Sg} (h : L[j]? = some s) : normL ((L.take (j + 1)).map Sg.abs) = normStep (normL ((L.take j).map Sg.abs)) s.abs := by
  have hj := (List.getElem?_eq_some_iff.1 h).1
  have e : L[j] = s := (List.getElem?_eq_some_iff.1 h).2
  rw [List.take_succ_eq_append_getElem hj, List.map_append, ← normL_snoc, e]
  rfl
theorem step_nil (s : Int × List Nat) : normStep [] s = [s] := rfl
theorem step_push (acc : List (Int × List Nat)) (t s : Int × List Nat) (h : ¬ (t.1 = 2 ∧ s.1 = 2)) : normStep (acc ++ [t]) s = (acc ++ [t]) ++ [s] := by
  simp [normStep, h]
theorem step_more (acc : List (Int × List Nat)) (t s : Int × List Nat) (h1 : t.1 = 2) (h2 : s.1 = 2) : normStep (acc ++ [t]) s = acc ++ [(2, t.2 ++ s.2)] := by
  simp [normStep, h1, h2]

/-- 'x.f = append(x.f, y.f...)' over numbers: the append as one step of a region that draws its order. -/
theorem step_app32 {ops : Array Oper} {o : Oper} {a : Act} {w : World} {K : Act → World → Prop} {Q : Exit → Act → World → Prop} {E : Prop} (hgd : o.guard = none) (s x : Operand) (ho : o.op = .call { callee := .builtin .append, args := #[s, x], argTypes := #[25, 25] })
    (base : Nat) (v : Value) (z : List Nat) (hs : a.eval s = v) (hown : Own32 w base v z) (A : Option Addr) (m c B : Nat) (zs : List Nat) (hx : a.eval x = .slice A m c) (hm : m = zs.length) (hA : At32 w B A zs)
    (hsz : z.length + zs.length ≤ 100000000000) (hb : base ≤ w.heap.size)
    (h : ∀ v' w', Own32 w' base v' (z ++ zs) → w.grownBy w' v.ownBlock → K (a.put o.dst v') w') : if Region.wanted o (yielded ops a.tmps) = true then Oper.wp Tryz.prog o a w K Q else E := by
  have hw : Region.wanted o (yielded ops a.tmps) = true := by simp [Region.wanted, hgd]
  rw [if_pos hw]
  subst hm
  obtain ⟨i, hi, hz0, hz1, hz2⟩ := info_parts isU32.info
  by_cases hm0 : zs.length = 0
  · obtain rfl : zs = [] := List.eq_nil_of_length_eq_zero hm0
    cases A with
    | none =>
      have hrun : (Builtin.append_ #[25, 25] o.type #[v, .slice none 0 c]).run Tryz.prog w = .ok v w := by
        rcases hown.2 with ⟨rfl, _⟩ | ⟨g, cap, cur, rfl, _, _, hnc, _⟩
        · simp [Builtin.append_, run_underlying isU32.ht, sizeOf, typeInfo, hi, Builtin.lenOf, Builtin.firstCells]
        · simp [Builtin.append_, run_underlying isU32.ht, sizeOf, typeInfo, hi, Builtin.lenOf, Builtin.firstCells, hnc, storeCells]
      unfold Oper.wp
      have hx' : a.eval x = .slice none 0 c := hx
      simp [execOp, ho, resolve, invoke, builtin, hs, hx', hrun, Result.andThen]
      exact h v w (by simpa using hown) (World.grownBy.refl _ _)
    | some ad =>
      refine wp_append_own w s x _ ho base _ i _ 1 4 isU32.ht hi hz0 hz1 hz2 isU32.hzs isU32.pos v z.length _ hs hown ad 0 c [] hx (by simp) (by simp) (by simp) (by unfold maxLen; simp at hsz; omega) (by simp at hsz; omega) hb ?_
      intro v' w' ho' hg _
      exact h v' w' (by simpa [Own32] using ho') hg
  · obtain ⟨ad, rfl, hc⟩ := hA.news hm0
    refine wp_append_own w s x _ ho base _ i _ 1 4 isU32.ht hi hz0 hz1 hz2 isU32.hzs isU32.pos v z.length _ hs hown ad zs.length c (cells32 zs) hx (by simp [cells32]) hc (cells32_one zs) (by unfold maxLen; omega) (by omega) hb ?_
    intro v' w' ho' hg _
    refine h v' w' ?_ hg
    unfold Own32
    rw [List.length_append]
    simpa [cells32] using ho'
theorem OwnSegs.form1 {w : World} {B H : Nat} {v : Value} {M : List Sg} {t : Sg} (h : OwnSegs w B H v (M ++ [t])) : ∃ g c, v = .slice (some ⟨g, 0, none⟩) (M.length + 1) c ∧ M.length + 1 ≤ c ∧ c ≤ maxLen ∧ B ≤ g ∧ g < w.heap.size ∧
    w.cell? ⟨g, M.length * 2, none⟩ = some (.int .i64 t.kind) ∧ w.cell? ⟨g, M.length * 2 + 1, none⟩ = some t.sl ∧ (∀ j, w.frozen? ⟨g, j, none⟩ = false) := by
  rcases h.row.2 with ⟨hv, hn⟩ | ⟨g, cap, cur, rfl, hbg, hg, hnc, hcm, hcs, htake⟩
  · simp at hn
  · have hc := World.ownsRow.cells h.row (g := g) rfl
    have f := flat_at (M ++ [t]) M.length t (by simp)
    have c1 := hc _ _ f.1
    have c2 := hc _ _ f.2
    rw [Addr.add_lit] at c1 c2
    simp only [Nat.zero_add] at c1 c2
    refine ⟨g, cap, by simp, by simpa using hnc, hcm, hbg, (Array.getElem?_eq_some_iff.1 hg).1, c1, c2, fun j => ?_⟩
    exact World.ownsRow.frozenAt h.row j
theorem totN_snoc (M : List Sg) (s : Sg) : totN (M ++ [s]) = totN M + s.nums.length := by simp [totN]
theorem Own32.raise {w : World} {B H : Nat} {v : Value} {z : List Nat} (h : Own32 w B v z) (hH : ∀ k, v.ownBlock = some k → H ≤ k) : Own32 w H v z := by
  refine ⟨h.1, ?_⟩
  rcases h.2 with h2 | ⟨g, cap, cur, hv, hbg, r⟩
  · exact .inl h2
  · exact .inr ⟨g, cap, cur, hv, hH g (by rw [hv]; rfl), r⟩
theorem OwnSegs.drew {w : World} {B H : Nat} {v : Value} {M : List Sg} (h : OwnSegs w B H v M) : OwnSegs w.drew B H v M := ⟨h.row.drew, fun s hs => World.ownsRow.drew (h.own s hs), h.low, h.last, h.fit⟩
theorem grown_keeps {w w' : World} {row : Option Nat} {g i : Nat} (hg : w.grownBy w' row) (hlt : g < w.heap.size) (hne : some g ≠ row) : w'.cell? ⟨g, i, none⟩ = w.cell? ⟨g, i, none⟩ ∧ w'.frozen? ⟨g, i, none⟩ = w.frozen? ⟨g, i, none⟩ :=
  ⟨World.cell?_of_block (hg.block g hlt hne), World.frozen?_of_block (hg.block g hlt hne)⟩
/-- What a call leaves that returns a path of its own. -/
def RetSegs (w : World) (r : List (Int × List Nat)) (e : Ending) (w' : World) : Prop :=
  ∃ (M : List Sg) (A : Option Addr) (c : Nat), e = .returned (.slice A M.length c) ∧ M.map Sg.abs = r ∧ M.length ≤ c ∧ c ≤ maxLen ∧ Segs w' w'.heap.size A M ∧ Below w.heap.size w w'
/-- What the loop holds. -/
def NormRel (w : World) (L : List Sg) (v i : Value) (wr : World) : Prop :=
  Below w.heap.size w wr ∧ ∃ (M : List Sg) (H j : Nat), j ≤ L.length ∧ i = .int .i64 (j : Int) ∧ OwnSegs wr w.heap.size H v M ∧ w.heap.size ≤ H ∧ H ≤ wr.heap.size ∧ M.length ≤ j ∧ totN M ≤ totN (L.take j) ∧ Hid (M.map Sg.abs = normL ((L.take j).map Sg.abs))

end Go.Proofs.YtnaangnmlbgmkaaGreatDoor

/-
  Paths by their kinds and numbers alone (what attrs' seat needs of lib3's Parse3).
-/
namespace Go.Proofs.YtnaangnmlbgmkaaGreatDoor
set_option linter.unusedVariables false
set_option linter.unusedSimpArgs false
open Go.RowKit

/-- May a path be, by its kinds and numbers alone? -/
def okA (s : Int × List Nat) : Bool := (s.1 == 1 || s.1 == 2) && (s.2.length != 0)
def totA (r : List (Int × List Nat)) : Nat := (r.map fun s => s.2.length).sum
def rightA (r : List (Int × List Nat)) : Bool := decide (r.length ≤ 8) && (r.all okA && decide (totA r ≤ 64))
theorem right_abs (M : List Sg) : rightB M = rightA (M.map Sg.abs) := by
  unfold rightB rightA totA totN
  rw [List.length_map, List.all_map, List.map_map]
  rfl
theorem tot_abs (M : List Sg) : totN M = totA (M.map Sg.abs) := by
  unfold totA totN
  rw [List.map_map]
  rfl
/-- Norm makes no more parts, and no other numbers. -/
theorem norm_tot (r : List (Int × List Nat)) : totA (normL r) = totA r ∧ (normL r).length ≤ r.length := by
  have step : ∀ (acc : List (Int × List Nat)) (s : Int × List Nat), totA (normStep acc s) = totA acc + s.2.length ∧ (normStep acc s).length ≤ acc.length + 1 := by
    intro acc s
    rcases List.eq_nil_or_concat acc with rfl | ⟨a0, t, rfl⟩
    · simp [step_nil, totA]
    · rw [List.concat_eq_append]
      by_cases h : t.1 = 2 ∧ s.1 = 2
      · rw [step_more _ _ _ h.1 h.2]
        simp [totA]
        omega
      · rw [step_push _ _ _ h]
        simp [totA]
        omega
  have fold : ∀ (r acc : List (Int × List Nat)), totA (r.foldl normStep acc) = totA acc + totA r ∧ (r.foldl normStep acc).length ≤ acc.length + r.length := by
    intro r
    induction r with
    | nil => intro acc; simp [totA]
    | cons s r ih =>
      intro acc
      have h1 := ih (normStep acc s)
      have h2 := step acc s
      simp only [List.foldl_cons, List.length_cons]
      have e : totA (s :: r) = s.2.length + totA r := by simp [totA]
      omega
  have h := fold r []
  simp only [List.length_nil, Nat.zero_add] at h
  have e : totA [] = 0 := rfl
  rw [e] at h
  rw [Nat.zero_add] at h
  exact h

end Go.Proofs.YtnaangnmlbgmkaaGreatDoor

/-
  The document's reader, its other calls; and that it tells what the reader tells.
-/
namespace Go.Proofs.YtnaangnmlbgmkaaGreatDoor
open Go.RowKit

/-- What lies before the document's reader. -/
def before (l : List UInt8) (k : Nat) (s : Bool) : List UInt8 := match s with | true => [] | false => l.drop k

/-- THE TWO READERS TELL THE SAME. -/
theorem readers_same (l : List UInt8) (k : Nat) (s : Bool) (n : Int) (hk : k ≤ l.length) :
    (rdTake (before l k s) s n).1 = (refTake l k s n).1 ∧ (rdTake (before l k s) s n).2.1 = before l (refTake l k s n).2.1 (refTake l k s n).2.2 ∧ (rdTake (before l k s) s n).2.2 = (refTake l k s n).2.2 ∧ (refTake l k s n).2.1 ≤ l.length := by
  unfold rdTake refTake
  cases s with
  | true =>
    rw [if_neg (show ¬ (true = false ∧ _) by simp)]
    by_cases hn : 0 ≤ n ∧ n ≤ ((before l k true).length : Int)
    · rw [if_pos hn]
      simp [before, hk]
    · rw [if_neg hn]
      simp [before, hk]
  | false =>
    have e1 : ((before l k false).length : Int) = (l.length : Int) - k := by simp [before]; omega
    by_cases hn : 0 ≤ n ∧ n ≤ (l.length : Int) - k
    · have hp : 0 ≤ n ∧ n ≤ ((before l k false).length : Int) := by rw [e1]; exact hn
      have hq : false = false ∧ 0 ≤ n ∧ n ≤ (l.length : Int) - k := ⟨rfl, hn⟩
      rw [if_pos hp, if_pos hq]
      simp only [before, List.drop_drop]
      exact ⟨trivial, trivial, trivial, by omega⟩
    · have hp : ¬ (0 ≤ n ∧ n ≤ ((before l k false).length : Int)) := by rw [e1]; exact hn
      have hq : ¬ (false = false ∧ 0 ≤ n ∧ n ≤ (l.length : Int) - k) := fun e => hn e.2
      rw [if_neg hp, if_neg hq]
      simp [before, hk]

theorem refTake_len (l : List UInt8) (k : Nat) (s : Bool) (n : Int) : ((refTake l k s n).1.length : Int) ≤ max n 0 := by
  unfold refTake
  split
  · simp only [List.length_take]; omega
  · simp only [List.length_nil]; omega

end Go.Proofs.YtnaangnmlbgmkaaGreatDoor

/-
  Whether two paths are the same: what is asked.
-/
namespace Go.Proofs.YtnaangnmlbgmkaaGreatDoor
set_option linter.unusedVariables false
set_option linter.unusedSimpArgs false
open Go.RowKit

theorem alloc_sz (w : World) (o : Obj) : (w.alloc o).heap.size = w.heap.size + 1 := by simp
/-- Are two segments, are two paths the same? -/
def sameS (s t : Sg) : Bool := decide (s.abs = t.abs)
def sameP (a b : List Sg) : Bool := decide (a.map Sg.abs = b.map Sg.abs)
theorem sameP_comm (a b : List Sg) : sameP a b = sameP b a := by
  unfold sameP
  rw [Bool.eq_iff_iff]
  simp only [decide_eq_true_eq]
  exact ⟨Eq.symm, Eq.symm⟩
theorem sameS_kind {s t : Sg} (h : ¬ s.kind = t.kind) : sameS s t = false := by
  unfold sameS Sg.abs
  exact decide_eq_false (fun e => h (by injection e))
theorem sameS_nums {s t : Sg} (h : s.kind = t.kind) : sameS s t = sameZ s.nums t.nums := by
  unfold sameS sameZ Sg.abs
  rw [Bool.eq_iff_iff]
  simp [h]
theorem sameP_step {a b : List Sg} {j : Nat} {s t : Sg} (hs : a[j]? = some s) (ht : b[j]? = some t) (h : (a.take j).map Sg.abs = (b.take j).map Sg.abs) :
    (sameS s t = true → (a.take (j + 1)).map Sg.abs = (b.take (j + 1)).map Sg.abs) ∧ (sameS s t = false → sameP a b = false) := by
  have hj := (List.getElem?_eq_some_iff.1 hs).1
  have e1 : a[j] = s := (List.getElem?_eq_some_iff.1 hs).2
  have hj2 := (List.getElem?_eq_some_iff.1 ht).1
  have e2 : b[j] = t := (List.getElem?_eq_some_iff.1 ht).2
  refine ⟨fun e => ?_, fun e => ?_⟩
  · have e3 : s.abs = t.abs := of_decide_eq_true e
    rw [List.take_succ_eq_append_getElem hj, List.take_succ_eq_append_getElem hj2, e1, e2, List.map_append, List.map_append, h]
    simp [e3]
  · unfold sameP
    refine decide_eq_false (fun e3 => ?_)
    have e4 : (a.map Sg.abs)[j]? = (b.map Sg.abs)[j]? := by rw [e3]
    rw [List.getElem?_map, List.getElem?_map, hs, ht] at e4
    have e5 : s.abs = t.abs := by simpa using e4
    have e6 : ¬ s.abs = t.abs := of_decide_eq_false e
    exact e6 e5
theorem sameP_end {a b : List Sg} (hl : a.length = b.length) (h : (a.take a.length).map Sg.abs = (b.take a.length).map Sg.abs) : sameP a b = true := by
  rw [List.take_length, hl, List.take_length] at h
  exact decide_eq_true h
theorem sameP_len {a b : List Sg} (hl : ¬ a.length = b.length) : sameP a b = false :=
  decide_eq_false (fun e => hl (by have := congrArg List.length e; simpa using this))

end Go.Proofs.YtnaangnmlbgmkaaGreatDoor

/-
  Norm does not change how long a path counts.
-/
namespace Go.Proofs.YtnaangnmlbgmkaaGreatDoor
set_option linter.unusedVariables false

def cntA (r : List (Int × List Nat)) : Nat := (r.map fun s => if s.1 = 1 then 1 else s.2.length).sum
theorem cnt_abs (M : List Sg) : cntN M = cntA (M.map Sg.abs) := by
  unfold cntN cntA
  rw [List.map_map]
  rfl
theorem norm_cnt (r : List (Int × List Nat)) : cntA (normL r) = cntA r := by
  have step : ∀ (acc : List (Int × List Nat)) (s : Int × List Nat), cntA (normStep acc s) = cntA acc + (if s.1 = 1 then 1 else s.2.length) := by
    intro acc s
    rcases List.eq_nil_or_concat acc with rfl | ⟨a0, t, rfl⟩
    · rw [step_nil]
      simp [cntA]
    · rw [List.concat_eq_append]
      by_cases h : t.1 = 2 ∧ s.1 = 2
      · rw [step_more _ _ _ h.1 h.2]
        simp [cntA, h.1, h.2]
        omega
      · rw [step_push _ _ _ h]
        simp [cntA]
        omega
  have fold : ∀ (r acc : List (Int × List Nat)), cntA (r.foldl normStep acc) = cntA acc + cntA r := by
    intro r
    induction r with
    | nil => intro acc; simp [cntA]
    | cons s r ih =>
      intro acc
      rw [List.foldl_cons, ih, step]
      simp [cntA]
      omega
  have h := fold r []
  have e : cntA [] = 0 := rfl
  rw [e, Nat.zero_add] at h
  exact h
end Go.Proofs.YtnaangnmlbgmkaaGreatDoor

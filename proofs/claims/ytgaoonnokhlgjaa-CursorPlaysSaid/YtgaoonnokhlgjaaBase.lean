/-
  Bytes in memory, lists of bytes as numbers, small facts on worlds, and the walk's laws on slices of bytes of a call's own: what the walks lean on; no program stands here.
-/
import Derived.Below
import Derived.WalkKit
import Derived.WalkSmall
import Derived.Laws.OwnMore
import Derived.Laws.IdiomStrings
import Derived.Laws.BytesArg
import Derived.Laws.BitsAllLaws
import Derived.Laws.CopyOwn
import Derived.Lib.BufferRead
import Derived.Deep.Draws
import Derived.Lib.Hide
import Derived.IntWalk
namespace Go.Proofs.Ytgaoonnokhlgjaa
open Go.RowKit

/-! ### Bytes at an address -/

/-- The slice's address A leads to the bytes l, in a block below B; nothing is said of an empty one's address. -/
def At (w : World) (B : Nat) (A : Option Addr) (l : List UInt8) : Prop :=
  l ≠ [] → ∃ b off, A = some ⟨b, off, none⟩ ∧ b < B ∧ ∀ j, j < l.length → w.cell? ⟨b, off + j, none⟩ = some (.int .u8 ((l.getD j 0).toNat : Int))
/-- The same, in a block that is there. -/
def Bytes (w : World) (A : Option Addr) (l : List UInt8) : Prop := At w w.heap.size A l

section
variable {w w' : World} {A : Option Addr} {l : List UInt8} {B : Nat}
theorem At.nil (w : World) (B : Nat) (A : Option Addr) : At w B A [] := fun h => absurd rfl h
theorem Bytes.nil (w : World) (A : Option Addr) : Bytes w A [] := fun h => absurd rfl h
theorem At.lift {B' : Nat} (h : At w B A l) (hB : B ≤ B') : At w B' A l := fun hl => by
  obtain ⟨b, off, rfl, hlt, hc⟩ := h hl
  exact ⟨b, off, rfl, Nat.lt_of_lt_of_le hlt hB, hc⟩
theorem At.bytes (h : At w B A l) (hB : B ≤ w.heap.size) : Bytes w A l := h.lift hB
theorem At.below {B' : Nat} (h : At w B A l) (hb : Below B' w w') (hB : B ≤ B') : At w' B A l := by
  intro hl
  obtain ⟨b, off, rfl, hlt, hc⟩ := h hl
  exact ⟨b, off, rfl, hlt, fun j hj => (hb.cell (p := ⟨b, off + j, none⟩) (Nat.lt_of_lt_of_le hlt hB)).trans (hc j hj)⟩
theorem At.grown {g : Nat} (h : At w B A l) (hg : w.grownBy w' (some g)) (hB : B ≤ g) : At w' B A l := by
  intro hl
  obtain ⟨b, off, rfl, hlt, hc⟩ := h hl
  refine ⟨b, off, rfl, hlt, fun j hj => hg.cell (hc j hj) ?_⟩
  intro e
  have e' : b = g := by simpa using e
  omega
theorem Bytes.below (h : Bytes w A l) (hb : Below w.heap.size w w') : Bytes w' A l := (At.below h hb (Nat.le_refl _)).lift hb.size
theorem Bytes.drewN (h : Bytes w A l) (n : Nat) : Bytes (w.drewN n) A l := h
theorem Bytes.drew (h : Bytes w A l) : Bytes w.drew A l := h
theorem Bytes.alloc (h : Bytes w A l) (o : Obj) : Bytes (w.alloc o) A l := h.below ((Below.refl _ _).alloc (Nat.le_refl _) _)
theorem At.cell (h : At w B A l) {k : Nat} (hk : k < l.length) : ∃ b off, A = some ⟨b, off, none⟩ ∧ b < B ∧ w.cell? ⟨b, off + k, none⟩ = some (.int .u8 ((l.getD k 0).toNat : Int)) := by
  obtain ⟨b, off, hA, hlt, hc⟩ := h (by intro e; subst e; simp at hk)
  exact ⟨b, off, hA, hlt, hc k hk⟩
theorem Bytes.cell (h : Bytes w A l) {k : Nat} (hk : k < l.length) : ∃ b off, A = some ⟨b, off, none⟩ ∧ b < w.heap.size ∧ w.cell? ⟨b, off + k, none⟩ = some (.int .u8 ((l.getD k 0).toNat : Int)) := At.cell h hk
/-- A cut 's[i:]', as the walk writes its address. -/
theorem At.drop (h : At w B A l) {k c : Nat} (hc : l.length ≤ c) : At w B (if c = k then A else A.map (·.add k)) (l.drop k) := by
  intro hl
  have hk : k < l.length := by
    rcases Nat.lt_or_ge k l.length with h1 | h1
    · exact h1
    · exact absurd (List.drop_eq_nil_of_le h1) hl
  obtain ⟨b, off, rfl, hlt, hcell⟩ := h (by intro e; subst e; simp at hk)
  rw [if_neg (by omega)]
  refine ⟨b, off + k, ?_, hlt, fun j hj => ?_⟩
  · simp [Addr.add_lit]
  · rw [Nat.add_assoc, hcell (k + j) (by simp at hj; omega)]
    simp [List.getD, List.getElem?_drop]
theorem At.take (h : At w B A l) (k : Nat) : At w B A (l.take k) := by
  intro hl
  obtain ⟨b, off, rfl, hlt, hcell⟩ := h (by intro e; subst e; simp at hl)
  refine ⟨b, off, rfl, hlt, fun j hj => ?_⟩
  have hj' : j < k ∧ j < l.length := by simpa [List.length_take, Nat.lt_min] using hj
  rw [hcell j hj'.2]
  simp [List.getD, hj'.1]
theorem Bytes.drop (h : Bytes w A l) {k c : Nat} (hc : l.length ≤ c) : Bytes w (if c = k then A else A.map (·.add k)) (l.drop k) := At.drop h hc
theorem Bytes.take (h : Bytes w A l) (k : Nat) : Bytes w A (l.take k) := At.take h k

/-! ### What may have turned -/

theorem grown_trans {a b c : World} {g : Nat} (h : a.grownBy b (some g)) (k : b.grownBy c (some g)) : a.grownBy c (some g) :=
  ⟨k.os.trans h.os, k.tape.trans h.tape, k.output.trans h.output, Nat.le_trans h.size k.size, fun i hi hne => (k.block i (Nat.lt_of_lt_of_le hi h.size) hne).trans (h.block i hi hne)⟩
theorem grown_of_below {a b : World} (h : Below a.heap.size a b) (row : Option Nat) : a.grownBy b row := ⟨h.os, h.tape, h.output, h.size, fun i hi _ => h.block i hi⟩
theorem below_of_grown {B : Nat} {a b : World} {g : Nat} (h : a.grownBy b (some g)) (hB : B ≤ a.heap.size) (hg : B ≤ g) : Below B a b :=
  (Below.refl B a).grown h hB (fun k hk => by cases hk; exact hg)
theorem grown_setCell {a b : World} {g : Nat} (h : a.grownBy b (some g)) (o : Nat) (u : Value) : a.grownBy (b.setCell ⟨g, o, none⟩ u) (some g) :=
  ⟨h.os, h.tape, h.output, by simpa [World.setCell] using h.size, fun i hi hne => (Below.heap_setCell b ⟨g, o, none⟩ u i (fun e => hne (by simp [e]))).trans (h.block i hi hne)⟩
theorem grown_drewN {a b : World} {row : Option Nat} (h : a.grownBy b row) (n : Nat) : a.grownBy (b.drewN n) row := ⟨h.os, h.tape, h.output, h.size, h.block⟩
theorem grown_alloc {a b : World} {row : Option Nat} (h : a.grownBy b row) (o : Obj) : a.grownBy (b.alloc o) row :=
  ⟨h.os, h.tape, h.output, Nat.le_trans h.size (by simp), fun i hi hne => (Below.heap_alloc b o i (Nat.lt_of_lt_of_le hi h.size)).trans (h.block i hi hne)⟩
theorem grown_refl (a : World) (row : Option Nat) : a.grownBy a row := ⟨rfl, rfl, rfl, Nat.le_refl _, fun _ _ _ => rfl⟩
theorem below_drewN {B : Nat} {a b : World} (h : Below B a b) (n : Nat) : Below B a (b.drewN n) := ⟨h.os, h.tape, h.output, h.size, h.block⟩

/-- Block g is just the cells cs, of the type t. -/
def Blk (w : World) (g t : Nat) (cs : List Value) : Prop := w.heap[g]? = some (.cells cs.toArray t (0, 0))
theorem Blk.lt {g t : Nat} {cs : List Value} (h : Blk w g t cs) : g < w.heap.size := (Array.getElem?_eq_some_iff.1 h).1
theorem Blk.cell {g t : Nat} {cs : List Value} (h : Blk w g t cs) (i : Nat) : w.cell? ⟨g, i, none⟩ = cs[i]? := by rw [cell_of_row w g i _ t (0, 0) h]; simp
theorem Blk.free {g t : Nat} {cs : List Value} (h : Blk w g t cs) (i : Nat) : w.frozen? ⟨g, i, none⟩ = false := frozen_of_row w g i _ t h
theorem Blk.new (w : World) (t : Nat) (cs : List Value) : Blk (w.alloc (.cells cs.toArray t)) w.heap.size t cs := heap_alloc_new w _
theorem Blk.set {g t : Nat} {cs : List Value} (h : Blk w g t cs) (i : Nat) (u : Value) : Blk (w.setCell ⟨g, i, none⟩ u) g t (cs.set i u) := by
  unfold Blk at h ⊢
  simp only [World.setCell, Array.getElem?_modify, if_pos, h, Option.map_some]
  simp
theorem Blk.below {g t B : Nat} {cs : List Value} (h : Blk w g t cs) (hb : Below B w w') (hg : g < B) : Blk w' g t cs := (hb.block g hg).trans h
theorem Blk.grown {g g' t : Nat} {cs : List Value} (h : Blk w g t cs) (hb : w.grownBy w' (some g')) (hg : g ≠ g') : Blk w' g t cs := (hb.block g h.lt (by simpa using hg)).trans h
theorem Blk.drewN {g t : Nat} {cs : List Value} (h : Blk w g t cs) (n : Nat) : Blk (w.drewN n) g t cs := h

/-- The value v is a slice of the call's own (its block is B or later) that holds the bytes l. -/
def Own (w : World) (B e : Nat) (v : Value) (l : List UInt8) : Prop := w.ownsRow B e 1 v l.length (l.map fun b => Value.int .u8 (b.toNat : Int))

theorem Own.nil (w : World) (B e : Nat) : Own w B e (.slice none 0 0) [] := World.ownsRow_nil w B e 1
theorem Own.form {e : Nat} {v : Value} (h : Own w B e v l) : ∃ A c, v = .slice A l.length c ∧ l.length ≤ c ∧ c ≤ maxLen := by
  rcases h.2 with ⟨rfl, hn⟩ | ⟨g, cap, cur, rfl, hbg, hg, hnc, hcm, hcs, htake⟩
  · exact ⟨none, 0, by rw [hn], by omega, Nat.zero_le _⟩
  · exact ⟨_, cap, rfl, hnc, hcm⟩
theorem Own.bytes {e n c : Nat} (h : Own w B e (.slice A n c) l) : Bytes w A l := by
  intro hl
  rcases h.2 with ⟨hv, hn⟩ | ⟨g, cap, cur, hv, hbg, hg, hnc, hcm, hcs, htake⟩
  · exact absurd (List.eq_nil_of_length_eq_zero hn) hl
  · have hA : A = some ⟨g, 0, none⟩ := by injection hv
    refine ⟨g, 0, hA, (Array.getElem?_eq_some_iff.1 hg).1, fun j hj => ?_⟩
    have hj2 := World.ownsRow.cells h (g := g) (by subst hA; rfl) j (.int .u8 ((l.getD j 0).toNat : Int)) (by simp [List.getD, hj])
    rw [Addr.add_lit] at hj2
    exact hj2
theorem Own.bytes' {e : Nat} {v : Value} (h : Own w B e v l) : ∃ A c, v = .slice A l.length c ∧ l.length ≤ c ∧ c ≤ maxLen ∧ Bytes w A l := by
  obtain ⟨A, c, rfl, h1, h2⟩ := h.form
  exact ⟨A, c, rfl, h1, h2, h.bytes⟩
theorem Own.alloc {e : Nat} {v : Value} (h : Own w B e v l) (o : Obj) : Own (w.alloc o) B e v l := World.ownsRow.alloc h o
theorem Own.drew {e : Nat} {v : Value} (h : Own w B e v l) : Own w.drew B e v l := h
theorem Own.drewN {e : Nat} {v : Value} (h : Own w B e v l) (n : Nat) : Own (w.drewN n) B e v l := h
theorem Own.below {e : Nat} {v : Value} (h : Own w B e v l) (hb : Below w.heap.size w w') : Own w' B e v l :=
  World.ownsRow.kept h (row := none) ⟨hb.os, hb.tape, hb.output, hb.size, fun k hk _ => hb.block k hk⟩ (by cases v.ownBlock <;> simp)
theorem Own.lower {e B' : Nat} {v : Value} (h : Own w B e v l) (hB : B' ≤ B) : Own w B' e v l := by
  refine ⟨h.1, ?_⟩
  rcases h.2 with h2 | ⟨g, cap, cur, hv, hbg, r⟩
  · exact .inl h2
  · exact .inr ⟨g, cap, cur, hv, Nat.le_trans hB hbg, r⟩
theorem Own.blk {e k : Nat} {v : Value} (h : Own w B e v l) (hk : v.ownBlock = some k) : B ≤ k := (World.ownsRow.lt h k hk).1
end

/-! ### The walk's laws -/

/-- t is []byte in P, e its byte. -/
structure IsBytes (P : Program) (t e : TypeId) : Prop where
  ht : P.underlying t = some (.slice e)
  he : P.underlying e = some (.int .u8)
  info : (P.info? e).map (fun i => (i.zero, i.size, i.bytes)) = some (some (.int .u8 0), 1, 1)

theorem cells_oneCell (l : List UInt8) : ∀ u ∈ (l.map fun b => Value.int .u8 (b.toNat : Int)), u.oneCell' = true := by
  intro u hu
  obtain ⟨_, _, rfl⟩ := List.mem_map.1 hu
  rfl

section
variable {P : Program} {w : World} {ops : Array Oper} {rest : List Oper} {o : Oper} {a : Act} {Q : Exit → Act → World → Prop}

theorem getElem?_cells {l : List UInt8} {j : Nat} {u : Value} (hu : (l.map fun b => Value.int .u8 (b.toNat : Int))[j]? = some u) : j < l.length ∧ u = .int .u8 ((l.getD j 0).toNat : Int) := by
  have hj : j < l.length := by simpa using (List.getElem?_eq_some_iff.1 hu).1
  refine ⟨hj, ?_⟩
  simp [hj] at hu
  simp [List.getD, hj, hu]

/-- 'out = append(out, x...)', out the call's own, x any bytes: as one operation, in the walk's list, and in a region that draws its order. -/
theorem wp_append_bytes {t e : TypeId} {K : Act → World → Prop} (T : IsBytes P t e) (s x : Operand) (ho : o.op = .call { callee := .builtin .append, args := #[s, x], argTypes := #[t, t] })
    (w0 : World) (v : Value) (l : List UInt8) (hs : a.eval s = v) (hown : Own w w0.heap.size e v l) (A : Option Addr) (m : List UInt8) (n c : Nat) (hx : a.eval x = .slice A n c) (hn : n = m.length) (hm : Bytes w A m)
    (hsz : l.length + m.length ≤ 140737488355328) (hb : Below w0.heap.size w0 w)
    (h : ∀ v' w', Own w' w0.heap.size e v' (l ++ m) → w.grownBy w' v.ownBlock → Below w0.heap.size w0 w' → K (a.put o.dst v') w') : o.wp P a w K Q := by
  obtain ⟨i, hi, hz0, hz1, hz2⟩ := info_parts T.info
  subst hn
  by_cases hm0 : m = []
  · subst hm0
    cases A with
    | none =>
      have hrun : (Builtin.append_ #[t, t] o.type #[v, .slice none 0 c]).run P w = .ok v w := by
        rcases hown.2 with ⟨rfl, _⟩ | ⟨g, cap, cur, rfl, _, _, hnc, _⟩
        · simp [Builtin.append_, run_underlying T.ht, sizeOf, typeInfo, hi, Builtin.lenOf, Builtin.firstCells]
        · simp [Builtin.append_, run_underlying T.ht, sizeOf, typeInfo, hi, Builtin.lenOf, Builtin.firstCells, hnc, storeCells]
      unfold Oper.wp
      have hx' : a.eval x = .slice none 0 c := hx
      simp [execOp, ho, resolve, invoke, builtin, hs, hx', hrun, Result.andThen]
      exact h v w (by simpa using hown) (World.grownBy.refl _ _) hb
    | some ad =>
      refine wp_append_own w s x t ho w0.heap.size e i (.int .u8 0) 1 1 T.ht hi hz0 hz1 hz2 rfl (by decide) v l.length _ hs hown ad 0 c [] hx rfl (by simp) (by simp) (by unfold maxLen; simp at hsz; omega) (by simpa using hsz) hb.size ?_
      intro v' w' ho' hg _
      exact h v' w' (by simpa [Own] using ho') hg (hb.grown hg hb.size (fun k hk => hown.blk hk))
  · obtain ⟨b, off, rfl, hlt, hc⟩ := hm hm0
    refine wp_append_own w s x t ho w0.heap.size e i (.int .u8 0) 1 1 T.ht hi hz0 hz1 hz2 rfl (by decide) v l.length _ hs hown ⟨b, off, none⟩ m.length c (m.map fun b => Value.int .u8 (b.toNat : Int)) hx (by simp) ?_ (cells_oneCell m) (by unfold maxLen; omega) (by omega) hb.size ?_
    · intro j u hu
      obtain ⟨hj, rfl⟩ := getElem?_cells hu
      rw [Addr.add_lit]
      exact hc j hj
    · intro v' w' ho' hg _
      refine h v' w' ?_ hg (hb.grown hg hb.size (fun k hk => hown.blk hk))
      unfold Own
      rw [List.length_append, List.map_append]
      exact ho'

theorem wpList_append_bytes {t e : TypeId} (T : IsBytes P t e) (hgd : o.guard = none) (s x : Operand) (ho : o.op = .call { callee := .builtin .append, args := #[s, x], argTypes := #[t, t] })
    (w0 : World) (v : Value) (l : List UInt8) (hs : a.eval s = v) (hown : Own w w0.heap.size e v l) (A : Option Addr) (m : List UInt8) (n c : Nat) (hx : a.eval x = .slice A n c) (hn : n = m.length) (hm : Bytes w A m)
    (hsz : l.length + m.length ≤ 140737488355328) (hb : Below w0.heap.size w0 w)
    (h : ∀ v' w', Own w' w0.heap.size e v' (l ++ m) → w.grownBy w' v.ownBlock → Below w0.heap.size w0 w' → wpList P ops Q rest (a.put o.dst v') w') : wpList P ops Q (o :: rest) a w :=
  wpList_plain hgd fun _ hK => wp_append_bytes T s x ho w0 v l hs hown A m n c hx hn hm hsz hb fun v' w' h1 h2 h3 => hK _ _ (h v' w' h1 h2 h3)

theorem step_append_bytes {t e : TypeId} {K : Act → World → Prop} {E : Prop} (T : IsBytes P t e) (hgd : o.guard = none) (s x : Operand) (ho : o.op = .call { callee := .builtin .append, args := #[s, x], argTypes := #[t, t] })
    (w0 : World) (v : Value) (l : List UInt8) (hs : a.eval s = v) (hown : Own w w0.heap.size e v l) (A : Option Addr) (m : List UInt8) (n c : Nat) (hx : a.eval x = .slice A n c) (hn : n = m.length) (hm : Bytes w A m)
    (hsz : l.length + m.length ≤ 140737488355328) (hb : Below w0.heap.size w0 w)
    (h : ∀ v' w', Own w' w0.heap.size e v' (l ++ m) → w.grownBy w' v.ownBlock → Below w0.heap.size w0 w' → K (a.put o.dst v') w') : if Region.wanted o (yielded ops a.tmps) = true then Oper.wp P o a w K Q else E := by
  have hw : Region.wanted o (yielded ops a.tmps) = true := by simp [Region.wanted, hgd]
  rw [if_pos hw]
  exact wp_append_bytes T s x ho w0 v l hs hown A m n c hx hn hm hsz hb h

theorem toNat_ofNat_toNat {N : Int} (h0 : 0 ≤ N) (h1 : N < 256) : ((UInt8.ofNat N.toNat).toNat : Int) = N := by
  rw [UInt8.toNat_ofNat', Nat.mod_eq_of_lt (by omega)]
  omega

/-- 'string(b)'. -/
theorem conv_bytes {t e d : TypeId} (T : IsBytes P t e) (hd : P.underlying d = some .string) {A : Option Addr} {l : List UInt8} (h : Bytes w A l) (c : Nat) : (convert t d (.slice A l.length c)).run P w = .ok (.string ⟨l.toArray⟩) w := by
  by_cases hl : l = []
  · subst hl
    cases A with
    | none => exact Lib.run_convert_nil_bytes w t d e c T.ht T.he hd
    | some ad => exact run_convert_bytes_back w t d e ad c [] T.ht T.he hd (by simp)
  · obtain ⟨b, off, rfl, _, hc⟩ := h hl
    refine run_convert_bytes_back w t d e _ c l T.ht T.he hd fun j hj => ?_
    rw [Addr.add_lit, hc j hj]
    simp [List.getD, hj]

/-- The one byte that 'append(out, c)' lays in a block of its own. -/
theorem bytes_one (w : World) (e : TypeId) {N : Int} (h0 : 0 ≤ N) (h1 : N < 256) : Bytes (w.alloc (.cells #[.int .u8 N] e)) (some ⟨w.heap.size, 0, none⟩) [UInt8.ofNat N.toNat] := by
  intro _
  refine ⟨w.heap.size, 0, rfl, by simp, fun j hj => ?_⟩
  obtain rfl : j = 0 := by simpa using hj
  rw [World.cell?_alloc_at]
  · simp
    omega
  · rfl

theorem grown_of_alloc {wr w' : World} {o : Obj} {row : Option Nat} (hg : (wr.alloc o).grownBy w' row) : wr.grownBy w' row := by
  have hg0 := World.grownBy_alloc wr o row
  exact ⟨hg.os.trans hg0.os, hg.tape.trans hg0.tape, hg.output.trans hg0.output, Nat.le_trans hg0.size hg.size, fun k hk hne => (hg.block k (Nat.lt_of_lt_of_le hk hg0.size) hne).trans (hg0.block k hk hne)⟩

/-- 'out = append(out, c)': one byte. -/
theorem wpList_append_byte {t e : TypeId} (T : IsBytes P t e) (hgd : o.guard = none) (s x : Operand) (ho : o.op = .call { callee := .builtin .append, args := #[s, x], argTypes := #[t, t] })
    (w0 : World) (v : Value) (l : List UInt8) (hs : a.eval s = v) (wr : World) (N : Int) (hw : w = wr.alloc (.cells #[.int .u8 N] e)) (hown : Own wr w0.heap.size e v l) (hx : a.eval x = .slice (some ⟨wr.heap.size, 0, none⟩) 1 1)
    (h0 : 0 ≤ N) (h1 : N < 256) (hsz : l.length < 140737488355328) (hb : Below w0.heap.size w0 wr)
    (h : ∀ v' w', Own w' w0.heap.size e v' (l ++ [UInt8.ofNat N.toNat]) → wr.grownBy w' v.ownBlock → Below w0.heap.size w0 w' → wpList P ops Q rest (a.put o.dst v') w') : wpList P ops Q (o :: rest) a w := by
  subst hw
  refine wpList_append_bytes T hgd s x ho w0 v l hs (hown.alloc _) _ [UInt8.ofNat N.toNat] 1 1 hx rfl (bytes_one wr e h0 h1) (by simp; omega) (hb.alloc hb.size _) fun v' w' ho' hg hb' => h v' w' ho' (grown_of_alloc hg) hb'

/-- The same in a region that draws its order: the draw lies outside. -/
theorem step_append_byte {t e : TypeId} {K : Act → World → Prop} {E : Prop} (T : IsBytes P t e) (hgd : o.guard = none) (s x : Operand) (ho : o.op = .call { callee := .builtin .append, args := #[s, x], argTypes := #[t, t] })
    (w0 : World) (v : Value) (l : List UInt8) (hs : a.eval s = v) (wr : World) (N : Int) (hw : w = (wr.alloc (.cells #[.int .u8 N] e)).drew) (hown : Own wr w0.heap.size e v l) (hx : a.eval x = .slice (some ⟨wr.heap.size, 0, none⟩) 1 1)
    (h0 : 0 ≤ N) (h1 : N < 256) (hsz : l.length < 140737488355328) (hb : Below w0.heap.size w0 wr)
    (h : ∀ v' w', Own w' w0.heap.size e v' (l ++ [UInt8.ofNat N.toNat]) → wr.grownBy w' v.ownBlock → Below w0.heap.size w0 w' → K (a.put o.dst v') w') : if Region.wanted o (yielded ops a.tmps) = true then Oper.wp P o a w K Q else E := by
  subst hw
  refine step_append_bytes T hgd s x ho w0 v l hs (hown.alloc (.cells #[.int .u8 N] e)).drew _ [UInt8.ofNat N.toNat] 1 1 hx rfl (bytes_one wr e h0 h1).drew (by simp; omega) (hb.alloc hb.size (.cells #[.int .u8 N] e)).drew fun v' w' ho' hg hb' => h v' w' ho' (grown_of_alloc (o := .cells #[.int .u8 N] e) ⟨hg.os, hg.tape, hg.output, hg.size, hg.block⟩) hb'

/-- Bytes that are laid in a block of their own. -/
theorem bytes_lit (w : World) (e : TypeId) (m : List UInt8) : Bytes (w.alloc (.cells (m.map fun b => Value.int .u8 (b.toNat : Int)).toArray e)) (some ⟨w.heap.size, 0, none⟩) m := by
  intro _
  refine ⟨w.heap.size, 0, rfl, by simp, fun j hj => ?_⟩
  have hk := heap_alloc_new w (.cells (m.map fun b => Value.int .u8 (b.toNat : Int)).toArray e)
  rw [cell_of_row _ _ _ _ e (0, 0) hk]
  simp [List.getD, hj]

/-- 'out = append(out, c, d)': some bytes, in a region that draws its order. -/
theorem step_append_lit {t e : TypeId} {K : Act → World → Prop} {E : Prop} (T : IsBytes P t e) (hgd : o.guard = none) (s x : Operand) (ho : o.op = .call { callee := .builtin .append, args := #[s, x], argTypes := #[t, t] })
    (w0 : World) (v : Value) (l : List UInt8) (hs : a.eval s = v) (wr : World) (m : List UInt8) (hw : w = (wr.alloc (.cells (m.map fun b : UInt8 => Value.int .u8 (b.toNat : Int)).toArray e)).drew) (hown : Own wr w0.heap.size e v l) (n c : Nat) (hx : a.eval x = .slice (some ⟨wr.heap.size, 0, none⟩) n c) (hn : n = m.length)
    (hsz : l.length + m.length ≤ 140737488355328) (hb : Below w0.heap.size w0 wr)
    (h : ∀ v' w', Own w' w0.heap.size e v' (l ++ m) → wr.grownBy w' v.ownBlock → Below w0.heap.size w0 w' → K (a.put o.dst v') w') : if Region.wanted o (yielded ops a.tmps) = true then Oper.wp P o a w K Q else E := by
  subst hw
  refine step_append_bytes T hgd s x ho w0 v l hs (hown.alloc (.cells (m.map fun b : UInt8 => Value.int .u8 (b.toNat : Int)).toArray e)).drew _ m n c hx hn (bytes_lit wr e m).drew hsz (hb.alloc hb.size (.cells (m.map fun b : UInt8 => Value.int .u8 (b.toNat : Int)).toArray e)).drew fun v' w' ho' hg hb' => h v' w' ho' (grown_of_alloc (o := .cells (m.map fun b : UInt8 => Value.int .u8 (b.toNat : Int)).toArray e) ⟨hg.os, hg.tape, hg.output, hg.size, hg.block⟩) hb'

/-- 'make([]byte, n, c)'. -/
theorem wpList_make_bytes {t e : TypeId} (T : IsBytes P t e) (hgd : o.guard = none) (l c : Operand) (ho : o.op = Op.makeSlice t l c)
    (w0 : World) (L C : Int) (n k : Nat) (hl : a.eval l = .int .i64 L) (hc : a.eval c = .int .i64 C) (hL : L = (n : Int)) (hC : C = (k : Int)) (hnk : n ≤ k) (hk : k ≤ 281474976710656) (hb : Below w0.heap.size w0 w)
    (h : ∀ w', Own w' w0.heap.size e (.slice (some ⟨w.heap.size, 0, none⟩) n k) (List.replicate n 0) → w.grownBy w' none → Below w0.heap.size w0 w' → wpList P ops Q rest (a.put o.dst (.slice (some ⟨w.heap.size, 0, none⟩) n k)) w') : wpList P ops Q (o :: rest) a w := by
  obtain ⟨i, hi, hz0, hz1, hz2⟩ := info_parts T.info
  subst hL; subst hC
  refine wpList_plain hgd fun K hK => ?_
  have hrun := run_make (P := P) w t e i (.int .u8 0) T.ht hi hz0 .i64 .i64 n k (by omega) (by omega) (by rw [hz2]; omega) (by omega)
  simp only [Int.toNat_natCast, hz1] at hrun
  unfold Oper.wp
  simp [execOp, ho, hl, hc, hrun, Result.andThen]
  have e1 : madeCells #[Value.int .u8 0] k = Array.replicate k (.int .u8 0) := by
    apply Array.ext
    · simp [madeCells]
    · intro j h1 h2
      simp [madeCells, Nat.mod_one]
  refine hK _ _ (h _ ⟨by simp, .inr ⟨w.heap.size, k, _, by simp, hb.size, heap_alloc_new w _, by simpa using hnk, by unfold maxLen; omega, by simp [madeCells, Value.cells], ?_⟩⟩ (World.grownBy_alloc w _ none) (hb.alloc hb.size _))
  simp [Value.cells, e1, List.take_replicate, Nat.min_eq_left hnk]

/-- 'copy(out, x)' over a slice of the call's own that is as long as x. -/
theorem wpList_copy_bytes {t t' e : TypeId} (T : IsBytes P t e) (hgd : o.guard = none) (d s : Operand) (ho : o.op = .call { callee := .builtin .copy, args := #[d, s], argTypes := #[t, t'] })
    (w0 : World) (A0 : Option Addr) (n k : Nat) (l0 : List UInt8) (hd : a.eval d = .slice A0 n k) (hown : Own w w0.heap.size e (.slice A0 n k) l0)
    (A : Option Addr) (m c : Nat) (l : List UInt8) (hs : a.eval s = .slice A m c) (hm : m = l.length) (hnl : l0.length = l.length) (hl : Bytes w A l) (hb : Below w0.heap.size w0 w)
    (h : ∀ w', Own w' w0.heap.size e (.slice A0 n k) l → w.grownBy w' (Value.slice A0 n k).ownBlock → Below w0.heap.size w0 w' → wpList P ops Q rest (a.put o.dst (.int .i64 l.length)) w') : wpList P ops Q (o :: rest) a w := by
  obtain ⟨i, hi, hz0, hz1, hz2⟩ := info_parts T.info
  have hsz : (P.info? e).map (·.size) = some 1 := by rw [hi]; simp [hz1]
  subst hm
  obtain ⟨A1, c1, hv, h1, h2⟩ := hown.form
  simp only [Value.slice.injEq] at hv
  obtain ⟨rfl, rfl, rfl⟩ := hv
  by_cases hl0 : l = []
  · subst hl0
    have h00 : l0 = [] := List.eq_nil_of_length_eq_zero (by simpa using hnl)
    subst h00
    refine wpList_copy_nothing hgd d s t t' ho e T.ht hsz A0 A 0 k 0 c hd hs rfl ?_
    exact h w hown (World.grownBy.refl _ _) hb
  · obtain ⟨b, off, rfl, hlt, hc⟩ := hl hl0
    have hpos : 0 < l.length := List.length_pos_iff.2 hl0
    rcases hown.2 with ⟨hv, hn⟩ | ⟨g, cap, cur, hv, hbg, hg, hnc, hcm, hcs, htake⟩
    · omega
    · simp only [Value.slice.injEq, true_and] at hv
      obtain ⟨rfl, rfl⟩ := hv
      refine wpList_copy_own hgd d s t t' ho e T.ht hsz g 0 l0.length k ⟨b, off, none⟩ l.length c hd hs cur e hg (l.map fun b => Value.int .u8 (b.toNat : Int)) (by simp [hnl]) ?_ (by simp; omega) (cells_oneCell l) ?_
      · intro j u hu
        obtain ⟨hj, rfl⟩ := getElem?_cells hu
        rw [Addr.add_lit]
        exact hc j hj
      · have hg' := setRow_heap w g cur (cur.toList.take 0 ++ ((l.map fun b => Value.int .u8 (b.toNat : Int)) ++ cur.toList.drop (0 + (l.map fun b => Value.int .u8 (b.toNat : Int)).length))).toArray e (0, 0) hg
        rw [List.length_map] at hg' ⊢
        refine h _ ⟨by simp, .inr ⟨g, k, _, by rw [hnl], hbg, hg', by omega, hcm, ?_, ?_⟩⟩ ⟨rfl, rfl, rfl, by simp, fun j _ hk => setRow_other w g j _ (fun e => hk (by simp [Value.ownBlock, e]))⟩ (below_setRow hb hbg _)
        · simp at hcs ⊢; omega
        · simp
end

/-! ### Numbers out of bytes -/

/-- The number that bytes say, the first one the highest. -/
def num (l : List UInt8) : Nat := l.foldl (fun a b => a * 256 + b.toNat) 0
theorem num_nil : num [] = 0 := rfl
theorem num_snoc (l : List UInt8) (b : UInt8) : num (l ++ [b]) = num l * 256 + b.toNat := by simp [num]
theorem num_lt : ∀ (n : Nat) (l : List UInt8), l.length = n → num l < 256 ^ n := by
  intro n
  induction n with
  | zero => intro l h; obtain rfl := List.eq_nil_of_length_eq_zero h; simp [num]
  | succ n ih =>
    intro l h
    obtain ⟨l', b, rfl⟩ : ∃ l' b, l = l' ++ [b] := ⟨l.dropLast, l.getLast (by intro e; subst e; simp at h), (List.dropLast_concat_getLast _).symm⟩
    have h1 := ih l' (by simpa using h)
    have h2 := b.toNat_lt
    rw [num_snoc, Nat.pow_succ]
    omega
theorem num_lt4 {l : List UInt8} (h : l.length ≤ 4) : num l < 4294967296 := by
  have h1 := num_lt l.length l rfl
  have h2 : 256 ^ l.length ≤ 256 ^ 4 := Nat.pow_le_pow_right (by decide) h
  have h3 : (256 : Nat) ^ 4 = 4294967296 := by decide
  omega
theorem num_lt3 {l : List UInt8} (h : l.length ≤ 3) : num l < 16777216 := by
  have h1 := num_lt l.length l rfl
  have h2 : 256 ^ l.length ≤ 256 ^ 3 := Nat.pow_le_pow_right (by decide) h
  have h3 : (256 : Nat) ^ 3 = 16777216 := by decide
  omega
theorem take_snoc (l : List UInt8) (k : Nat) (h : k < l.length) : l.take (k + 1) = l.take k ++ [l.getD k 0] := by
  rw [List.take_succ_eq_append_getElem h]
  simp [h]
theorem num_take (l : List UInt8) (k : Nat) (h : k < l.length) : num (l.take (k + 1)) = num (l.take k) * 256 + l[k].toNat := by
  rw [take_snoc l k h, num_snoc]
  simp [h]
theorem num_step (l : List UInt8) (k : Nat) (hk : k < l.length) (hl : l.length ≤ 4) :
    bits .or .u32 ((num (l.take k) : Nat) * 256 % 4294967296 : Int) ((l[k].toNat : Int) % 4294967296) = ((num (l.take (k + 1)) : Nat) : Int) := by
  have h1 := num_lt3 (l := l.take k) (by simp; omega)
  have h2 := (l[k]).toNat_lt
  rw [num_take l k hk]
  have e1 : ((num (l.take k) : Nat) * 256 % 4294967296 : Int) = ((num (l.take k) * 256 : Nat) : Int) := by omega
  have e2 : ((l[k].toNat : Int) % 4294967296) = ((l[k].toNat : Nat) : Int) := by omega
  rw [e1, e2, u32_or_nat _ _ (by omega) (by omega), nat_join 8 _ _ (by omega) (by omega)]
end Go.Proofs.Ytgaoonnokhlgjaa

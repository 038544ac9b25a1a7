/-
  The tail of a row of bytes of a call's own, that is appended to and cut at its head.
-/
import Derived.Test.YtgbialnnfadlgaaStr7
import Derived.ArgAppend
namespace Go.Proofs.Ytgbialnnfadlgaa
set_option linter.unusedVariables false
set_option linter.unusedSimpArgs false
open Go.RowKit

/-- The value v is a slice in a block from B on, with the bytes l; what lies behind them, up to its capacity, may be written. -/
def Tl (w : World) (B : Nat) (v : Value) (l : List UInt8) : Prop :=
  (v = .slice none 0 0 ∧ l = []) ∨ ∃ g off c, v = .slice (some ⟨g, off, none⟩) l.length c ∧ B ≤ g ∧ g < w.heap.size ∧ l.length ≤ c ∧ c ≤ maxLen ∧ (∃ cur fr, w.heap[g]? = some (.cells cur 5 fr)) ∧
    (∀ j, j < c → (w.cell? ⟨g, off + j, none⟩).isSome = true ∧ w.frozen? ⟨g, off + j, none⟩ = false) ∧ ∀ j, j < l.length → w.cell? ⟨g, off + j, none⟩ = some (.int .u8 ((l.getD j 0).toNat : Int))
section
variable {w w' : World} {B : Nat} {v : Value} {l : List UInt8}
theorem Tl.nil (w : World) (B : Nat) : Tl w B (.slice none 0 0) [] := .inl ⟨rfl, rfl⟩
theorem Tl.form (h : Tl w B v l) : ∃ A c, v = .slice A l.length c ∧ l.length ≤ c ∧ c ≤ maxLen ∧ Bytes w A l := by
  rcases h with ⟨rfl, rfl⟩ | ⟨g, off, c, rfl, hB, hg, h1, h2, hty, hs, hc⟩
  · exact ⟨none, 0, rfl, Nat.le_refl _, Nat.zero_le _, Bytes.nil _ _⟩
  · exact ⟨_, c, rfl, h1, h2, fun _ => ⟨g, off, rfl, hg, hc⟩⟩
theorem Tl.same (h : Tl w B v l) (hz : w.heap.size ≤ w'.heap.size) (hb : ∀ g, v.ownBlock = some g → w'.heap[g]? = w.heap[g]?) : Tl w' B v l := by
  rcases h with ⟨rfl, rfl⟩ | ⟨g, off, c, rfl, hB, hg, h1, h2, hty, hs, hc⟩
  · exact .inl ⟨rfl, rfl⟩
  · have e := hb g rfl
    refine .inr ⟨g, off, c, rfl, hB, by omega, h1, h2, (by rw [e]; exact hty), fun j hj => ?_, fun j hj => ?_⟩
    · rw [World.cell?_of_block (a := ⟨g, off + j, none⟩) e, World.frozen?_of_block (a := ⟨g, off + j, none⟩) e]
      exact hs j hj
    · rw [World.cell?_of_block (a := ⟨g, off + j, none⟩) e]
      exact hc j hj
theorem Tl.lt (h : Tl w B v l) {g : Nat} (hg : v.ownBlock = some g) : B ≤ g ∧ g < w.heap.size := by
  rcases h with ⟨rfl, rfl⟩ | ⟨g', off, c, rfl, hB, hg', _⟩
  · cases hg
  · cases hg; exact ⟨hB, hg'⟩
theorem Tl.below (h : Tl w B v l) (hb : Below w.heap.size w w') : Tl w' B v l := h.same hb.size fun g hg => hb.block g (h.lt hg).2
theorem Tl.beside {k : Nat} (h : Tl w B v l) (hg : w.grownBy w' (some k)) (hk : k < B) : Tl w' B v l :=
  h.same hg.size fun g he => hg.block g (h.lt he).2 (fun e => by
    have h1 := (h.lt he).1
    have e' : g = k := (Option.some.inj e)
    omega)
theorem Tl.lower {B' : Nat} (h : Tl w B v l) (hB : B' ≤ B) : Tl w B' v l := by
  rcases h with h | ⟨g, off, c, r, hg, q⟩
  · exact .inl h
  · exact .inr ⟨g, off, c, r, Nat.le_trans hB hg, q⟩
theorem Own.tail (h : Own w B 5 v l) : Tl w B v l := by
  rcases h.2 with ⟨rfl, hn⟩ | ⟨g, cap, cur, rfl, hbg, hg, hnc, hcm, hcs, htake⟩
  · exact .inl ⟨rfl, List.eq_nil_of_length_eq_zero hn⟩
  · have hy := Own.bytes (A := some ⟨g, 0, none⟩) (n := l.length) (c := cap) h
    have hlt := (Array.getElem?_eq_some_iff.1 hg).1
    refine .inr ⟨g, 0, cap, rfl, hbg, hlt, hnc, hcm, ⟨cur, (0, 0), hg⟩, fun j hj => ⟨?_, ?_⟩, fun j hj => ?_⟩
    · rw [cell_of_row w g _ cur _ (0, 0) hg]
      rw [Array.getElem?_eq_getElem (by omega)]; rfl
    · exact frozen_of_row w g _ cur _ hg
    · obtain ⟨b, off, hA, _, hc⟩ := hy (by intro e; subst e; simp at hj)
      have hA' : (⟨g, 0, none⟩ : Addr) = ⟨b, off, none⟩ := by injection hA
      cases hA'
      exact hc j hj
/-- A cut 's[k:]', as the walk writes its address. -/
theorem Tl.drop {A : Option Addr} {n c k : Nat} (h : Tl w B (.slice A n c) l) (hk : k ≤ l.length) : Tl w B (.slice (if c = k then A else A.map (·.add k)) (n - k) (c - k)) (l.drop k) := by
  rcases h with ⟨h1, rfl⟩ | ⟨g, off, c', h1, hB, hg, h2, h3, hty, hs, hc⟩
  · simp only [Value.slice.injEq] at h1
    obtain ⟨rfl, rfl, rfl⟩ := h1
    obtain rfl : k = 0 := by simpa using hk
    exact .inl ⟨by simp, rfl⟩
  · simp only [Value.slice.injEq] at h1
    obtain ⟨rfl, rfl, rfl⟩ := h1
    by_cases hck : c = k
    · subst hck
      rw [if_pos rfl]
      have hlk : l.length = c := by omega
      refine .inr ⟨g, off, 0, by rw [List.length_drop]; simp, hB, hg, by simp; omega, Nat.zero_le _, hty, fun j hj => by omega, fun j hj => ?_⟩
      rw [List.length_drop] at hj; omega
    · rw [if_neg hck]
      refine .inr ⟨g, off + k, c - k, ?_, hB, hg, by rw [List.length_drop]; omega, by omega, hty, fun j hj => ?_, fun j hj => ?_⟩
      · rw [List.length_drop]; simp [Addr.add_lit]
      · rw [Nat.add_assoc]; exact hs (k + j) (by omega)
      · rw [List.length_drop] at hj
        rw [Nat.add_assoc, hc (k + j) (by omega)]
        simp [List.getD, List.getElem?_drop]
end
theorem type_setCell {w : World} {g e : Nat} {cur : Array Value} {fr : Nat × Nat} (p : Addr) (u : Value) (h : w.heap[g]? = some (.cells cur e fr)) : ∃ cur', (w.setCell p u).heap[g]? = some (.cells cur' e fr) := by
  by_cases hp : p.block = g
  · subst hp
    simp only [World.setCell, Array.getElem?_modify, if_pos, h, Option.map_some]
    exact ⟨_, rfl⟩
  · exact ⟨cur, (Below.heap_setCell w p u g (fun e => hp e.symm)).trans h⟩
theorem type_setCells {g g' e : Nat} {fr : Nat × Nat} : ∀ (vs : List Value) (o : Nat) {w : World} {cur : Array Value} (_ : w.heap[g]? = some (.cells cur e fr)), ∃ cur' fr', (w.setCells g' o vs).heap[g]? = some (.cells cur' e fr')
  | [], _, _, cur, h => ⟨cur, fr, h⟩
  | v :: r, o, w, cur, h => by
    obtain ⟨cur', h'⟩ := type_setCell ⟨g', o, none⟩ v h
    exact type_setCells r (o + 1) h'
theorem grown_setCells {a : World} {g : Nat} : ∀ (vs : List Value) (o : Nat) (b : World), a.grownBy b (some g) → a.grownBy (b.setCells g o vs) (some g)
  | [], _, _, h => h
  | v :: r, o, b, h => grown_setCells r (o + 1) _ (grown_setCell h o v)

section
variable {P : Program} {w : World} {ops : Array Oper} {rest : List Oper} {o : Oper} {a : Act} {Q : Exit → Act → World → Prop}
/-- 'out = append(out, x...)', out such a tail, x any bytes. -/
theorem wpList_append_tail {t : TypeId} (T : IsBytes P t 5) (hgd : o.guard = none) (s x : Operand) (ho : o.op = .call { callee := .builtin .append, args := #[s, x], argTypes := #[t, t] })
    (B : Nat) (v : Value) (l : List UInt8) (hs : a.eval s = v) (htl : Tl w B v l) (hBw : B ≤ w.heap.size) (A : Option Addr) (m : List UInt8) (n c : Nat) (hx : a.eval x = .slice A n c) (hn : n = m.length) (hm : Bytes w A m)
    (hsz : l.length + m.length ≤ 1000000000)
    (h : ∀ v' w', Tl w' B v' (l ++ m) → w.grownBy w' v.ownBlock → (v'.ownBlock = v.ownBlock ∨ ∀ k, v'.ownBlock = some k → w.heap.size ≤ k) → wpList P ops Q rest (a.put o.dst v') w') : wpList P ops Q (o :: rest) a w := by
  obtain ⟨i, hi, hz0, hz1, hz2⟩ := info_parts T.info
  subst hn
  rcases htl with ⟨rfl, rfl⟩ | ⟨g, off, cap, rfl, hB, hg, h1, h2, hty, hspare, hc⟩
  · refine wpList_append_bytes T hgd s x ho w _ [] hs (Own.nil _ _ _) A m m.length c hx rfl hm (by simp; omega) (Below.refl _ _) fun v' w' hown hg hb => ?_
    exact h v' w' ((Own.tail hown).lower hBw) hg (.inr fun k hk => hown.blk hk)
  · refine wpList_plain hgd fun K hK => ?_
    by_cases hroom : l.length + m.length ≤ cap
    · by_cases hm0 : m = []
      · subst hm0
        have hrun : (Builtin.append_ #[t, t] o.type #[.slice (some ⟨g, off, none⟩) l.length cap, .slice A 0 c]).run P w = .ok (.slice (some ⟨g, off, none⟩) l.length cap) w := by
          cases A with
          | none => simp [Builtin.append_, run_underlying T.ht, sizeOf, typeInfo, hi, Builtin.lenOf, Builtin.firstCells, h1, storeCells]
          | some ad =>
            have hr := run_append_room_cells (P := P) w t o.type 5 i T.ht hi g off l.length cap ad 0 c [] (by simp) (by simp) (by simp) (by omega) (by simp) (by simp)
            simpa [World.setCells] using hr
        unfold Oper.wp
        have hx' : a.eval x = .slice A 0 c := hx
        simp [execOp, ho, resolve, invoke, builtin, hs, hx', hrun, Result.andThen]
        exact hK _ _ (h _ w (by rw [List.append_nil]; exact .inr ⟨g, off, cap, rfl, hB, hg, h1, h2, hty, hspare, hc⟩) (World.grownBy.refl _ _) (.inl rfl))
      · obtain ⟨b', off', rfl, hb', hc'⟩ := hm hm0
        have hr := run_append_room_cells (P := P) w t o.type 5 i T.ht hi g off l.length cap ⟨b', off', none⟩ m.length c (m.map fun b => Value.int .u8 (b.toNat : Int)) (by simp [hz1]) (fun j u hu => by
          obtain ⟨hj, rfl⟩ := getElem?_cells hu
          rw [Addr.add_lit]
          exact hc' j hj) (cells_oneCell m) hroom (fun j hj => by rw [hz1, Nat.mul_one, Nat.add_assoc]; simp at hj; exact (hspare _ (by omega)).1) (fun j hj => by rw [hz1, Nat.mul_one, Nat.add_assoc]; simp at hj; exact (hspare _ (by omega)).2)
        rw [hz1, Nat.mul_one] at hr
        unfold Oper.wp
        simp [execOp, ho, resolve, invoke, builtin, hs, hx, hr, Result.andThen]
        refine hK _ _ (h _ _ (.inr ⟨g, off, cap, by rw [List.length_append], hB, ?_, by rw [List.length_append]; exact hroom, h2, (by obtain ⟨cur, fr, hcu⟩ := hty; exact type_setCells _ _ hcu), fun j hj => ?_, fun j hj => ?_⟩) (grown_setCells _ _ _ (grown_refl _ _)) (.inl rfl))
        · exact Nat.lt_of_lt_of_le hg (grown_setCells (a := w) (g := g) _ _ _ (grown_refl w _)).size
        · refine ⟨?_, by rw [World.frozen?_setCells]; exact (hspare j hj).2⟩
          by_cases hin : l.length ≤ j ∧ j < l.length + m.length
          · obtain ⟨q, rfl⟩ : ∃ q, j = l.length + q := ⟨j - l.length, by omega⟩
            rw [← Nat.add_assoc, World.cell?_setCells_in g _ _ w (fun j' hj' => by rw [Nat.add_assoc]; simp at hj'; exact (hspare _ (by omega)).1) q (by simp; omega)]
            rfl
          · rw [World.cell?_setCells_out g _ _ w ⟨g, off + j, none⟩ (fun _ _ => by simp; omega)]
            exact (hspare j hj).1
        · rw [List.length_append] at hj
          by_cases hjl : j < l.length
          · rw [World.cell?_setCells_out g _ _ w ⟨g, off + j, none⟩ (fun _ _ => by simp; omega), hc j hjl]
            simp [List.getD, List.getElem?_append_left hjl]
          · obtain ⟨q, rfl⟩ : ∃ q, j = l.length + q := ⟨j - l.length, by omega⟩
            have hq : q < m.length := by omega
            rw [← Nat.add_assoc, World.cell?_setCells_in g _ _ w (fun j' hj' => by rw [Nat.add_assoc]; simp at hj'; exact (hspare _ (by omega)).1) q (by simp; omega)]
            simp [List.getD, hq]
    · have hm0 : m ≠ [] := by intro e; subst e; simp at hroom; omega
      obtain ⟨b', off', rfl, hb', hc'⟩ := hm hm0
      obtain ⟨v', w', hr, hown, hgr⟩ : ∃ v' w', (Builtin.append_ #[t, t] o.type #[.slice (some ⟨g, off, none⟩) l.length cap, .slice (some ⟨b', off', none⟩) m.length c]).run P w = .ok v' w' ∧ Own w' w.heap.size 5 v' (l ++ m) ∧ w.grownBy w' none := by
        obtain ⟨v', w', r1, r2, r3⟩ := run_append_arg_grows (P := P) (w := w) t o.type 5 i (.int .u8 0) 1 1 T.ht hi hz0 hz1 hz2 rfl (by decide) ⟨g, off, none⟩ l.length cap (l.map fun b => Value.int .u8 (b.toNat : Int)) (by simp)
          (fun j u hu => by
            obtain ⟨hj, rfl⟩ := getElem?_cells hu
            rw [Addr.add_lit]
            exact hc j hj) ⟨b', off', none⟩ m.length c (m.map fun b => Value.int .u8 (b.toNat : Int)) (by simp)
          (fun j u hu => by
            obtain ⟨hj, rfl⟩ := getElem?_cells hu
            rw [Addr.add_lit]
            exact hc' j hj) (by omega) (by unfold maxLen; omega) (by omega)
        refine ⟨v', w', r1, ?_, r3⟩
        unfold Own
        rw [List.length_append, List.map_append]
        exact r2
      unfold Oper.wp
      simp [execOp, ho, resolve, invoke, builtin, hs, hx, hr, Result.andThen]
      exact hK _ _ (h _ _ ((Own.tail hown).lower hBw) ⟨hgr.os, hgr.tape, hgr.output, hgr.size, fun k hk _ => hgr.block k hk (by simp)⟩ (.inr fun k hk => hown.blk hk))
end
end Go.Proofs.Ytgbialnnfadlgaa

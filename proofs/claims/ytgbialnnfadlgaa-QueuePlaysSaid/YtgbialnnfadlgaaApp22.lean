/-
  append to such a tail in a region that draws its order.
-/
import Derived.Test.YtgbialnnfadlgaaTail7
namespace Go.Proofs.Ytgbialnnfadlgaa
set_option linter.unusedVariables false
set_option linter.unusedSimpArgs false
open Go.RowKit

section
variable {P : Program} {w : World} {ops : Array Oper} {o : Oper} {a : Act} {Q : Exit → Act → World → Prop}
/-- 'out = append(out, x...)', out such a tail, x any bytes. -/
theorem step_append_tail {t : TypeId} {K : Act → World → Prop} {E : Prop} (T : IsBytes P t 5) (hgd : o.guard = none) (s x : Operand) (ho : o.op = .call { callee := .builtin .append, args := #[s, x], argTypes := #[t, t] })
    (B : Nat) (v : Value) (l : List UInt8) (hs : a.eval s = v) (htl : Tl w B v l) (hBw : B ≤ w.heap.size) (A : Option Addr) (m : List UInt8) (n c : Nat) (hx : a.eval x = .slice A n c) (hn : n = m.length) (hm : Bytes w A m)
    (hsz : l.length + m.length ≤ 1000000000)
    (h : ∀ v' w', Tl w' B v' (l ++ m) → w.grownBy w' v.ownBlock → (v'.ownBlock = v.ownBlock ∨ ∀ k, v'.ownBlock = some k → w.heap.size ≤ k) → K (a.put o.dst v') w') : if Region.wanted o (yielded ops a.tmps) = true then Oper.wp P o a w K Q else E := by
  have hwd : Region.wanted o (yielded ops a.tmps) = true := by simp [Region.wanted, hgd]
  rw [if_pos hwd]
  obtain ⟨i, hi, hz0, hz1, hz2⟩ := info_parts T.info
  subst hn
  rcases htl with ⟨rfl, rfl⟩ | ⟨g, off, cap, rfl, hB, hg, h1, h2, hty, hspare, hc⟩
  · refine wp_append_bytes T s x ho w _ [] hs (Own.nil _ _ _) A m m.length c hx rfl hm (by simp; omega) (Below.refl _ _) fun v' w' hown hg hb => ?_
    exact h v' w' ((Own.tail hown).lower hBw) hg (.inr fun k hk => hown.blk hk)
  · by_cases hroom : l.length + m.length ≤ cap
    · by_cases hm0 : m = []
      · subst hm0
        have hrun : (Builtin.append_ #[t, t] o.type #[.slice (some ⟨g, off, none⟩) l.length cap, .slice A 0 c]).run P w = .ok (.slice (some ⟨g, off, none⟩) l.length cap) w := by
          cases A with
          | none => simp [Builtin.append_, run_underlying T.ht, sizeOf, typeInfo, hi, Builtin.lenOf, Builtin.firstCells, h1, storeCells]
          | some ad =>
            have hr := run_append_room_cells (P := P) w t o.type 5 i T.ht hi g off l.length cap ad 0 c [] (by simp) (by simp) (by simp) (by omega) (by simp) (by simp)
            simpa [World.setCells] using hr
        unfold Oper.wp
        have hx' : a.eval x = .slice A 0 c := hx
        simp [execOp, ho, resolve, invoke, builtin, hs, hx', hrun, Result.andThen]
        exact h _ w (by rw [List.append_nil]; exact .inr ⟨g, off, cap, rfl, hB, hg, h1, h2, hty, hspare, hc⟩) (World.grownBy.refl _ _) (.inl rfl)
      · obtain ⟨b', off', rfl, hb', hc'⟩ := hm hm0
        have hr := run_append_room_cells (P := P) w t o.type 5 i T.ht hi g off l.length cap ⟨b', off', none⟩ m.length c (m.map fun b => Value.int .u8 (b.toNat : Int)) (by simp [hz1]) (fun j u hu => by
          obtain ⟨hj, rfl⟩ := getElem?_cells hu
          rw [Addr.add_lit]
          exact hc' j hj) (cells_oneCell m) hroom (fun j hj => by rw [hz1, Nat.mul_one, Nat.add_assoc]; simp at hj; exact (hspare _ (by omega)).1) (fun j hj => by rw [hz1, Nat.mul_one, Nat.add_assoc]; simp at hj; exact (hspare _ (by omega)).2)
        rw [hz1, Nat.mul_one] at hr
        unfold Oper.wp
        simp [execOp, ho, resolve, invoke, builtin, hs, hx, hr, Result.andThen]
        refine h _ _ (.inr ⟨g, off, cap, by rw [List.length_append], hB, ?_, by rw [List.length_append]; exact hroom, h2, (by obtain ⟨cur, fr, hcu⟩ := hty; exact type_setCells _ _ hcu), fun j hj => ?_, fun j hj => ?_⟩) (grown_setCells _ _ _ (grown_refl _ _)) (.inl rfl)
        · exact Nat.lt_of_lt_of_le hg (grown_setCells (a := w) (g := g) _ _ _ (grown_refl w _)).size
        · refine ⟨?_, by rw [World.frozen?_setCells]; exact (hspare j hj).2⟩
          by_cases hin : l.length ≤ j ∧ j < l.length + m.length
          · obtain ⟨q, rfl⟩ : ∃ q, j = l.length + q := ⟨j - l.length, by omega⟩
            rw [← Nat.add_assoc, World.cell?_setCells_in g _ _ w (fun j' hj' => by rw [Nat.add_assoc]; simp at hj'; exact (hspare _ (by omega)).1) q (by simp; omega)]
            rfl
          · rw [World.cell?_setCells_out g _ _ w ⟨g, off + j, none⟩ (fun _ _ => by simp; omega)]
            exact (hspare j hj).1
        · rw [List.length_append] at hj
          by_cases hjl : j < l.length
          · rw [World.cell?_setCells_out g _ _ w ⟨g, off + j, none⟩ (fun _ _ => by simp; omega), hc j hjl]
            simp [List.getD, List.getElem?_append_left hjl]
          · obtain ⟨q, rfl⟩ : ∃ q, j = l.length + q := ⟨j - l.length, by omega⟩
            have hq : q < m.length := by omega
            rw [← Nat.add_assoc, World.cell?_setCells_in g _ _ w (fun j' hj' => by rw [Nat.add_assoc]; simp at hj'; exact (hspare _ (by omega)).1) q (by simp; omega)]
            simp [List.getD, hq]
    · have hm0 : m ≠ [] := by intro e; subst e; simp at hroom; omega
      obtain ⟨b', off', rfl, hb', hc'⟩ := hm hm0
      obtain ⟨v', w', hr, hown, hgr⟩ : ∃ v' w', (Builtin.append_ #[t, t] o.type #[.slice (some ⟨g, off, none⟩) l.length cap, .slice (some ⟨b', off', none⟩) m.length c]).run P w = .ok v' w' ∧ Own w' w.heap.size 5 v' (l ++ m) ∧ w.grownBy w' none := by
        obtain ⟨v', w', r1, r2, r3⟩ := run_append_arg_grows (P := P) (w := w) t o.type 5 i (.int .u8 0) 1 1 T.ht hi hz0 hz1 hz2 rfl (by decide) ⟨g, off, none⟩ l.length cap (l.map fun b => Value.int .u8 (b.toNat : Int)) (by simp)
          (fun j u hu => by
            obtain ⟨hj, rfl⟩ := getElem?_cells hu
            rw [Addr.add_lit]
            exact hc j hj) ⟨b', off', none⟩ m.length c (m.map fun b => Value.int .u8 (b.toNat : Int)) (by simp)
          (fun j u hu => by
            obtain ⟨hj, rfl⟩ := getElem?_cells hu
            rw [Addr.add_lit]
            exact hc' j hj) (by omega) (by unfold maxLen; omega) (by omega)
        refine ⟨v', w', r1, ?_, r3⟩
        unfold Own
        rw [List.length_append, List.map_append]
        exact r2
      unfold Oper.wp
      simp [execOp, ho, resolve, invoke, builtin, hs, hx, hr, Result.andThen]
      exact h _ _ ((Own.tail hown).lower hBw) ⟨hgr.os, hgr.tape, hgr.output, hgr.size, fun k hk _ => hgr.block k hk (by simp)⟩ (.inr fun k hk => hown.blk hk)
end
end Go.Proofs.Ytgbialnnfadlgaa

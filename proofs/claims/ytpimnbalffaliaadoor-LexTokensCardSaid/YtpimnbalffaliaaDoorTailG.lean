/-
  The tail of a row of one-cell values of a call's own, that is appended to and cut at its head; no program stands here.
-/
import Derived.Test.YtpimnbalffaliaaDoorBase
import Derived.ArgAppend
namespace Go.Proofs.YtpimnbalffaliaaDoor
set_option linter.unusedVariables false
set_option linter.unusedSimpArgs false
open Go.RowKit

theorem cell_otherG {w : World} {g i j : Nat} {u : Value} (h : j ≠ i) : (w.setCell ⟨g, i, none⟩ u).cell? ⟨g, j, none⟩ = w.cell? ⟨g, j, none⟩ := by
  have e : (⟨g, i, none⟩ : Addr) ≠ ⟨g, j, none⟩ := fun e => h (by injection e with _ e2; exact e2.symm)
  first | exact World.cell?_setCell_other _ _ _ _ e | exact World.cell?_setCell_other _ _ _ e | exact World.cell?_setCell_other _ _ e | exact World.cell?_setCell_other _ e
/-- The value v is a slice in a block from B on, with the values l; what lies behind them, up to its capacity, may be written. -/
def TlG (w : World) (B e : Nat) (v : Value) (l : List Value) : Prop :=
  (v = .slice none 0 0 ∧ l = []) ∨ ∃ g off c, v = .slice (some ⟨g, off, none⟩) l.length c ∧ B ≤ g ∧ g < w.heap.size ∧ l.length ≤ c ∧ c ≤ maxLen ∧ (∃ cur fr, w.heap[g]? = some (.cells cur e fr)) ∧
    (∀ j, j < c → (w.cell? ⟨g, off + j, none⟩).isSome = true ∧ w.frozen? ⟨g, off + j, none⟩ = false) ∧ ∀ j u, l[j]? = some u → w.cell? ⟨g, off + j, none⟩ = some u
section
variable {w w' : World} {B e : Nat} {v : Value} {l : List Value}
theorem TlG.nil (w : World) (B e : Nat) : TlG w B e (.slice none 0 0) [] := .inl ⟨rfl, rfl⟩
theorem TlG.form (h : TlG w B e v l) : ∃ A c, v = .slice A l.length c ∧ l.length ≤ c ∧ c ≤ maxLen ∧ (∀ k, k < l.length → ∃ g off, A = some ⟨g, off, none⟩) ∧ ∀ g off, A = some ⟨g, off, none⟩ → B ≤ g ∧ (∀ j u, l[j]? = some u → w.cell? ⟨g, off + j, none⟩ = some u) ∧ ∀ j, j < l.length → w.frozen? ⟨g, off + j, none⟩ = false := by
  rcases h with ⟨rfl, rfl⟩ | ⟨g, off, c, rfl, hB, hg, h1, h2, hty, hs, hc⟩
  · exact ⟨none, 0, rfl, Nat.le_refl _, Nat.zero_le _, fun k hk => by simp at hk, fun g off h => by cases h⟩
  · exact ⟨_, c, rfl, h1, h2, fun _ _ => ⟨g, off, rfl⟩, fun g' off' h => by cases h; exact ⟨hB, hc, fun j hj => (hs j (by omega)).2⟩⟩
theorem TlG.cell (h : TlG w B e v l) {k : Nat} {u : Value} (hu : l[k]? = some u) : ∃ g off c, v = .slice (some ⟨g, off, none⟩) l.length c ∧ B ≤ g ∧ g < w.heap.size ∧ l.length ≤ c ∧ c ≤ maxLen ∧ w.cell? ⟨g, off + k, none⟩ = some u ∧ w.frozen? ⟨g, off + k, none⟩ = false := by
  rcases h with ⟨rfl, rfl⟩ | ⟨g, off, c, rfl, hB, hg, h1, h2, hty, hs, hc⟩
  · simp at hu
  · have hk : k < l.length := (List.getElem?_eq_some_iff.1 hu).1
    exact ⟨g, off, c, rfl, hB, hg, h1, h2, hc k u hu, (hs k (by omega)).2⟩
theorem TlG.same (h : TlG w B e v l) (hz : w.heap.size ≤ w'.heap.size) (hb : ∀ g, v.ownBlock = some g → w'.heap[g]? = w.heap[g]?) : TlG w' B e v l := by
  rcases h with ⟨rfl, rfl⟩ | ⟨g, off, c, rfl, hB, hg, h1, h2, hty, hs, hc⟩
  · exact .inl ⟨rfl, rfl⟩
  · have e := hb g rfl
    refine .inr ⟨g, off, c, rfl, hB, by omega, h1, h2, (by rw [e]; exact hty), fun j hj => ?_, fun j u hu => ?_⟩
    · rw [World.cell?_of_block (a := ⟨g, off + j, none⟩) e, World.frozen?_of_block (a := ⟨g, off + j, none⟩) e]
      exact hs j hj
    · rw [World.cell?_of_block (a := ⟨g, off + j, none⟩) e]
      exact hc j u hu
theorem TlG.lt (h : TlG w B e v l) {g : Nat} (hg : v.ownBlock = some g) : B ≤ g ∧ g < w.heap.size := by
  rcases h with ⟨rfl, rfl⟩ | ⟨g', off, c, rfl, hB, hg', _⟩
  · cases hg
  · cases hg; exact ⟨hB, hg'⟩
theorem TlG.below (h : TlG w B e v l) (hb : Below w.heap.size w w') : TlG w' B e v l := h.same hb.size fun g hg => hb.block g (h.lt hg).2
theorem TlG.lower {B' : Nat} (h : TlG w B e v l) (hB : B' ≤ B) : TlG w B' e v l := by
  rcases h with h | ⟨g, off, c, r, hg, q⟩
  · exact .inl h
  · exact .inr ⟨g, off, c, r, Nat.le_trans hB hg, q⟩
theorem TlG.ofOwn (h : w.ownsRow B e 1 v l.length l) : TlG w B e v l := by
  rcases h.2 with ⟨rfl, hn⟩ | ⟨g, cap, cur, rfl, hbg, hg, hnc, hcm, hcs, htake⟩
  · exact .inl ⟨rfl, List.eq_nil_of_length_eq_zero hn⟩
  · have hlt := (Array.getElem?_eq_some_iff.1 hg).1
    refine .inr ⟨g, 0, cap, rfl, hbg, hlt, hnc, hcm, ⟨cur, (0, 0), hg⟩, fun j hj => ⟨?_, ?_⟩, fun j u hu => ?_⟩
    · rw [cell_of_row w g _ cur _ (0, 0) hg]
      rw [Array.getElem?_eq_getElem (by omega)]; rfl
    · exact frozen_of_row w g _ cur _ hg
    · have := World.ownsRow.cells h (g := g) rfl j u hu
      rwa [Addr.add_lit] at this
/-- A cut 's[k:]', as the walk writes its address. -/
theorem TlG.drop {A : Option Addr} {n c k : Nat} (h : TlG w B e (.slice A n c) l) (hk : k ≤ l.length) : TlG w B e (.slice (if c = k then A else A.map (·.add k)) (n - k) (c - k)) (l.drop k) := by
  rcases h with ⟨h1, rfl⟩ | ⟨g, off, c', h1, hB, hg, h2, h3, hty, hs, hc⟩
  · simp only [Value.slice.injEq] at h1
    obtain ⟨rfl, rfl, rfl⟩ := h1
    obtain rfl : k = 0 := by simpa using hk
    exact .inl ⟨by simp, rfl⟩
  · simp only [Value.slice.injEq] at h1
    obtain ⟨rfl, rfl, rfl⟩ := h1
    by_cases hck : c = k
    · subst hck
      rw [if_pos rfl]
      have hlk : l.length = c := by omega
      refine .inr ⟨g, off, 0, by rw [List.length_drop]; simp, hB, hg, by simp; omega, Nat.zero_le _, hty, fun j hj => by omega, fun j u hj => ?_⟩
      rw [List.drop_eq_nil_of_le (by omega)] at hj
      simp at hj
    · rw [if_neg hck]
      refine .inr ⟨g, off + k, c - k, ?_, hB, hg, by rw [List.length_drop]; omega, by omega, hty, fun j hj => ?_, fun j u hj => ?_⟩
      · rw [List.length_drop]; simp [Addr.add_lit]
      · rw [Nat.add_assoc]; exact hs (k + j) (by omega)
      · rw [List.getElem?_drop] at hj
        rw [Nat.add_assoc]
        exact hc (k + j) u hj
/-- One of its values is written anew. -/
theorem TlG.set {A : Option Addr} {n c k g off : Nat} (h : TlG w B e (.slice A n c) l) (hA : A = some ⟨g, off, none⟩) (hk : k < l.length) (u : Value) : TlG (w.setCell ⟨g, off + k, none⟩ u) B e (.slice A n c) (l.set k u) ∧ w.grownBy (w.setCell ⟨g, off + k, none⟩ u) (some g) := by
  refine ⟨?_, grown_setCell (grown_refl _ _) _ _⟩
  rcases h with ⟨h1, rfl⟩ | ⟨g', off', c', h1, hB, hg, h2, h3, hty, hs, hc⟩
  · simp at hk
  · simp only [Value.slice.injEq] at h1
    obtain ⟨rfl, rfl, rfl⟩ := h1
    cases hA
    refine .inr ⟨g, off, c, by simp, hB, by simpa [World.setCell] using hg, by simpa using h2, h3, ?_, fun j hj => ?_, fun j x hj => ?_⟩
    · obtain ⟨cur, fr, hcu⟩ := hty
      simp only [World.setCell, Array.getElem?_modify, if_pos, hcu, Option.map_some]
      exact ⟨_, _, rfl⟩
    · refine ⟨?_, by rw [World.frozen?_setCell]; exact (hs j hj).2⟩
      by_cases hjk : j = k
      · subst hjk
        rw [World.cell?_setCell_same' _ _ _ (hs j hj).1]; rfl
      · rw [cell_otherG (by omega)]
        exact (hs j hj).1
    · by_cases hjk : j = k
      · subst hjk
        rw [List.getElem?_set_self hk] at hj
        cases hj
        exact World.cell?_setCell_same' _ _ _ (hs j (by omega)).1
      · rw [List.getElem?_set_ne (Ne.symm hjk)] at hj
        rw [cell_otherG (by omega)]
        exact hc j x hj
end
theorem typeG_setCell {w : World} {g e : Nat} {cur : Array Value} {fr : Nat × Nat} (p : Addr) (u : Value) (h : w.heap[g]? = some (.cells cur e fr)) : ∃ cur', (w.setCell p u).heap[g]? = some (.cells cur' e fr) := by
  by_cases hp : p.block = g
  · subst hp
    simp only [World.setCell, Array.getElem?_modify, if_pos, h, Option.map_some]
    exact ⟨_, rfl⟩
  · exact ⟨cur, (Below.heap_setCell w p u g (fun e => hp e.symm)).trans h⟩

/-- t is a slice of e's, each one cell of nb bytes. -/
structure IsOnes (P : Program) (t e : TypeId) (z : Value) (nb : Nat) : Prop where
  ht : P.underlying t = some (.slice e)
  info : (P.info? e).map (fun i => (i.zero, i.size, i.bytes)) = some (some z, 1, nb)
  hz : z.cells.size = 1
  nb16 : nb ≤ 16

section
variable {P : Program} {w : World} {ops : Array Oper} {rest : List Oper} {o : Oper} {a : Act} {Q : Exit → Act → World → Prop}
/-- 'out = append(out, x)', out such a tail: as a run. -/
theorem run_append_tailG {t e : TypeId} {z : Value} {nb : Nat} (T : IsOnes P t e z nb) (ty : TypeId)
    (B : Nat) (v : Value) (l : List Value) (htl : TlG w B e v l) (hBw : B ≤ w.heap.size) (ad : Addr) (c : Nat) (u : Value) (hu : w.cell? ad = some u) (h1u : u.oneCell' = true)
    (hsz : l.length ≤ 1000000000) :
    ∃ v' w', (Builtin.append_ #[t, t] ty #[v, .slice (some ad) 1 c]).run P w = .ok v' w' ∧ TlG w' B e v' (l ++ [u]) ∧ w.grownBy w' v.ownBlock ∧ (v'.ownBlock = v.ownBlock ∨ ∀ k, v'.ownBlock = some k → w.heap.size ≤ k) := by
  obtain ⟨i, hi, hz0, hz1, hz2⟩ := info_parts T.info
  have nb := T.nb16
  have hnews : ∀ j x, [u][j]? = some x → w.cell? (ad.add j) = some x := by
    intro j x hx
    cases j with
    | zero => simp at hx; subst hx; simpa [Addr.add] using hu
    | succ j => simp at hx
  have hb : (l.length + 1) * i.bytes ≤ 140737488355328 := by
    rw [hz2]
    exact Nat.le_trans (Nat.mul_le_mul_left _ T.nb16) (by omega)
  rcases htl with ⟨rfl, rfl⟩ | ⟨g, off, cap, rfl, hB, hg, h1, h2, hty, hspare, hc⟩
  · obtain ⟨v', w', hr, k2, k3, k4⟩ := run_append_own (P := P) w w.heap.size t ty e i z 1 _ T.ht hi hz0 hz1 rfl T.hz (by decide) (.slice none 0 0) 0 [] (World.ownsRow_nil w _ e 1) ad 1 c [u] (by simp) hnews (by simpa using h1u) (by unfold maxLen; omega) (by simpa using hb) (Nat.le_refl _)
    exact ⟨v', w', hr, (TlG.ofOwn (l := [u]) (by simpa using k2)).lower hBw, k3, .inr fun k hk => (k2.lt k hk).1⟩
  · by_cases hroom : l.length + 1 ≤ cap
    · have hr := run_append_room_cells (P := P) w t ty e i T.ht hi g off l.length cap ad 1 c [u] (by simp [hz1]) hnews (by simpa using h1u) hroom (fun j hj => by rw [hz1, Nat.mul_one, Nat.add_assoc]; simp at hj; subst hj; exact (hspare _ (by omega)).1) (fun j hj => by rw [hz1, Nat.mul_one, Nat.add_assoc]; simp at hj; subst hj; exact (hspare _ (by omega)).2)
      rw [hz1, Nat.mul_one] at hr
      simp only [World.setCells] at hr
      refine ⟨_, _, hr, .inr ⟨g, off, cap, by simp, hB, by simpa [World.setCell] using hg, by simpa using hroom, h2, ?_, fun j hj => ?_, fun j x hj => ?_⟩, grown_setCell (grown_refl _ _) _ _, .inl rfl⟩
      · obtain ⟨cur, fr, hcu⟩ := hty
        obtain ⟨cur', h'⟩ := typeG_setCell ⟨g, off + l.length, none⟩ u hcu
        exact ⟨cur', fr, h'⟩
      · refine ⟨?_, by rw [World.frozen?_setCell]; exact (hspare j hj).2⟩
        by_cases hjk : j = l.length
        · subst hjk
          rw [World.cell?_setCell_same' _ _ _ (hspare _ hj).1]; rfl
        · rw [cell_otherG (by omega)]
          exact (hspare j hj).1
      · by_cases hjl : j < l.length
        · rw [List.getElem?_append_left hjl] at hj
          rw [cell_otherG (by omega)]
          exact hc j x hj
        · rw [List.getElem?_append_right (by omega)] at hj
          by_cases h0 : j - l.length = 0
          · have hjk : j = l.length := by omega
            subst hjk
            simp at hj
            subst hj
            exact World.cell?_setCell_same' _ _ _ (hspare _ (by omega)).1
          · obtain ⟨q, hq⟩ := Nat.exists_eq_succ_of_ne_zero h0
            rw [hq] at hj
            simp at hj
    · obtain ⟨v', w', r1, r2, r3⟩ := run_append_arg_grows (P := P) (w := w) t ty e i z 1 _ T.ht hi hz0 hz1 rfl T.hz (by decide) ⟨g, off, none⟩ l.length cap l (by simp)
        (fun j x hx => by rw [Addr.add_lit]; exact hc j x hx) ad 1 c [u] (by simp) hnews (by omega) (by unfold maxLen; omega) hb
      refine ⟨v', w', r1, (TlG.ofOwn (l := l ++ [u]) (by simpa using r2)).lower hBw, ⟨r3.os, r3.tape, r3.output, r3.size, fun k hk _ => r3.block k hk (by simp)⟩, .inr fun k hk => (r2.lt k hk).1⟩
/-- .. in the walk's list. -/
theorem wpList_append_tailG {t e : TypeId} {z : Value} {nb : Nat} (T : IsOnes P t e z nb) (hgd : o.guard = none) (s x : Operand) (ho : o.op = .call { callee := .builtin .append, args := #[s, x], argTypes := #[t, t] })
    (B : Nat) (v : Value) (l : List Value) (hs : a.eval s = v) (htl : TlG w B e v l) (hBw : B ≤ w.heap.size) (ad : Addr) (c : Nat) (u : Value) (hx : a.eval x = .slice (some ad) 1 c) (hu : w.cell? ad = some u) (h1u : u.oneCell' = true)
    (hsz : l.length ≤ 1000000000)
    (h : ∀ v' w', TlG w' B e v' (l ++ [u]) → w.grownBy w' v.ownBlock → (v'.ownBlock = v.ownBlock ∨ ∀ k, v'.ownBlock = some k → w.heap.size ≤ k) → wpList P ops Q rest (a.put o.dst v') w') : wpList P ops Q (o :: rest) a w := by
  obtain ⟨v', w', hr, r2, r3, r4⟩ := run_append_tailG (P := P) T o.type B v l htl hBw ad c u hu h1u hsz
  refine wpList_plain hgd fun K hK => ?_
  unfold Oper.wp
  simp [execOp, ho, resolve, invoke, builtin, hs, hx, hr, Result.andThen]
  exact hK _ _ (h _ _ r2 r3 r4)
end
end Go.Proofs.YtpimnbalffaliaaDoor

/-
  Slices of a call's own: numbers of four bytes, strings, segments; the walk's laws on appending to them.
-/
import Derived.Test.YtpjhidicgclmbaaSeg
import Derived.WalkSpells
namespace Go.Proofs.Ytpjhidicgclmbaa
set_option linter.unusedVariables false
open Go.RowKit

/-- t is a slice of e's in P, each of so many cells and bytes. -/
structure IsRow (P : Program) (t e : TypeId) (z : Value) (size bytes : Nat) : Prop where
  ht : P.underlying t = some (.slice e)
  info : (P.info? e).map (fun i => (i.zero, i.size, i.bytes)) = some (some z, size, bytes)
  hzs : z.cells.size = size
  pos : 0 < size
  some' : 0 < bytes

section
variable {P : Program} {w : World} {ops : Array Oper} {rest : List Oper} {o : Oper} {a : Act} {Q : Exit → Act → World → Prop}
/-- 'out = append(out, x...)', out the call's own, x any cells that are there: as one operation, in the walk's list. -/
theorem wp_app {t e : TypeId} {z : Value} {size bytes : Nat} {K : Act → World → Prop} (T : IsRow P t e z size bytes) (s x : Operand) (ho : o.op = .call { callee := .builtin .append, args := #[s, x], argTypes := #[t, t] })
    (w0 : World) (v : Value) (n : Nat) (xs : List Value) (hs : a.eval s = v) (hown : w.ownsRow w0.heap.size e size v n xs) (A : Option Addr) (m c : Nat) (news : List Value) (hx : a.eval x = .slice A m c)
    (hl : news.length = m * size) (hnews : m ≠ 0 → ∃ ad, A = some ad ∧ ∀ j u, news[j]? = some u → w.cell? (ad.add j) = some u) (h1 : ∀ u ∈ news, u.oneCell' = true)
    (hsz : (n + m) * bytes ≤ 140737488355328) (hb : Below w0.heap.size w0 w)
    (h : ∀ v' w', w'.ownsRow w0.heap.size e size v' (n + m) (xs ++ news) → w.grownBy w' v.ownBlock → Below w0.heap.size w0 w' → K (a.put o.dst v') w') : o.wp P a w K Q := by
  obtain ⟨i, hi, hz0, hz1, hz2⟩ := info_parts T.info
  have h47 : n + m ≤ 140737488355328 := Nat.le_trans (Nat.le_mul_of_pos_right _ T.some') hsz
  by_cases hm0 : m = 0
  · subst hm0
    obtain rfl : news = [] := List.eq_nil_of_length_eq_zero (by simpa using hl)
    cases A with
    | none =>
      have hrun : (Builtin.append_ #[t, t] o.type #[v, .slice none 0 c]).run P w = .ok v w := by
        rcases hown.2 with ⟨rfl, _⟩ | ⟨g, cap, cur, rfl, _, _, hnc, _⟩
        · simp [Builtin.append_, run_underlying T.ht, sizeOf, typeInfo, hi, Builtin.lenOf, Builtin.firstCells]
        · simp [Builtin.append_, run_underlying T.ht, sizeOf, typeInfo, hi, Builtin.lenOf, Builtin.firstCells, hnc, storeCells]
      unfold Oper.wp
      have hx' : a.eval x = .slice none 0 c := hx
      simp [execOp, ho, resolve, invoke, builtin, hs, hx', hrun, Result.andThen]
      exact h v w (by simpa using hown) (World.grownBy.refl _ _) hb
    | some ad =>
      refine wp_append_own w s x t ho w0.heap.size e i z size bytes T.ht hi hz0 hz1 hz2 T.hzs T.pos v n xs hs hown ad 0 c [] hx (by simp) (by simp) (by simp) (by unfold maxLen; omega) hsz hb.size ?_
      intro v' w' ho' hg _
      exact h v' w' ho' hg (hb.grown hg hb.size (fun k hk => (hown.lt k hk).1))
  · obtain ⟨ad, rfl, hc⟩ := hnews hm0
    refine wp_append_own w s x t ho w0.heap.size e i z size bytes T.ht hi hz0 hz1 hz2 T.hzs T.pos v n xs hs hown ad m c news hx hl hc h1 (by unfold maxLen; omega) hsz hb.size ?_
    intro v' w' ho' hg _
    exact h v' w' ho' hg (hb.grown hg hb.size (fun k hk => (hown.lt k hk).1))
theorem wpList_app {t e : TypeId} {z : Value} {size bytes : Nat} (T : IsRow P t e z size bytes) (hgd : o.guard = none) (s x : Operand) (ho : o.op = .call { callee := .builtin .append, args := #[s, x], argTypes := #[t, t] })
    (w0 : World) (v : Value) (n : Nat) (xs : List Value) (hs : a.eval s = v) (hown : w.ownsRow w0.heap.size e size v n xs) (A : Option Addr) (m c : Nat) (news : List Value) (hx : a.eval x = .slice A m c)
    (hl : news.length = m * size) (hnews : m ≠ 0 → ∃ ad, A = some ad ∧ ∀ j u, news[j]? = some u → w.cell? (ad.add j) = some u) (h1 : ∀ u ∈ news, u.oneCell' = true)
    (hsz : (n + m) * bytes ≤ 140737488355328) (hb : Below w0.heap.size w0 w)
    (h : ∀ v' w', w'.ownsRow w0.heap.size e size v' (n + m) (xs ++ news) → w.grownBy w' v.ownBlock → Below w0.heap.size w0 w' → wpList P ops Q rest (a.put o.dst v') w') : wpList P ops Q (o :: rest) a w :=
  wpList_plain hgd fun _ hK => wp_app T s x ho w0 v n xs hs hown A m c news hx hl hnews h1 hsz hb fun v' w' h1 h2 h3 => hK _ _ (h v' w' h1 h2 h3)
/-- 'out = append(out, x)': one element of some cells, that the walk lays in a block of its own. -/
theorem wpList_app_one {t e : TypeId} {z : Value} {size bytes : Nat} (T : IsRow P t e z size bytes) (hgd : o.guard = none) (s x : Operand) (ho : o.op = .call { callee := .builtin .append, args := #[s, x], argTypes := #[t, t] })
    (w0 : World) (v : Value) (n : Nat) (xs : List Value) (hs : a.eval s = v) (wr : World) (cs : List Value) (hw : w = wr.alloc (.cells cs.toArray e)) (hown : wr.ownsRow w0.heap.size e size v n xs) (hx : a.eval x = .slice (some ⟨wr.heap.size, 0, none⟩) 1 1)
    (hl : cs.length = size) (h1 : ∀ u ∈ cs, u.oneCell' = true)
    (hsz : (n + 1) * bytes ≤ 140737488355328) (hb : Below w0.heap.size w0 wr)
    (h : ∀ v' w', w'.ownsRow w0.heap.size e size v' (n + 1) (xs ++ cs) → wr.grownBy w' v.ownBlock → Below w0.heap.size w0 w' → wpList P ops Q rest (a.put o.dst v') w') : wpList P ops Q (o :: rest) a w := by
  subst hw
  refine wpList_app T hgd s x ho w0 v n xs hs (hown.alloc _) _ 1 1 cs hx (by simpa using hl) (fun _ => ⟨_, rfl, fun j u hu => ?_⟩) h1 hsz (hb.alloc hb.size _) fun v' w' ho' hg hb' => h v' w' ho' (grown_of_alloc hg) hb'
  rw [Addr.add_lit, (Blk.new wr e cs).cell]
  simpa using hu
end

theorem isU32 : IsRow Try.prog 29 27 (.int .u32 0) 1 4 := ⟨Try.underlying29, by kernel_rfl, rfl, by decide, by decide⟩
theorem isSeg : IsRow Try.prog 28 45 (.agg #[.int .i64 0, .slice none 0 0]) 2 32 := ⟨Try.underlying28, by kernel_rfl, rfl, by decide, by decide⟩

def cells32 (z : List Nat) : List Value := z.map fun (n : Nat) => Value.int .u32 (n : Int)
/-- The value v is a slice of the call's own (its block is B or later) that holds the numbers z. -/
def Own32 (w : World) (B : Nat) (v : Value) (z : List Nat) : Prop := w.ownsRow B 27 1 v z.length (cells32 z)
section
variable {w w' : World} {B : Nat} {v : Value} {z : List Nat}
theorem Own32.nil (w : World) (B : Nat) : Own32 w B (.slice none 0 0) [] := World.ownsRow_nil w B _ 1
theorem Own32.form (h : Own32 w B v z) : ∃ A c, v = .slice A z.length c ∧ z.length ≤ c ∧ c ≤ maxLen := by
  rcases h.2 with ⟨rfl, hn⟩ | ⟨g, cap, cur, rfl, hbg, hg, hnc, hcm, hcs, htake⟩
  · exact ⟨none, 0, by rw [hn], by omega, Nat.zero_le _⟩
  · exact ⟨_, cap, rfl, hnc, hcm⟩
theorem Own32.at {A : Option Addr} {n c : Nat} (h : Own32 w B (.slice A n c) z) : At32 w w.heap.size A z := by
  intro hl
  rcases h.2 with ⟨hv, hn⟩ | ⟨g, cap, cur, hv, hbg, hg, hnc, hcm, hcs, htake⟩
  · exact absurd (List.eq_nil_of_length_eq_zero hn) hl
  · have hA : A = some ⟨g, 0, none⟩ := by injection hv
    refine ⟨g, 0, hA, (Array.getElem?_eq_some_iff.1 hg).1, fun j hj => ?_⟩
    have hj2 := World.ownsRow.cells h (g := g) (by subst hA; rfl) j (.int .u32 ((z.getD j 0 : Nat) : Int)) (by simp [cells32, List.getD, hj])
    rw [Addr.add_lit] at hj2
    exact hj2
theorem Own32.alloc (h : Own32 w B v z) (o : Obj) : Own32 (w.alloc o) B v z := World.ownsRow.alloc h o
theorem Own32.below (h : Own32 w B v z) (hb : Below w.heap.size w w') : Own32 w' B v z :=
  World.ownsRow.kept h (row := none) ⟨hb.os, hb.tape, hb.output, hb.size, fun k hk _ => hb.block k hk⟩ (by cases v.ownBlock <;> simp)
theorem Own32.lower {B' : Nat} (h : Own32 w B v z) (hB : B' ≤ B) : Own32 w B' v z := by
  refine ⟨h.1, ?_⟩
  rcases h.2 with h2 | ⟨g, cap, cur, hv, hbg, r⟩
  · exact .inl h2
  · exact .inr ⟨g, cap, cur, hv, Nat.le_trans hB hbg, r⟩
theorem cells32_one (z : List Nat) : ∀ u ∈ cells32 z, u.oneCell' = true := by
  intro u hu
  obtain ⟨_, _, rfl⟩ := List.mem_map.1 hu
  rfl
theorem At32.news {A : Option Addr} (h : At32 w B A z) : z.length ≠ 0 → ∃ ad, A = some ad ∧ ∀ j u, (cells32 z)[j]? = some u → w.cell? (ad.add j) = some u := by
  intro hz
  obtain ⟨b, off, rfl, _, hc⟩ := h (by intro e; rw [e] at hz; simp at hz)
  refine ⟨_, rfl, fun j u hu => ?_⟩
  have hj : j < z.length := by simpa [cells32] using (List.getElem?_eq_some_iff.1 hu).1
  rw [Addr.add_lit, hc j hj]
  simp [cells32, hj] at hu
  simp [List.getD, hj, hu]
end
/-- What a call leaves that returns numbers of its own making. -/
def Ret32 (w : World) (z : List Nat) (e : Ending) (w' : World) : Prop :=
  ∃ A c, e = .returned (.slice A z.length c) ∧ z.length ≤ c ∧ c ≤ maxLen ∧ Own32 w' w.heap.size (.slice A z.length c) z ∧ Below w.heap.size w w'

theorem own32_empty (w : World) : Own32 (w.alloc (.cells #[] 27)) w.heap.size (.slice (some ⟨w.heap.size, 0, none⟩) 0 0) [] :=
  ⟨by simp [cells32], .inr ⟨w.heap.size, 0, #[], rfl, Nat.le_refl _, heap_alloc_new w _, Nat.le_refl _, Nat.zero_le _, rfl, rfl⟩⟩
end Go.Proofs.Ytpjhidicgclmbaa

/-
  Rows of elements of however many cells, of a call's own: the walk's laws on appending to them; messages.
-/
import Derived.Test.YtpimnbalffaliaaDoorStr7
import Derived.WalkSpells
namespace Go.Proofs.YtpimnbalffaliaaDoor
set_option linter.unusedVariables false
open Go.RowKit

/-- t is a slice of e's in P, each of so many cells and bytes. -/
structure IsRow (P : Program) (t e : TypeId) (z : Value) (size bytes : Nat) : Prop where
  ht : P.underlying t = some (.slice e)
  info : (P.info? e).map (fun i => (i.zero, i.size, i.bytes)) = some (some z, size, bytes)
  hzs : z.cells.size = size
  pos : 0 < size
  some' : 0 < bytes

section
variable {P : Program} {w : World} {ops : Array Oper} {rest : List Oper} {o : Oper} {a : Act} {Q : Exit → Act → World → Prop}
/-- 'out = append(out, x...)', out the call's own, x any cells that are there: as one operation, in the walk's list. -/
theorem wp_app {t e : TypeId} {z : Value} {size bytes : Nat} {K : Act → World → Prop} (T : IsRow P t e z size bytes) (s x : Operand) (ho : o.op = .call { callee := .builtin .append, args := #[s, x], argTypes := #[t, t] })
    (w0 : World) (v : Value) (n : Nat) (xs : List Value) (hs : a.eval s = v) (hown : w.ownsRow w0.heap.size e size v n xs) (A : Option Addr) (m c : Nat) (news : List Value) (hx : a.eval x = .slice A m c)
    (hl : news.length = m * size) (hnews : m ≠ 0 → ∃ ad, A = some ad ∧ ∀ j u, news[j]? = some u → w.cell? (ad.add j) = some u) (h1 : ∀ u ∈ news, u.oneCell' = true)
    (hsz : (n + m) * bytes ≤ 140737488355328) (hb : Below w0.heap.size w0 w)
    (h : ∀ v' w', w'.ownsRow w0.heap.size e size v' (n + m) (xs ++ news) → w.grownBy w' v.ownBlock → Below w0.heap.size w0 w' → K (a.put o.dst v') w') : o.wp P a w K Q := by
  obtain ⟨i, hi, hz0, hz1, hz2⟩ := info_parts T.info
  have h47 : n + m ≤ 140737488355328 := Nat.le_trans (Nat.le_mul_of_pos_right _ T.some') hsz
  by_cases hm0 : m = 0
  · subst hm0
    obtain rfl : news = [] := List.eq_nil_of_length_eq_zero (by simpa using hl)
    cases A with
    | none =>
      have hrun : (Builtin.append_ #[t, t] o.type #[v, .slice none 0 c]).run P w = .ok v w := by
        rcases hown.2 with ⟨rfl, _⟩ | ⟨g, cap, cur, rfl, _, _, hnc, _⟩
        · simp [Builtin.append_, run_underlying T.ht, sizeOf, typeInfo, hi, Builtin.lenOf, Builtin.firstCells]
        · simp [Builtin.append_, run_underlying T.ht, sizeOf, typeInfo, hi, Builtin.lenOf, Builtin.firstCells, hnc, storeCells]
      unfold Oper.wp
      have hx' : a.eval x = .slice none 0 c := hx
      simp [execOp, ho, resolve, invoke, builtin, hs, hx', hrun, Result.andThen]
      exact h v w (by simpa using hown) (World.grownBy.refl _ _) hb
    | some ad =>
      refine wp_append_own w s x t ho w0.heap.size e i z size bytes T.ht hi hz0 hz1 hz2 T.hzs T.pos v n xs hs hown ad 0 c [] hx (by simp) (by simp) (by simp) (by unfold maxLen; omega) hsz hb.size ?_
      intro v' w' ho' hg _
      exact h v' w' ho' hg (hb.grown hg hb.size (fun k hk => (hown.lt k hk).1))
  · obtain ⟨ad, rfl, hc⟩ := hnews hm0
    refine wp_append_own w s x t ho w0.heap.size e i z size bytes T.ht hi hz0 hz1 hz2 T.hzs T.pos v n xs hs hown ad m c news hx hl hc h1 (by unfold maxLen; omega) hsz hb.size ?_
    intro v' w' ho' hg _
    exact h v' w' ho' hg (hb.grown hg hb.size (fun k hk => (hown.lt k hk).1))
theorem wpList_app {t e : TypeId} {z : Value} {size bytes : Nat} (T : IsRow P t e z size bytes) (hgd : o.guard = none) (s x : Operand) (ho : o.op = .call { callee := .builtin .append, args := #[s, x], argTypes := #[t, t] })
    (w0 : World) (v : Value) (n : Nat) (xs : List Value) (hs : a.eval s = v) (hown : w.ownsRow w0.heap.size e size v n xs) (A : Option Addr) (m c : Nat) (news : List Value) (hx : a.eval x = .slice A m c)
    (hl : news.length = m * size) (hnews : m ≠ 0 → ∃ ad, A = some ad ∧ ∀ j u, news[j]? = some u → w.cell? (ad.add j) = some u) (h1 : ∀ u ∈ news, u.oneCell' = true)
    (hsz : (n + m) * bytes ≤ 140737488355328) (hb : Below w0.heap.size w0 w)
    (h : ∀ v' w', w'.ownsRow w0.heap.size e size v' (n + m) (xs ++ news) → w.grownBy w' v.ownBlock → Below w0.heap.size w0 w' → wpList P ops Q rest (a.put o.dst v') w') : wpList P ops Q (o :: rest) a w :=
  wpList_plain hgd fun _ hK => wp_app T s x ho w0 v n xs hs hown A m c news hx hl hnews h1 hsz hb fun v' w' h1 h2 h3 => hK _ _ (h v' w' h1 h2 h3)
/-- 'out = append(out, x)': one element of some cells, that the walk lays in a block of its own. -/
theorem wpList_app_one {t e : TypeId} {z : Value} {size bytes : Nat} (T : IsRow P t e z size bytes) (hgd : o.guard = none) (s x : Operand) (ho : o.op = .call { callee := .builtin .append, args := #[s, x], argTypes := #[t, t] })
    (w0 : World) (v : Value) (n : Nat) (xs : List Value) (hs : a.eval s = v) (wr : World) (cs : List Value) (hw : w = wr.alloc (.cells cs.toArray e)) (hown : wr.ownsRow w0.heap.size e size v n xs) (hx : a.eval x = .slice (some ⟨wr.heap.size, 0, none⟩) 1 1)
    (hl : cs.length = size) (h1 : ∀ u ∈ cs, u.oneCell' = true)
    (hsz : (n + 1) * bytes ≤ 140737488355328) (hb : Below w0.heap.size w0 wr)
    (h : ∀ v' w', w'.ownsRow w0.heap.size e size v' (n + 1) (xs ++ cs) → wr.grownBy w' v.ownBlock → Below w0.heap.size w0 w' → wpList P ops Q rest (a.put o.dst v') w') : wpList P ops Q (o :: rest) a w := by
  subst hw
  refine wpList_app T hgd s x ho w0 v n xs hs (hown.alloc _) _ 1 1 cs hx (by simpa using hl) (fun _ => ⟨_, rfl, fun j u hu => ?_⟩) h1 hsz (hb.alloc hb.size _) fun v' w' ho' hg hb' => h v' w' ho' (grown_of_alloc hg) hb'
  rw [Addr.add_lit, (Blk.new wr e cs).cell]
  simpa using hu
end


/-- A message: its kind, where its body lies, the body. -/
structure Ms where
  kind : Int
  adr : Option Addr
  cap : Nat
  body : List UInt8
def Ms.sl (s : Ms) : Value := .slice s.adr s.body.length s.cap
def Ms.two (s : Ms) : List Value := [.int .i64 s.kind, s.sl]
def Ms.abs (s : Ms) : Int × List UInt8 := (s.kind, s.body)
def flatM (M : List Ms) : List Value := M.flatMap Ms.two
theorem flatM_len (M : List Ms) : (flatM M).length = M.length * 2 := by
  induction M with
  | nil => rfl
  | cons s M ih => simp only [flatM, List.flatMap_cons, List.length_append, List.length_cons] at ih ⊢; rw [ih]; simp [Ms.two]; omega
theorem flatM_snoc (M : List Ms) (s : Ms) : flatM (M ++ [s]) = flatM M ++ s.two := by simp [flatM]
theorem flatM_at : ∀ (M : List Ms) (j : Nat) (s : Ms), M[j]? = some s → (flatM M)[j * 2]? = some (.int .i64 s.kind) ∧ (flatM M)[j * 2 + 1]? = some s.sl
  | [], j, s, h => by simp at h
  | x :: M, 0, s, h => by
    simp at h; subst h
    exact ⟨rfl, rfl⟩
  | x :: M, j + 1, s, h => by
    have ih := flatM_at M j s (by simpa using h)
    have e1 : (j + 1) * 2 = (j * 2 + 1) + 1 := by omega
    have e2 : (j + 1) * 2 + 1 = (j * 2 + 1 + 1) + 1 := by omega
    rw [e2, e1]
    exact ih
theorem twoM_one (s : Ms) : ∀ u ∈ s.two, u.oneCell' = true := by
  intro u hu
  simp only [Ms.two, List.mem_cons, List.not_mem_nil, or_false] at hu
  rcases hu with rfl | rfl <;> rfl
/-- Bytes lie in no block of a fault. -/
theorem Bytes.set3 {w : World} {A : Option Addr} {d : List UInt8} {g T n c : Nat} {p q : Int} {X : Option Addr} (h : Bytes w A d) (hk : Blk w g T [.int .i64 p, .int .i64 q, .slice X n c]) (u v x : Value) :
    Bytes (((w.setCell ⟨g, 0, none⟩ u).setCell ⟨g, 1, none⟩ v).setCell ⟨g, 2, none⟩ x) A d := by
  intro hd
  obtain ⟨b, off, rfl, hlt, hc⟩ := h hd
  have hne : b ≠ g := by
    intro e
    subst e
    have h0 := hc 0 (List.length_pos_iff.2 hd)
    rw [Nat.add_zero, hk.cell] at h0
    rcases off with _ | _ | _ | off <;> simp at h0
  refine ⟨b, off, rfl, Nat.lt_of_lt_of_le hlt (grown_set3 w g u v x).size, fun j hj => ?_⟩
  exact (grown_set3 w g u v x).cell (hc j hj) (by simpa using hne)
end Go.Proofs.YtpimnbalffaliaaDoor

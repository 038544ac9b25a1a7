/-
  Cursors in memory: one, rows of them.
-/
import Derived.Test.YtgaoonnokhlgjaaChecked
import Derived.Outline
import Derived.Test.YtgaoonnokhlgjaaRowS26
namespace Go.Proofs.Ytgaoonnokhlgjaa
set_option linter.unusedVariables false
set_option linter.unusedSimpArgs false
open Go.RowKit

/-- A cursor as it lies in memory: 16 cells. -/
structure Cu where
  id : Int
  owner : Int
  ver : Int
  kind : Int
  mode : Int
  qa : Int
  ql : Int
  table : Int
  peer : Int
  regex : ByteArray
  commsA : Option Addr
  comms : List Nat
  commsC : Nat
  cur : Int
  out : Bool
  aa : Int
  al : Int
  age : Int
def Cu.row (c : Cu) : List Value := [.int .i64 c.id, .int .i64 c.owner, .int .i64 c.ver, .int .i64 c.kind, .int .i64 c.mode, .int .u32 c.qa, .int .i64 c.ql, .int .i64 c.table, .int .i64 c.peer, .string c.regex, .slice c.commsA c.comms.length c.commsC, .int .i64 c.cur, .bool c.out, .int .u32 c.aa, .int .i64 c.al, .int .i64 c.age]
def Cu0 : Cu := ⟨0, 0, 0, 0, 0, 0, 0, 0, 0, ⟨#[]⟩, none, [], 0, 0, false, 0, 0, 0⟩
theorem Cu.one (c : Cu) : ∀ v ∈ c.row, v.oneCell' = true := by
  intro v hv
  simp only [Cu.row, List.mem_cons, List.not_mem_nil, or_false] at hv
  rcases hv with rfl | rfl | rfl | rfl | rfl | rfl | rfl | rfl | rfl | rfl | rfl | rfl | rfl | rfl | rfl | rfl <;> rfl
theorem isP (c : Cu) : IsS Try.prog 36 c.row.length := ⟨fun w => by kernel_rfl, fun w => by kernel_rfl⟩
theorem isR (c : Cu) : IsS Try.prog 45 c.row.length := ⟨fun w => by kernel_rfl, fun w => by kernel_rfl⟩
theorem run_boxP26 (w : World) (c : Cu) : (Instr.box 36 (aggS c.row)).run Try.prog w = .ok (.pointer (some ⟨w.heap.size, 0, none⟩)) (w.alloc (.cells c.row.toArray 36)) := by kernel_rfl
theorem run_boxR26 (w : World) (c : Cu) : (Instr.box 45 (aggS c.row)).run Try.prog w = .ok (.pointer (some ⟨w.heap.size, 0, none⟩)) (w.alloc (.cells c.row.toArray 45)) := by kernel_rfl
theorem run_build1P (w : World) (c : Cu) : (Instr.buildSlice 39 1 #[(0, aggS c.row)]).run Try.prog w = .ok (.slice (some ⟨w.heap.size, 0, none⟩) 1 1) (w.alloc (.cells c.row.toArray 36)) := by kernel_rfl
theorem run_build1R (w : World) (c : Cu) : (Instr.buildSlice 42 1 #[(0, aggS c.row)]).run Try.prog w = .ok (.slice (some ⟨w.heap.size, 0, none⟩) 1 1) (w.alloc (.cells c.row.toArray 45)) := by kernel_rfl
def zeroCu : Value := .agg #[.int .i64 0, .int .i64 0, .int .i64 0, .int .i64 0, .int .i64 0, .int .u32 0, .int .i64 0, .int .i64 0, .int .i64 0, .string ⟨#[]⟩, .slice none 0 0, .int .i64 0, .bool false, .int .u32 0, .int .i64 0, .int .i64 0]
theorem infoP26 : (Try.prog.info? 36).map (fun i => (i.zero, i.size, i.bytes)) = some (some zeroCu, 16, 152) := by kernel_rfl
theorem infoR26 : (Try.prog.info? 45).map (fun i => (i.zero, i.size, i.bytes)) = some (some zeroCu, 16, 152) := by kernel_rfl

/-! ### Rows -/

def flatU (L : List Cu) : List Value := L.flatMap Cu.row
theorem flatU_nil : flatU [] = [] := rfl
theorem flatU_cons (a : Cu) (L : List Cu) : flatU (a :: L) = a.row ++ flatU L := by unfold flatU; rw [List.flatMap_cons]
theorem flatU_one (c : Cu) : flatU [c] = c.row := by unfold flatU; simp
theorem flatU_app (M N : List Cu) : flatU (M ++ N) = flatU M ++ flatU N := by unfold flatU; rw [List.flatMap_append]
theorem flatU_len : ∀ M : List Cu, (flatU M).length = M.length * 16
  | [] => rfl
  | c :: M => by
    have hr : c.row.length = 16 := rfl
    rw [flatU_cons, List.length_append, flatU_len M, hr, List.length_cons]; omega
theorem flatU_at : ∀ (L : List Cu) (j : Nat) (x : Cu), L[j]? = some x → ∀ i u, x.row[i]? = some u → (flatU L)[j * 16 + i]? = some u
  | [], j, x, h, i, u, hu => by simp at h
  | a :: L, 0, x, h, i, u, hu => by
    obtain rfl : a = x := by simpa using h
    have hi := (List.getElem?_eq_some_iff.1 hu).1
    rw [flatU_cons, List.getElem?_append_left (by omega), Nat.zero_mul, Nat.zero_add]
    exact hu
  | a :: L, j + 1, x, h, i, u, hu => by
    have h' : L[j]? = some x := by simpa using h
    have hr : a.row.length = 16 := rfl
    rw [flatU_cons, List.getElem?_append_right (by omega), hr, show (j + 1) * 16 + i - 16 = j * 16 + i by omega]
    exact flatU_at L j x h' i u hu
theorem flatU_ones (M : List Cu) : ∀ u ∈ flatU M, u.oneCell' = true := by
  intro u hu
  obtain ⟨c, _, hc⟩ := List.mem_flatMap.1 hu
  exact c.one u hc
/-- The slice's address A leads to the cursors L, in a block of the type T, from B on. -/
def RowsU (w : World) (T B : Nat) (A : Option Addr) (L : List Cu) : Prop :=
  L ≠ [] → ∃ b off, A = some ⟨b, off, none⟩ ∧ B ≤ b ∧ (∃ cur fr, w.heap[b]? = some (.cells cur T fr)) ∧ ∀ (j : Nat) (s : Cu), L[j]? = some s → RowAt w b (off + j * 16) s.row
/-- The value v is such a slice. -/
def SlU (w : World) (T B : Nat) (v : Value) (L : List Cu) : Prop := ∃ A c, v = .slice A L.length c ∧ RowsU w T B A L
theorem RowsU.nil (w : World) (T B : Nat) (A : Option Addr) : RowsU w T B A [] := fun h => absurd rfl h
theorem SlU.nil (w : World) (T B : Nat) : SlU w T B (.slice none 0 0) [] := ⟨none, 0, rfl, RowsU.nil _ _ _ _⟩
theorem lt_of_some {w : World} {b : Nat} {o : Obj} (h : w.heap[b]? = some o) : b < w.heap.size := (Array.getElem?_eq_some_iff.1 h).1
section
variable {w w' : World} {T B : Nat} {A : Option Addr} {v : Value} {L : List Cu}
theorem RowsU.same (h : RowsU w T B A L) (hb : ∀ b o, B ≤ b → w.heap[b]? = some o → (∃ cur fr, o = .cells cur T fr) → w'.heap[b]? = some o) : RowsU w' T B A L := by
  intro hl
  obtain ⟨b, off, rfl, hB, ⟨cur, fr, hc⟩, hr⟩ := h hl
  have e := hb b _ hB hc ⟨cur, fr, rfl⟩
  exact ⟨b, off, rfl, hB, ⟨cur, fr, e⟩, fun j s hj => (hr j s hj).same (e.trans hc.symm)⟩
theorem RowsU.below (h : RowsU w T B A L) (hb : Below w.heap.size w w') : RowsU w' T B A L := h.same fun b o _ ho _ => (hb.block b (lt_of_some ho)).trans ho
theorem RowsU.at (h : RowsU w T B A L) {j : Nat} {s : Cu} (hj : L[j]? = some s) : ∃ b off, A = some ⟨b, off, none⟩ ∧ b < w.heap.size ∧ RowAt w b (off + j * 16) s.row := by
  obtain ⟨b, off, hA, _, ⟨cur, fr, hc⟩, hr⟩ := h (by intro e; subst e; simp at hj)
  exact ⟨b, off, hA, lt_of_some hc, hr j s hj⟩
theorem RowsU.lower {B' : Nat} (h : RowsU w T B A L) (hB : B' ≤ B) : RowsU w T B' A L := by
  intro hl
  obtain ⟨b, off, hA, h1, h2, h3⟩ := h hl
  exact ⟨b, off, hA, Nat.le_trans hB h1, h2, h3⟩
theorem SlU.below (h : SlU w T B v L) (hb : Below w.heap.size w w') : SlU w' T B v L := by
  obtain ⟨A, c, rfl, h⟩ := h
  exact ⟨A, c, rfl, h.below hb⟩
theorem SlU.lower {B' : Nat} (h : SlU w T B v L) (hB : B' ≤ B) : SlU w T B' v L := by
  obtain ⟨A, c, rfl, h⟩ := h
  exact ⟨A, c, rfl, h.lower hB⟩
end
/-- A row of a call's own. -/
def OwnU (w : World) (T B : Nat) (v : Value) (M : List Cu) : Prop := w.ownsRow B T 16 v M.length (flatU M)
section
variable {w w' : World} {T B : Nat} {v : Value} {M : List Cu}
theorem OwnU.nil (w : World) (T B : Nat) : OwnU w T B (.slice none 0 0) [] := World.ownsRow_nil w B _ 16
theorem OwnU.form (h : OwnU w T B v M) : ∃ A c, v = .slice A M.length c ∧ M.length ≤ c ∧ c ≤ maxLen := by
  rcases h.2 with ⟨rfl, hn⟩ | ⟨g, cap, cur, rfl, hbg, hg, hnc, hcm, hcs, htake⟩
  · exact ⟨none, 0, by rw [hn], by omega, Nat.zero_le _⟩
  · exact ⟨_, cap, rfl, hnc, hcm⟩
theorem OwnU.below (h : OwnU w T B v M) (hb : Below w.heap.size w w') : OwnU w' T B v M :=
  World.ownsRow.kept h (row := none) ⟨hb.os, hb.tape, hb.output, hb.size, fun k hk _ => hb.block k hk⟩ (by cases v.ownBlock <;> simp)
theorem OwnU.lower {B' : Nat} (h : OwnU w T B v M) (hB : B' ≤ B) : OwnU w T B' v M := by
  refine ⟨h.1, ?_⟩
  rcases h.2 with h2 | ⟨g, cap, cur, hv, hbg, r⟩
  · exact .inl h2
  · exact .inr ⟨g, cap, cur, hv, Nat.le_trans hB hbg, r⟩
theorem OwnU.typ (h : OwnU w T B v M) {k : Nat} (hk : v.ownBlock = some k) : ∃ cur, w.heap[k]? = some (.cells cur T (0, 0)) := by
  rcases h.2 with ⟨rfl, hn⟩ | ⟨g, cap, cur, rfl, hbg, hg, hnc, hcm, hcs, htake⟩
  · cases hk
  · cases hk; exact ⟨cur, hg⟩
theorem OwnU.rows {A : Option Addr} {n c : Nat} (h : OwnU w T B (.slice A n c) M) : RowsU w T B A M := by
  intro hl
  rcases h.2 with ⟨hv, hn⟩ | ⟨g, cap, cur, hv, hbg, hg, hnc, hcm, hcs, htake⟩
  · exact absurd (List.eq_nil_of_length_eq_zero hn) hl
  · have hA : A = some ⟨g, 0, none⟩ := by injection hv
    refine ⟨g, 0, hA, hbg, ⟨cur, (0, 0), hg⟩, fun j s hj i u hu => ?_⟩
    have hj2 := World.ownsRow.cells h (g := g) (by subst hA; rfl) (j * 16 + i) u (flatU_at M j s hj i u hu)
    rw [Addr.add_lit] at hj2
    rw [Nat.add_assoc]
    exact hj2
theorem OwnU.sl (h : OwnU w T B v M) : SlU w T B v M := by
  obtain ⟨A, c, rfl, _⟩ := h.form
  exact ⟨A, c, rfl, h.rows⟩
theorem OwnU.nilOf (h : OwnU w T B v []) : v.ownBlock = none ∨ True := .inr trivial
end
/-- Rows of the call's own, in blocks of their own. -/
structure TwoU (w : World) (T B : Nat) (v u : Value) (M N : List Cu) : Prop where
  one : OwnU w T B v M
  two : OwnU w T B u N
  sep : v.ownBlock = none ∨ v.ownBlock ≠ u.ownBlock
theorem TwoU.below {w w' : World} {T B : Nat} {v u : Value} {M N : List Cu} (h : TwoU w T B v u M N) (hb : Below w.heap.size w w') : TwoU w' T B v u M N := ⟨h.one.below hb, h.two.below hb, h.sep⟩
theorem TwoU.turn {w : World} {T B : Nat} {v u : Value} {M N : List Cu} (h : TwoU w T B v u M N) : TwoU w T B u v N M := ⟨h.two, h.one, by
  rcases h.sep with e | e
  · cases hu : u.ownBlock with
    | none => exact .inl rfl
    | some k => exact .inr (by rw [e]; simp)
  · exact .inr (Ne.symm e)⟩
section
variable {P : Program} {ops : Array Oper} {rest : List Oper} {o : Oper} {a : Act} {Q : Exit → Act → World → Prop}
/-- 'l = append(l, c)', or 'append(l, m...)', of a row of one's own, with another one beside. -/
theorem wpList_appU {T S : Nat} (hS : P.underlying S = some (.slice T)) (hi0 : (P.info? T).map (fun i => (i.zero, i.size, i.bytes)) = some (some zeroCu, 16, 152)) (w : World) (hgd : o.guard = none) (s x : Operand) (ho : o.op = .call { callee := .builtin .append, args := #[s, x], argTypes := #[S, S] })
    (B : Nat) (v u : Value) (M N K : List Cu) (hs : a.eval s = v) (h : TwoU w T B v u M N) (hB : B ≤ w.heap.size) (ad : Addr) (m c : Nat) (hx : a.eval x = .slice (some ad) m c) (hm : K.length = m) (hK : ∀ j z, (flatU K)[j]? = some z → w.cell? (ad.add j) = some z) (hl : M.length + m ≤ 100000)
    (h9 : ∀ v' w', TwoU w' T B v' u (M ++ K) N → w.grownBy w' v.ownBlock → (v'.ownBlock = v.ownBlock ∨ ∀ k, v'.ownBlock = some k → w.heap.size ≤ k) → wpList P ops Q rest (a.put o.dst v') w') : wpList P ops Q (o :: rest) a w := by
  obtain ⟨i, hi, hz0, hz1, hz2⟩ := info_parts hi0
  subst hm
  refine wpList_append_own_at _ hgd s x _ ho B T i _ 16 152 hS hi hz0 hz1 hz2 rfl (by decide) v M.length (flatU M) hs h.one ad K.length c (flatU K) hx (flatU_len K) hK (flatU_ones _) (by unfold maxLen; omega) (by omega) hB ?_
  intro v' w' ho' hg _ hloc
  have hown' : OwnU w' T B v' (M ++ K) := by
    unfold OwnU
    rw [flatU_app, List.length_append]
    exact ho'
  refine h9 v' w' ⟨hown', World.ownsRow.kept h.two hg ?_, ?_⟩ hg ?_
  · rcases h.sep with e | e
    · rw [e]; cases u.ownBlock <;> simp
    · exact .inr fun q => e q.symm
  · rcases hloc with e | e
    · rw [e]; exact h.sep
    · right
      rw [e]
      intro q
      have := (h.two.lt _ q.symm).2
      omega
  · rcases hloc with e | e
    · exact .inl e
    · exact .inr fun k hk => by rw [e] at hk; cases hk; exact Nat.le_refl _
end
/-- The one cursor that 'append(l, c)' lays in a block of its own. -/
theorem cu_one (w : World) (T : Nat) (c : Cu) : ∀ j z, (flatU [c])[j]? = some z → (w.alloc (.cells c.row.toArray T)).cell? ((⟨w.heap.size, 0, none⟩ : Addr).add j) = some z := by
  intro j z hz
  rw [flatU_one] at hz
  rw [Addr.add_lit, (Blk.new w T c.row).cell]
  simpa using hz
end Go.Proofs.Ytgaoonnokhlgjaa

/-
  Rows of candidates of a call's own, two beside one another; lists turned round.
-/
import Derived.Test.YtpjhidicgclmbaaLeast15W
import Derived.Maps.AppendAt
namespace Go.Proofs.Ytpjhidicgclmbaa
set_option linter.unusedVariables false
set_option linter.unusedSimpArgs false
open Go.RowKit

def OwnC (w : World) (B : Nat) (v : Value) (M : List Cv) : Prop := w.ownsRow B 34 16 v M.length (flatC M)
theorem flatC_one (M : List Cv) : ∀ u ∈ flatC M, u.oneCell' = true := by
  intro u hu
  obtain ⟨c, _, hc⟩ := List.mem_flatMap.1 hu
  exact row_one c u hc
theorem flatC_len : ∀ M : List Cv, (flatC M).length = M.length * 16
  | [] => rfl
  | c :: M => by
    have hr : c.row.length = 16 := rfl
    rw [flatC_cons, List.length_append, flatC_len M, hr, List.length_cons]; omega
theorem flatC_app (M N : List Cv) : flatC (M ++ N) = flatC M ++ flatC N := by unfold flatC; rw [List.flatMap_append]
section
variable {w w' : World} {B : Nat} {v : Value} {M : List Cv}
theorem OwnC.nil (w : World) (B : Nat) : OwnC w B (.slice none 0 0) [] := World.ownsRow_nil w B _ 16
theorem OwnC.form (h : OwnC w B v M) : ∃ A c, v = .slice A M.length c := by
  rcases h.2 with ⟨rfl, hn⟩ | ⟨g, cap, cur, rfl, hbg, hg, hnc, hcm, hcs, htake⟩
  · exact ⟨none, 0, by rw [hn]⟩
  · exact ⟨_, cap, rfl⟩
theorem OwnC.below (h : OwnC w B v M) (hb : Below w.heap.size w w') : OwnC w' B v M :=
  World.ownsRow.kept h (row := none) ⟨hb.os, hb.tape, hb.output, hb.size, fun k hk _ => hb.block k hk⟩ (by cases v.ownBlock <;> simp)
theorem OwnC.cands {A : Option Addr} {n c : Nat} (h : OwnC w B (.slice A n c) M) (hin : ∀ s ∈ M, s.In w w.heap.size) : CandsIn w w.heap.size A M := by
  intro hl
  rcases h.2 with ⟨hv, hn⟩ | ⟨g, cap, cur, hv, hbg, hg, hnc, hcm, hcs, htake⟩
  · exact absurd (List.eq_nil_of_length_eq_zero hn) hl
  · have hA : A = some ⟨g, 0, none⟩ := by injection hv
    refine ⟨g, 0, hA, (Array.getElem?_eq_some_iff.1 hg).1, fun j s hj => ⟨fun i u hu => ?_, hin s (List.mem_of_getElem? hj)⟩⟩
    have hj2 := World.ownsRow.cells h (g := g) (by subst hA; rfl) (j * 16 + i) u (flatC_at M j s hj i u hu)
    rw [Addr.add_lit] at hj2
    rw [Nat.add_assoc]
    exact hj2
end
/-- Two rows of the call's own, in blocks of their own. -/
structure TwoC (w : World) (B : Nat) (v u : Value) (M N : List Cv) : Prop where
  one : OwnC w B v M
  two : OwnC w B u N
  sep : v.ownBlock = none ∨ v.ownBlock ≠ u.ownBlock
theorem TwoC.below {w w' : World} {B : Nat} {v u : Value} {M N : List Cv} (h : TwoC w B v u M N) (hb : Below w.heap.size w w') : TwoC w' B v u M N := ⟨h.one.below hb, h.two.below hb, h.sep⟩
theorem infoC : (Try.prog.info? 34).map (fun i => (i.zero, i.size, i.bytes)) = some (some (.agg #[.int .i64 0, .bool false, .int .u32 0, .int .u32 0, .int .u32 0, .int .i64 0, .slice none 0 0, .int .u32 0, .int .i64 0, .int .i64 0, .bool false, .bool false, .int .u32 0, .int .u32 0, .slice none 0 0, .slice none 0 0]), 16, 144) := by kernel_rfl
section
variable {ops : Array Oper} {rest : List Oper} {o : Oper} {a : Act} {Q : Exit → Act → World → Prop}
theorem wpList_app1 {c : Cv} (w wr : World) (hw : w = wr.alloc (.cells (flatC [c]).toArray 34)) (hgd : o.guard = none) (s x : Operand) (ho : o.op = .call { callee := .builtin .append, args := #[s, x], argTypes := #[22, 22] })
    (B : Nat) (v u : Value) (M N : List Cv) (hs : a.eval s = v) (h : TwoC wr B v u M N) (hB : B ≤ wr.heap.size) (hx : a.eval x = .slice (some ⟨wr.heap.size, 0, none⟩) 1 1) (hl : M.length ≤ 100000)
    (hK : ∀ v' w', TwoC w' B v' u (M ++ [c]) N → Below B wr w' → wpList Try.prog ops Q rest (a.put o.dst v') w') : wpList Try.prog ops Q (o :: rest) a w := by
  subst hw
  obtain ⟨i, hi, hz0, hz1, hz2⟩ := info_parts infoC
  have hal : Below wr.heap.size wr (wr.alloc (.cells (flatC [c]).toArray 34)) := (Below.refl _ _).alloc (Nat.le_refl _) _
  have h2 := h.below hal
  refine wpList_append_own_at _ hgd s x _ ho B 34 i _ 16 144 Try.underlying22 hi hz0 hz1 hz2 rfl (by decide) v M.length (flatC M) hs h2.one ⟨wr.heap.size, 0, none⟩ 1 1 (flatC [c]) hx (by rw [flatC_len]; rfl) (fun j u hu => ?_) (flatC_one _) (by unfold maxLen; omega) (by omega) (Nat.le_trans hB hal.size) ?_
  · rw [Addr.add_lit, (Blk.new wr _ (flatC [c])).cell]
    simpa using hu
  · intro v' w' ho' hg _ hloc
    have hg0 := grown_of_alloc hg
    have hown' : OwnC w' B v' (M ++ [c]) := by
      unfold OwnC
      rw [flatC_app, List.length_append]
      exact ho'
    refine hK v' w' ⟨hown', World.ownsRow.kept h.two hg0 ?_, ?_⟩ ((Below.refl B wr).grown hg0 hB (fun k hk => (h.one.lt k hk).1))
    · rcases h.sep with e | e
      · rw [e]; cases u.ownBlock <;> simp
      · exact .inr fun q => e q.symm
    · rcases hloc with e | e
      · rw [e]; exact h.sep
      · right
        rw [e]
        intro q
        have := (h.two.lt _ q.symm).2
        have := hal.size
        omega
theorem wpList_app2 {c : Cv} (w wr : World) (hw : w = wr.alloc (.cells (flatC [c]).toArray 34)) (hgd : o.guard = none) (s x : Operand) (ho : o.op = .call { callee := .builtin .append, args := #[s, x], argTypes := #[22, 22] })
    (B : Nat) (v u : Value) (M N : List Cv) (hs : a.eval s = u) (h : TwoC wr B v u M N) (hB : B ≤ wr.heap.size) (hx : a.eval x = .slice (some ⟨wr.heap.size, 0, none⟩) 1 1) (hl : N.length ≤ 100000)
    (hK : ∀ u' w', TwoC w' B v u' M (N ++ [c]) → Below B wr w' → wpList Try.prog ops Q rest (a.put o.dst u') w') : wpList Try.prog ops Q (o :: rest) a w := by
  subst hw
  obtain ⟨i, hi, hz0, hz1, hz2⟩ := info_parts infoC
  have hal : Below wr.heap.size wr (wr.alloc (.cells (flatC [c]).toArray 34)) := (Below.refl _ _).alloc (Nat.le_refl _) _
  have h2 := h.below hal
  refine wpList_append_own_at _ hgd s x _ ho B 34 i _ 16 144 Try.underlying22 hi hz0 hz1 hz2 rfl (by decide) u N.length (flatC N) hs h2.two ⟨wr.heap.size, 0, none⟩ 1 1 (flatC [c]) hx (by rw [flatC_len]; rfl) (fun j u hu => ?_) (flatC_one _) (by unfold maxLen; omega) (by omega) (Nat.le_trans hB hal.size) ?_
  · rw [Addr.add_lit, (Blk.new wr _ (flatC [c])).cell]
    simpa using hu
  · intro u' w' ho' hg _ hloc
    have hg0 := grown_of_alloc hg
    have hown' : OwnC w' B u' (N ++ [c]) := by
      unfold OwnC
      rw [flatC_app, List.length_append]
      exact ho'
    refine hK u' w' ⟨World.ownsRow.kept h.one hg0 h.sep, hown', ?_⟩ ((Below.refl B wr).grown hg0 hB (fun k hk => (h.two.lt k hk).1))
    rcases hloc with e | e
    · rw [e]; exact h.sep
    · by_cases hv : v.ownBlock = none
      · exact .inl hv
      · right
        rw [e]
        intro q
        have := (h.one.lt _ q).2
        have := hal.size
        omega
end

/-! ### Lists turned round, and on -/

def backL (L : List Cv) (k : Nat) : List Cv := (List.range k).map fun q => L.getD (L.length - 1 - q) Cv0
def onL (L : List Cv) (f k : Nat) : List Cv := (List.range k).map fun q => L.getD ((q + f) % L.length) Cv0
theorem back_snoc (L : List Cv) (k : Nat) : backL L (k + 1) = backL L k ++ [L.getD (L.length - 1 - k) Cv0] := by simp [backL, List.range_succ]
theorem on_snoc (L : List Cv) (f k : Nat) : onL L f (k + 1) = onL L f k ++ [L.getD ((k + f) % L.length) Cv0] := by simp [onL, List.range_succ]
theorem getD_mem {L : List Cv} {i : Nat} (h : i < L.length) : L.getD i Cv0 ∈ L := by
  rw [List.getD_eq_getElem?_getD, List.getElem?_eq_getElem h]
  exact List.getElem_mem h
theorem back_mem {L : List Cv} {k : Nat} (h : k ≤ L.length) : ∀ s ∈ backL L k, s ∈ L := by
  intro s hs
  obtain ⟨q, hq, rfl⟩ := List.mem_map.1 hs
  have := List.mem_range.1 hq
  exact getD_mem (by omega)
theorem on_mem {L : List Cv} {f k : Nat} (h : 0 < L.length) : ∀ s ∈ onL L f k, s ∈ L := by
  intro s hs
  obtain ⟨q, hq, rfl⟩ := List.mem_map.1 hs
  exact getD_mem (Nat.mod_lt _ h)
/-- The best of a list and of one that has the same candidates have the same Peer. -/
theorem same_peer {L M : List Cv} (h0 : 0 < L.length) (hm : 0 < M.length) (h1 : ∀ s ∈ L, s ∈ M) (h2 : ∀ s ∈ M, s ∈ L) :
    ∃ (i j : Nat) (x y : Cv), bestZ L = (i : Int) ∧ i < L.length ∧ L[i]? = some x ∧ bestZ M = (j : Int) ∧ j < M.length ∧ M[j]? = some y ∧ x.peer = y.peer := by
  have one : ∀ L : List Cv, 0 < L.length → ∃ (i : Nat) (x : Cv), bestZ L = (i : Int) ∧ i < L.length ∧ L[i]? = some x ∧ Best ((List.range L.length).map (keyL L)) (keyL L i) := by
    intro L h0
    rcases among_best (keyL_z L) (l := List.range L.length) List.pairwise_lt_range with ⟨h, _⟩ | ⟨k, hk, g1, g2⟩
    · have := congrArg List.length h
      simp at this
      subst this
      simp at h0
    · have hkl := List.mem_range.1 hk
      exact ⟨k, L[k], g1, hkl, List.getElem?_eq_getElem hkl, g2⟩
  obtain ⟨i, x, a1, a2, a3, a4⟩ := one L h0
  obtain ⟨j, y, b1, b2, b3, b4⟩ := one M hm
  have over : ∀ (L M : List Cv), (∀ s ∈ L, s ∈ M) → ∀ k ∈ (List.range L.length).map (keyL L), ∃ k' ∈ (List.range M.length).map (keyL M), ({ k' with z := 0 } : Rn) = { k with z := 0 } := by
    intro L M hs k hk
    obtain ⟨q, hq, rfl⟩ := List.mem_map.1 hk
    have hql := List.mem_range.1 hq
    have hq2 : L[q]? = some L[q] := List.getElem?_eq_getElem hql
    obtain ⟨r, hr, hr2⟩ := List.mem_iff_getElem.1 (hs _ (List.getElem_mem hql))
    refine ⟨keyL M r, List.mem_map_of_mem (List.mem_range.2 hr), ?_⟩
    rw [keyL_at hq2, keyL_at (List.getElem?_eq_getElem hr), hr2]
    rfl
  have h := best_turn (f := fun k => { k with z := 0 }) (fun k => ⟨rfl, rfl, rfl, rfl, rfl, rfl, rfl, rfl, rfl⟩) (over L M h1) (over M L h2) a4 b4
  rw [keyL_at a3, keyL_at b3] at h
  exact ⟨i, j, x, y, a1, a2, a3, b1, b2, b3, h⟩
theorem back_all {L : List Cv} : ∀ s ∈ L, s ∈ backL L L.length := by
  intro s hs
  obtain ⟨i, hi, rfl⟩ := List.mem_iff_getElem.1 hs
  refine List.mem_map.2 ⟨L.length - 1 - i, List.mem_range.2 (by omega), ?_⟩
  rw [show L.length - 1 - (L.length - 1 - i) = i by omega, List.getD_eq_getElem?_getD, List.getElem?_eq_getElem hi]
  rfl
theorem on_all {L : List Cv} {f : Nat} (hf : f < L.length) : ∀ s ∈ L, s ∈ onL L f L.length := by
  intro s hs
  obtain ⟨i, hi, rfl⟩ := List.mem_iff_getElem.1 hs
  by_cases h : f ≤ i
  · refine List.mem_map.2 ⟨i - f, List.mem_range.2 (by omega), ?_⟩
    rw [show i - f + f = i by omega, Nat.mod_eq_of_lt hi, List.getD_eq_getElem?_getD, List.getElem?_eq_getElem hi]
    rfl
  · refine List.mem_map.2 ⟨i + L.length - f, List.mem_range.2 (by omega), ?_⟩
    rw [show i + L.length - f + f = i + L.length by omega, Nat.add_mod_right, Nat.mod_eq_of_lt hi, List.getD_eq_getElem?_getD, List.getElem?_eq_getElem hi]
    rfl
end Go.Proofs.Ytpjhidicgclmbaa

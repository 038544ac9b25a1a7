/-
  One number more behind numbers of a call's own, as one step of a region that draws its order.
-/
import Derived.Test.YtlgfollajodpaaaDoorNorm
namespace Go.Proofs.YtlgfollajodpaaaDoor
set_option linter.unusedVariables false
set_option linter.unusedSimpArgs false
open Go.RowKit

/-- 'x.f = append(x.f, n)' over numbers, n in a block of its own. -/
theorem step_num32 {ops : Array Oper} {o : Oper} {a : Act} {w : World} {K : Act → World → Prop} {Q : Exit → Act → World → Prop} {E : Prop} (hgd : o.guard = none) (s x : Operand) (ho : o.op = .call { callee := .builtin .append, args := #[s, x], argTypes := #[37, 37] })
    (base : Nat) (v : Value) (z : List Nat) (hs : a.eval s = v) (wr : World) (n : Nat) (hw : w = wr.alloc (.cells #[.int .u32 (n : Int)] 23)) (hown : Own32 wr base v z) (hx : a.eval x = .slice (some ⟨wr.heap.size, 0, none⟩) 1 1)
    (hsz : z.length + 1 ≤ 100000000000) (hb : base ≤ wr.heap.size)
    (h : ∀ v' w', Own32 w' base v' (z ++ [n]) → wr.grownBy w' v.ownBlock → K (a.put o.dst v') w') : if Region.wanted o (yielded ops a.tmps) = true then Oper.wp Tryd.prog o a w K Q else E := by
  subst hw
  have hA : At32 (wr.alloc (.cells #[.int .u32 (n : Int)] 23)) (wr.heap.size + 1) (some ⟨wr.heap.size, 0, none⟩) [n] := by
    intro _
    refine ⟨wr.heap.size, 0, rfl, by omega, fun j hj => ?_⟩
    have hj0 : j = 0 := by simpa using hj
    subst hj0
    exact (Blk.new wr 23 [.int .u32 (n : Int)]).cell 0
  exact step_app32 hgd s x ho base v z hs (hown.alloc _) _ 1 1 _ [n] hx rfl hA (by simpa using hsz) (by simp; omega) fun v' w' h1 h2 => h v' w' h1 (grown_of_alloc h2)
theorem take_num32 {z : List Nat} {k : Nat} (h : k < z.length) : z.take (k + 1) = z.take k ++ [z.getD k 0] := by
  have e : z.getD k 0 = z[k] := by simp [List.getD, h]
  rw [List.take_succ_eq_append_getElem h, e]
theorem right_parts {L : List Sg} (h : rightB L = true) : L.length ≤ 8 ∧ totN L ≤ 64 ∧ ∀ s ∈ L, (s.kind = 1 ∨ s.kind = 2) ∧ 0 < s.nums.length ∧ s.nums.length ≤ 64 := by
  unfold rightB at h
  simp only [Bool.and_eq_true, decide_eq_true_eq] at h
  refine ⟨h.1, h.2.2, fun s hs => ?_⟩
  have h1 := List.all_eq_true.1 h.2.1 s hs
  obtain ⟨j, hj, hj2⟩ := List.mem_iff_getElem.1 hs
  have h3 : s.nums.length ≤ totN L := nums_le (j := j) (by rw [List.getElem?_eq_getElem hj, hj2])
  unfold okS at h1
  simp only [Bool.and_eq_true, Bool.or_eq_true, beq_iff_eq, bne_iff_ne] at h1
  exact ⟨h1.1, by omega, by omega⟩
end Go.Proofs.YtlgfollajodpaaaDoor

/-
  What is known of the best of each Near while a list is gone through: no program stands here.
-/
import Derived.Test.YtpjhidicgclmbaaMap15
namespace Go.Proofs.Ytpjhidicgclmbaa
set_option linter.unusedVariables false
set_option linter.unusedSimpArgs false
open Go.RowKit

/-- Behind k of them: where the first stands, and the best of each Near. -/
def NInv (X : List Rn) (k f : Nat) (F : Int → Option Nat) : Prop :=
  (k = 0 ∧ f = 0 ∧ F = fun _ => none) ∨ (f < k ∧ ∃ xf, X[f]? = some xf ∧ (∀ y ∈ X.take k, ¬ preLt y xf) ∧ Nears (X.take k) F)
theorem take_snocR {X : List Rn} {k : Nat} {x : Rn} (h : X[k]? = some x) : X.take (k + 1) = X.take k ++ [x] ∧ (X.take k).length = k := by
  obtain ⟨h1, h2⟩ := List.getElem?_eq_some_iff.1 h
  exact ⟨by rw [List.take_succ_eq_append_getElem h1, h2], by simp; omega⟩
section
variable {X : List Rn} {k f : Nat} {F : Int → Option Nat} {x xf : Rn}
theorem NInv.zero (X : List Rn) : NInv X 0 0 (fun _ => none) := .inl ⟨rfl, rfl, rfl⟩
theorem NInv.first (h : NInv X k f F) (hx : X[k]? = some x) : ∃ xf, X[f]? = some xf ∧ f < X.length := by
  have h1 := (List.getElem?_eq_some_iff.1 hx).1
  rcases h with ⟨rfl, rfl, _⟩ | ⟨hf, xf, h2, _⟩
  · exact ⟨x, hx, h1⟩
  · exact ⟨xf, h2, by omega⟩
theorem NInv.val (h : NInv X k f F) {n : Int} {i : Nat} (hi : F n = some i) : ∃ xi, X[i]? = some xi ∧ i < X.length := by
  rcases h with ⟨_, _, rfl⟩ | ⟨_, xf, _, _, hN⟩
  · cases hi
  · obtain ⟨xi, h1, _⟩ := hN.1 n i hi
    rw [List.getElem?_take] at h1
    split at h1
    · exact ⟨xi, h1, (List.getElem?_eq_some_iff.1 h1).1⟩
    · cases h1
theorem mem_takeR {X : List Rn} {k f : Nat} {xf : Rn} (h : X[f]? = some xf) (hf : f < k) : xf ∈ X.take k := by
  have h1 : (X.take k)[f]? = some xf := by rw [List.getElem?_take, if_pos hf]; exact h
  exact List.mem_of_getElem? h1
theorem NInv.worse (h : NInv X k f F) (hx : X[k]? = some x) (hf : X[f]? = some xf) (hp : preLt xf x) : NInv X (k + 1) f F := by
  obtain ⟨e1, e2⟩ := take_snocR hx
  rcases h with ⟨rfl, rfl, _⟩ | ⟨hlt, xf', h2, hm, hN⟩
  · rw [hx] at hf
    cases hf
    exact absurd hp (pre_irr _)
  · obtain rfl : xf = xf' := Option.some.inj (hf.symm.trans h2)
    refine .inr ⟨by omega, xf, hf, ?_, ?_⟩
    · rw [e1]; exact first_worse hm (fun q => pre_irr _ (pre_trans hp q))
    · rw [e1]; exact nears_worse hN (mem_takeR hf hlt) hm hp
theorem NInv.better (h : NInv X k f F) (hx : X[k]? = some x) (hf : X[f]? = some xf) (hp : preLt x xf) : NInv X (k + 1) k (setF (fun _ => none) x.near k) := by
  obtain ⟨e1, e2⟩ := take_snocR hx
  rcases h with ⟨rfl, rfl, _⟩ | ⟨hlt, xf', h2, hm, hN⟩
  · rw [hx] at hf
    cases hf
    exact absurd hp (pre_irr _)
  · obtain rfl : xf = xf' := Option.some.inj (hf.symm.trans h2)
    obtain ⟨g1, g2⟩ := first_new (x := x) hm hp
    have := nears_first g2
    rw [e2] at this
    exact .inr ⟨by omega, x, hx, by rw [e1]; exact g1, by rw [e1]; exact this⟩
theorem NInv.new (h : NInv X k f F) (hx : X[k]? = some x) (hf : X[f]? = some xf) (h1 : ¬ preLt x xf) (h2 : ¬ preLt xf x) (hn : F x.near = none) : NInv X (k + 1) f (setF F x.near k) := by
  obtain ⟨e1, e2⟩ := take_snocR hx
  rcases h with ⟨rfl, rfl, rfl⟩ | ⟨hlt, xf', h3, hm, hN⟩
  · have := nears_first (X := []) (x := x) (fun y hy => by cases hy)
    rw [List.take_zero] at e1
    exact .inr ⟨by omega, x, hx, (by rw [e1]; intro y hy; rw [List.mem_singleton.1 hy]; exact pre_irr _), (by rw [e1]; exact this)⟩
  · obtain rfl : xf = xf' := Option.some.inj (hf.symm.trans h3)
    have := nears_new hN (mem_takeR hf hlt) hm h1 h2 hn
    rw [e2] at this
    exact .inr ⟨by omega, xf, hf, by rw [e1]; exact first_worse hm h1, by rw [e1]; exact this⟩
theorem NInv.take (h : NInv X k f F) (hx : X[k]? = some x) (hf : X[f]? = some xf) (h1 : ¬ preLt x xf) (h2 : ¬ preLt xf x) {w : Nat} {g : Rn} (hn : F x.near = some w) (hg : X[w]? = some g) (hb : medLt x g) : NInv X (k + 1) f (setF F x.near k) := by
  obtain ⟨e1, e2⟩ := take_snocR hx
  rcases h with ⟨rfl, rfl, rfl⟩ | ⟨hlt, xf', h3, hm, hN⟩
  · cases hn
  · obtain rfl : xf = xf' := Option.some.inj (hf.symm.trans h3)
    obtain ⟨g', g1, _⟩ := hN.1 _ _ hn
    have hg' : (X.take k)[w]? = some g := by
      rw [List.getElem?_take] at g1 ⊢
      split at g1
      · rename_i q; rw [if_pos q]; exact hg
      · cases g1
    have := nears_better hN (mem_takeR hf hlt) hm h1 h2 hn hg' hb
    rw [e2] at this
    exact .inr ⟨by omega, xf, hf, by rw [e1]; exact first_worse hm h1, by rw [e1]; exact this⟩
theorem NInv.leave (h : NInv X k f F) (hx : X[k]? = some x) (hf : X[f]? = some xf) (h1 : ¬ preLt x xf) (h2 : ¬ preLt xf x) {w : Nat} {g : Rn} (hn : F x.near = some w) (hg : X[w]? = some g) (hb : ¬ medLt x g) : NInv X (k + 1) f F := by
  obtain ⟨e1, e2⟩ := take_snocR hx
  rcases h with ⟨rfl, rfl, rfl⟩ | ⟨hlt, xf', h3, hm, hN⟩
  · cases hn
  · obtain rfl : xf = xf' := Option.some.inj (hf.symm.trans h3)
    obtain ⟨g', g1, _⟩ := hN.1 _ _ hn
    have hg' : (X.take k)[w]? = some g := by
      rw [List.getElem?_take] at g1 ⊢
      split at g1
      · rename_i q; rw [if_pos q]; exact hg
      · cases g1
    exact .inr ⟨by omega, xf, hf, by rw [e1]; exact first_worse hm h1, by rw [e1]; exact nears_keep hN (mem_takeR hf hlt) hm h1 h2 hn hg' hb⟩
theorem NInv.fin (h : NInv X X.length f F) : Nears X F := by
  rcases h with ⟨h0, _, rfl⟩ | ⟨_, xf, _, _, hN⟩
  · rw [List.eq_nil_of_length_eq_zero h0]; exact nears_nil
  · rwa [List.take_length] at hN
end

section
open Go.Maps
variable {ops : Array Oper} {rest : List Oper} {o : Oper} {a : Act} {Q : Exit → Act → World → Prop}
theorem wpList_putN (w : World) (hg : o.guard = none) (m x v : Operand) (hop : o.op = Op.mapUpdate 59 m x v) (b n : Nat) (F : Int → Option Nat) (hm : a.eval m = .map (some b)) (h : MapN w b n F) (hn : n < maxLen)
    (k : Int) (hx : a.eval x = .int .u32 k) (hk : (Lit.int .u32 k).wf = true) (i : Nat) (hv : a.eval v = .int .i64 (i : Int)) (hi : i ≤ 1000000)
    (hK : ∀ w', MapN w' b (n + 1) (setF F k i) → w.mapTurned w' b → wpList Try.prog ops Q rest (a.put o.dst undef) w') : wpList Try.prog ops Q (o :: rest) a w := by
  refine wpList_plain hg fun K' hK' => ?_
  obtain ⟨w', hrun, r1, r2⟩ := h.put hn hk i hi
  unfold Oper.wp
  simp [execOp, hop, hm, hx, hv, hrun, Result.andThen]
  exact hK' _ _ (hK w' r1 r2)
theorem wpList_clearN (w : World) (hg : o.guard = none) (m : Operand) (hop : o.op = Op.call { callee := Callee.builtin Builtin.clear, args := #[m], argTypes := #[59] }) (b n : Nat) (F : Int → Option Nat) (hm : a.eval m = .map (some b)) (h : MapN w b n F)
    (hK : ∀ w', MapN w' b 0 (fun _ => none) → w.mapTurned w' b → wpList Try.prog ops Q rest (a.put o.dst (.tuple #[])) w') : wpList Try.prog ops Q (o :: rest) a w := by
  refine wpList_plain hg fun K' hK' => ?_
  obtain ⟨w', hrun, r1, r2⟩ := h.clear o.type
  unfold Oper.wp
  simp [execOp, hop, resolve, invoke, builtin, hm, hrun, Result.andThen]
  exact hK' _ _ (hK w' r1 r2)
end
end Go.Proofs.Ytpjhidicgclmbaa

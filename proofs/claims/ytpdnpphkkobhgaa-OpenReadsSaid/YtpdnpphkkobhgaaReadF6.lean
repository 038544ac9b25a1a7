/-
  Which OPEN any bytes say: lists; no program stands here.
-/
import Derived.Test.YtpdnpphkkobhgaaCapsF6
namespace Go.Proofs.Ytpdnpphkkobhgaa
set_option linter.unusedVariables false

abbrev Caps := List (Int × List UInt8)
def pre (M : Caps) : Except Nat Caps → Except Nat Caps
  | .error e => .error e
  | .ok M' => .ok (M ++ M')
theorem pre_nil (x : Except Nat Caps) : pre [] x = x := by cases x <;> rfl
theorem pre_pre (M N : Caps) (x : Except Nat Caps) : pre M (pre N x) = pre (M ++ N) x := by cases x <;> simp [pre]
/-- The capabilities of all parameters, or the fault's Sub. -/
def paramP : Nat → List UInt8 → Except Nat Caps
  | 0, _ => .error 0
  | n + 1, l => if l = [] then .ok [] else if (nextP l false).bad then .error 0 else if (nextP l false).kind ≠ 2 then .error 4 else
    match capsP ((nextP l false).val.length + 1) (nextP l false).val with
    | none => .error 0
    | some M => pre M (paramP n (nextP l false).rest)
theorem paramP_succ (n : Nat) (l : List UInt8) : paramP (n + 1) l = if l = [] then .ok [] else if (nextP l false).bad then .error 0 else if (nextP l false).kind ≠ 2 then .error 4 else
    match capsP ((nextP l false).val.length + 1) (nextP l false).val with
    | none => .error 0
    | some M => pre M (paramP n (nextP l false).rest) := rfl
/-- k parameters were read, which say M; R is left. -/
def ParInv (l : List UInt8) (k : Nat) (M : Caps) (R : List UInt8) : Prop :=
  k * 2 + R.length ≤ l.length ∧ paramP (l.length + 1) l = pre M (paramP (l.length + 1 - k) R)
theorem ParInv.start (l : List UInt8) : ParInv l 0 [] l := ⟨by omega, by rw [pre_nil]; rfl⟩
section
variable {l R : List UInt8} {k : Nat} {M : Caps}
theorem ParInv.step (h : ParInv l k M R) (hr : R ≠ []) : ∃ n, l.length + 1 - k = n + 1 ∧ n = l.length + 1 - (k + 1) ∧ paramP (l.length + 1) l = pre M (paramP (n + 1) R) := by
  obtain ⟨h1, h2⟩ := h
  have hp := List.length_pos_iff.2 hr
  refine ⟨l.length - k, by omega, by omega, ?_⟩
  rw [h2, show l.length + 1 - k = l.length - k + 1 by omega]
theorem ParInv.more (h : ParInv l k M R) (hr : R ≠ []) (hb : (nextP R false).bad = false) (hk : (nextP R false).kind = 2) {N : Caps} (hc : capsP ((nextP R false).val.length + 1) (nextP R false).val = some N) : ParInv l (k + 1) (M ++ N) (nextP R false).rest := by
  obtain ⟨n, _, h4, h5⟩ := h.step hr
  have h3 := next_less hb
  refine ⟨by have := h.1; omega, ?_⟩
  rw [h5, ← h4, paramP_succ, if_neg hr, hb, if_neg (by simp), if_neg (by simp [hk]), hc]
  exact pre_pre _ _ _
theorem ParInv.bad (h : ParInv l k M R) (hr : R ≠ []) (hb : (nextP R false).bad = true) : paramP (l.length + 1) l = .error 0 := by
  obtain ⟨n, _, _, h5⟩ := h.step hr
  rw [h5, paramP_succ, if_neg hr, if_pos hb]
  rfl
theorem ParInv.kind (h : ParInv l k M R) (hr : R ≠ []) (hb : (nextP R false).bad = false) (hk : (nextP R false).kind ≠ 2) : paramP (l.length + 1) l = .error 4 := by
  obtain ⟨n, _, _, h5⟩ := h.step hr
  rw [h5, paramP_succ, if_neg hr, hb, if_neg (by simp), if_pos hk]
  rfl
theorem ParInv.none (h : ParInv l k M R) (hr : R ≠ []) (hb : (nextP R false).bad = false) (hk : (nextP R false).kind = 2) (hc : capsP ((nextP R false).val.length + 1) (nextP R false).val = .none) : paramP (l.length + 1) l = .error 0 := by
  obtain ⟨n, _, _, h5⟩ := h.step hr
  rw [h5, paramP_succ, if_neg hr, hb, if_neg (by simp), if_neg (by simp [hk]), hc]
  rfl
theorem ParInv.fin (h : ParInv l k M []) : paramP (l.length + 1) l = .ok M := by
  obtain ⟨h1, h2⟩ := h
  obtain ⟨n, hn⟩ : ∃ n, l.length + 1 - k = n + 1 := ⟨l.length - k, by simp at h1; omega⟩
  rw [h2, hn]
  simp [paramP, pre]
end
/-- What an OPEN says: its four numbers, its capabilities. -/
structure Op where
  ver : Int
  sys : Int
  hold : Int
  id : Int
  caps : Caps
/-- The OPEN of a body, or the fault's Sub. -/
def readF (l : List UInt8) : Except Nat Op :=
  if l.length < 10 ∨ (l.getD 9 0).toNat ≠ l.length - 10 then .error 0 else
  match paramP (l.length - 10 + 1) (l.drop 10) with
  | .error e => .error e
  | .ok M => .ok ⟨num (l.take 1), num ((l.drop 1).take 2), num ((l.drop 3).take 2), num ((l.drop 5).take 4), M⟩
end Go.Proofs.Ytpdnpphkkobhgaa

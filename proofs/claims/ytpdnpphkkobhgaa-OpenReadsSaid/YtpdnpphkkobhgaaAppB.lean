/-
  One byte appended behind a block of the call's own; blocks that an append leaves.
-/
import Derived.Test.YtpdnpphkkobhgaaBase
namespace Go.Proofs.Ytpdnpphkkobhgaa
set_option linter.unusedVariables false
set_option linter.unusedSimpArgs false
open Go.RowKit

theorem wpList_append_byte_at {P : Program} {w : World} {ops : Array Oper} {rest : List Oper} {o : Oper} {a : Act} {Q : Exit → Act → World → Prop} {t e : TypeId} (T : IsBytes P t e) (hgd : o.guard = none) (s x : Operand) (ho : o.op = .call { callee := .builtin .append, args := #[s, x], argTypes := #[t, t] })
    (w0 : World) (v : Value) (l : List UInt8) (hs : a.eval s = v) (wr : World) (N : Int) (hw : w = wr.alloc (.cells #[.int .u8 N] e)) (hown : Own wr w0.heap.size e v l) (H : Nat) (hx : a.eval x = .slice (some ⟨H, 0, none⟩) 1 1) (hH : wr.heap.size = H)
    (h0 : 0 ≤ N) (h1 : N < 256) (hsz : l.length < 140737488355328) (hb : Below w0.heap.size w0 wr)
    (h : ∀ v' w', Own w' w0.heap.size e v' (l ++ [UInt8.ofNat N.toNat]) → wr.grownBy w' v.ownBlock → Below w0.heap.size w0 w' → wpList P ops Q rest (a.put o.dst v') w') : wpList P ops Q (o :: rest) a w := by
  subst hH
  exact wpList_append_byte T hgd s x ho w0 v l hs wr N hw hown hx h0 h1 hsz hb h
theorem Own.ne_blk {w : World} {B e g T : Nat} {v : Value} {l : List UInt8} {cs : List Value} (h : Own w B e v l) (hk : Blk w g T cs) (hne : e ≠ T) : v.ownBlock ≠ some g := by
  intro he
  rcases h.2 with ⟨rfl, _⟩ | ⟨k, cap, cur, rfl, _, hr, _⟩
  · cases he
  · obtain rfl : k = g := by simpa [Value.ownBlock] using he
    have h2 := hr.symm.trans hk
    simp only [Option.some.injEq, Obj.cells.injEq] at h2
    exact hne h2.2.1
theorem Blk.row {w w' : World} {g T : Nat} {cs : List Value} {r : Option Nat} (hk : Blk w g T cs) (hg : w.grownBy w' r) (hne : r ≠ some g) : Blk w' g T cs := (hg.block g hk.lt (by intro e; exact hne e.symm)).trans hk
end Go.Proofs.Ytpdnpphkkobhgaa

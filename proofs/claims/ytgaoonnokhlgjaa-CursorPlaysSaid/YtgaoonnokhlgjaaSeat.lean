/-
  What is said of every seat that knows bytes: its []byte; what a call leaves that returns bytes of its own making.
-/
import Derived.Test.YtgaoonnokhlgjaaChecked
import Derived.Test.YtgaoonnokhlgjaaBase
import Derived.Outline
namespace Go.Proofs.Ytgaoonnokhlgjaa
open Go.RowKit

/-- What a call leaves that returns bytes of its own making. -/
def RetBytes (w : World) (l : List UInt8) (e : Ending) (w' : World) : Prop :=
  ∃ A c, e = .returned (.slice A l.length c) ∧ l.length ≤ c ∧ c ≤ maxLen ∧ Own w' w.heap.size 5 (.slice A l.length c) l ∧ Below w.heap.size w w'
theorem ret_own {w w' : World} {A : Option Addr} {n c : Nat} {l l' : List UInt8} (hn : n = l.length) (h1 : l.length ≤ c) (h2 : c ≤ maxLen) (ho : Own w' w.heap.size 5 (.slice A l.length c) l) (hb : Below w.heap.size w w') (hl : l = l') : RetBytes w l' (.returned (.slice A n c)) w' := by
  subst hl; subst hn
  exact ⟨A, c, rfl, h1, h2, ho, hb⟩
end Go.Proofs.Ytgaoonnokhlgjaa

/-
  When two lists of bytes are the same to the document.
-/
import Derived.Test.YtgbialnnfadlgaaSeat
namespace Go.Proofs.Ytgbialnnfadlgaa
open Go.RowKit

set_option maxHeartbeats 400000 in
theorem Same_any (A A' : Option Addr) (n n' c c' : Nat) (l m : List UInt8) (hn : n = l.length) (hn' : n' = m.length) (w : World) (h : Bytes w A l) (h' : Bytes w A' m) :
    Calls Try.prog 13 #[.slice A n c, .slice A' n' c'] w fun e w' => e = .returned (.bool (l == m)) ∧ w = w' := by
  subst hn; subst hn'
  have k1 := conv_bytes (d := 9) isBytes Try.underlying9 h c
  have k2 := conv_bytes (d := 9) isBytes Try.underlying9 h' c'
  clear h h'
  go_enter Try.func13, Try.ntmps13
  go_wp2_with fail
  go_ret
  exact ⟨rfl, rfl⟩
end Go.Proofs.Ytgbialnnfadlgaa

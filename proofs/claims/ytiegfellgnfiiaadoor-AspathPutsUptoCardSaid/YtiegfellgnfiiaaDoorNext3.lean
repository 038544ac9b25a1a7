/-
  The number that a reader of a path is at.
-/
import Derived.Test.YtiegfellgnfiiaaDoorU32
import Derived.Test.YtiegfellgnfiiaaDoorU16
namespace Go.Proofs.YtiegfellgnfiiaaDoor
set_option linter.unusedVariables false
set_option linter.unusedSimpArgs false
open Go.RowKit

def nextN (wide : Bool) : Int := if wide = true then 4 else 2
theorem next3_any (B g : Nat) (l : List UInt8) (s wide : Bool) (w : World) (h : Rd w B g l s) :
    Calls Tryd.prog 64 #[.pointer (some ⟨g, 0, none⟩), .bool wide] w (NumPost .u32 w B g (rdTake l s (nextN wide)).1 (rdTake l s (nextN wide)).2.1 (rdTake l s (nextN wide)).2.2) := by
  cases wide with
  | true =>
    have e : nextN true = 4 := rfl
    rw [e]
    have Q := Lib.hid (U32_any B g l s w h)
    obtain ⟨X, hX⟩ : ∃ X, X = rdTake l s 4 := ⟨_, rfl⟩
    rw [← hX] at Q ⊢
    clear h hX e
    go_enter Tryd.func64, Tryd.ntmps64
    go_wp2_with fail
    refine Q.out.mono ?_
    rintro e w1 ⟨rfl, h1, h2⟩
    have H1 := Lib.hid h1; have H2 := Lib.hid h2; clear h1 h2
    go_wp2_with fail
    go_ret
    exact ⟨rfl, H1.out, H2.out⟩
  | false =>
    have e : nextN false = 2 := rfl
    rw [e]
    have hr := rdTake_len l s 2
    have Q := Lib.hid (U16_any B g l s w h)
    obtain ⟨X, hX⟩ : ∃ X, X = rdTake l s 2 := ⟨_, rfl⟩
    rw [← hX] at Q hr ⊢
    have hn := num_lt4 (l := X.1) (by omega)
    obtain ⟨y, hy⟩ : ∃ y, y = num X.1 := ⟨_, rfl⟩
    have HY := Lib.hid hy
    rw [← hy] at hn
    have hnI : (y : Int) < 4294967296 := by omega
    have Q2 := Lib.hid (show Calls Tryd.prog 88 #[.pointer (some ⟨g, 0, none⟩)] w (fun e w' => e = .returned (.int .i64 (y : Int)) ∧ Rd w' B g X.2.1 X.2.2 ∧ w.grownBy w' (some g)) from Q.out.mono (fun e w' ⟨h1, h2, h3⟩ => ⟨by rw [HY.out]; exact h1, h2, h3⟩))
    clear h hX e hr hn hy Q
    go_enter Tryd.func64, Tryd.ntmps64
    go_wp2_with fail
    refine Q2.out.mono ?_
    rintro e w1 ⟨rfl, h1, h2⟩
    have H1 := Lib.hid h1; have H2 := Lib.hid h2; clear h1 h2
    go_wp2_with fail
    go_ret
    exact ⟨by rw [← HY.out]; rfl, H1.out, H2.out⟩
end Go.Proofs.YtiegfellgnfiiaaDoor

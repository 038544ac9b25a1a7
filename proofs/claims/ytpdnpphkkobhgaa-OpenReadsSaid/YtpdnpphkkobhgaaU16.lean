/-
  The reader's U16.
-/
import Derived.Test.YtpdnpphkkobhgaaByte
namespace Go.Proofs.Ytpdnpphkkobhgaa
open Go.RowKit

theorem U16_any (B g : Nat) (l : List UInt8) (s : Bool) (w : World) (h : Rd w B g l s) :
    Calls Try.prog 36 #[.pointer (some ⟨g, 0, none⟩)] w (NumPost .i64 w B g (rdTake l s 2).1 (rdTake l s 2).2.1 (rdTake l s 2).2.2) := by
  have hb := h.1
  have hlt := h.lt
  have hr := rdTake_len l s 2
  have h38 := Lib.hid (next_any 2 B g l s w h)
  clear h
  obtain ⟨X, hX⟩ : ∃ X, X = rdTake l s 2 := ⟨_, rfl⟩
  rw [← hX] at h38 hr ⊢
  have HX := Lib.hid hX; clear hX
  have hn := num_lt4 (l := X.1) (by omega)
  go_enter Try.func36, Try.ntmps36
  go_wp2_with fail
  refine h38.out.mono ?_
  rintro e w1 ⟨A1, c1, rfl, f1, f2, hA1, hR1, hg1⟩
  have HA := Lib.hid hA1; have HR := Lib.hid hR1; have HG := Lib.hid hg1; clear hA1 hR1 hg1
  go_wp2_with fail
  refine (number_any A1 _ c1 X.1 rfl w1 (by omega) (HA.out.bytes (Nat.le_trans hb (Nat.le_trans (Nat.le_of_lt hlt) HG.out.size)))).mono ?_
  rintro e w2 ⟨rfl, rfl⟩
  go_wp2_with fail
  go_ret
  exact ⟨rfl, HR.out, HG.out⟩
theorem U16_nil (w : World) : Calls Try.prog 36 #[.pointer none] w fun e w' => e = .returned (.int .i64 0) ∧ w = w' := by
  go_enter Try.func36, Try.ntmps36
  go_wp2_with fail
  refine (next_nil 2 w).mono ?_
  rintro e w1 ⟨rfl, rfl⟩
  go_wp2_with fail
  refine (number_nil w).mono ?_
  rintro e w1 ⟨rfl, rfl⟩
  go_wp2_with fail
  go_ret
  exact ⟨rfl, rfl⟩
end Go.Proofs.Ytpdnpphkkobhgaa

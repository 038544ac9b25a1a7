/-
  The reader's Byte, Left, Err and Take.
-/
import Derived.Test.YtpdnpphkkobhgaaRead
import Derived.Test.YtpdnpphkkobhgaaNum
namespace Go.Proofs.Ytpdnpphkkobhgaa
open Go.RowKit

/-- What a Take leaves: bytes of its own. -/
def TakePost (w : World) (B g : Nat) (res rest : List UInt8) (s : Bool) (e : Ending) (w' : World) : Prop :=
  ∃ A c, e = .returned (.slice A res.length c) ∧ res.length ≤ c ∧ c ≤ maxLen ∧ Own w' w.heap.size 5 (.slice A res.length c) res ∧ Rd w' B g rest s ∧ w.grownBy w' (some g)
theorem Take_any (n : Int) (B g : Nat) (l : List UInt8) (s : Bool) (w : World) (h : Rd w B g l s) (hl : l.length ≤ 1000000) :
    Calls Try.prog 51 #[.pointer (some ⟨g, 0, none⟩), .int .i64 n] w (TakePost w B g (rdTake l s n).1 (rdTake l s n).2.1 (rdTake l s n).2.2) := by
  have hb := h.1
  have hlt := h.lt
  have hr := rdTake_len l s n
  have h38 := Lib.hid (next_any n B g l s w h)
  clear h
  obtain ⟨X, hX⟩ : ∃ X, X = rdTake l s n := ⟨_, rfl⟩
  rw [← hX] at h38 hr ⊢
  have HX := Lib.hid hX; clear hX
  go_enter Try.func51, Try.ntmps51
  go_wp2_with fail
  refine h38.out.mono ?_
  rintro e w1 ⟨A1, c1, rfl, f1, f2, hA1, hR1, hg1⟩
  have HA := Lib.hid hA1; have HR := Lib.hid hR1; have HG := Lib.hid hg1; clear hA1 hR1 hg1
  go_wp2_with fail
  refine (Clone_any A1 _ c1 X.1 rfl w1 (HA.out.bytes (Nat.le_trans hb (Nat.le_trans (Nat.le_of_lt hlt) HG.out.size))) (by omega)).mono ?_
  rintro e w2 ⟨A2, c2, rfl, k1, k2, hown2, hb2⟩
  have HO := Lib.hid hown2; have HB := Lib.hid hb2; clear hown2 hb2
  go_wp2_with fail
  go_ret
  exact ⟨A2, c2, rfl, k1, k2, HO.out.lower HG.out.size, HR.out.below HB.out HR.out.lt, grown_trans HG.out (grown_of_below HB.out _)⟩
/-- What a number leaves. -/
def NumPost (k : IntKind) (w : World) (B g : Nat) (res rest : List UInt8) (s : Bool) (e : Ending) (w' : World) : Prop :=
  e = .returned (.int k (num res : Nat)) ∧ Rd w' B g rest s ∧ w.grownBy w' (some g)
theorem Byte_any (B g : Nat) (l : List UInt8) (s : Bool) (w : World) (h : Rd w B g l s) :
    Calls Try.prog 35 #[.pointer (some ⟨g, 0, none⟩)] w (NumPost .i64 w B g (rdTake l s 1).1 (rdTake l s 1).2.1 (rdTake l s 1).2.2) := by
  have hb := h.1
  have hlt := h.lt
  have hr := rdTake_len l s 1
  have h38 := Lib.hid (next_any 1 B g l s w h)
  clear h
  obtain ⟨X, hX⟩ : ∃ X, X = rdTake l s 1 := ⟨_, rfl⟩
  rw [← hX] at h38 hr ⊢
  have HX := Lib.hid hX; clear hX
  have hn := num_lt4 (l := X.1) (by omega)
  go_enter Try.func35, Try.ntmps35
  go_wp2_with fail
  refine h38.out.mono ?_
  rintro e w1 ⟨A1, c1, rfl, f1, f2, hA1, hR1, hg1⟩
  have HA := Lib.hid hA1; have HR := Lib.hid hR1; have HG := Lib.hid hg1; clear hA1 hR1 hg1
  go_wp2_with fail
  refine (number_any A1 _ c1 X.1 rfl w1 (by omega) (HA.out.bytes (Nat.le_trans hb (Nat.le_trans (Nat.le_of_lt hlt) HG.out.size)))).mono ?_
  rintro e w2 ⟨rfl, rfl⟩
  go_wp2_with fail
  go_ret
  exact ⟨rfl, HR.out, HG.out⟩
theorem Left_any (B g : Nat) (l : List UInt8) (s : Bool) (w : World) (h : Rd w B g l s) :
    Calls Try.prog 39 #[.pointer (some ⟨g, 0, none⟩)] w fun e w' => e = .returned (.int .i64 l.length) ∧ w = w' := by
  obtain ⟨hB, A, c, hk, hl, hm, hA⟩ := h
  have c0 : w.cell? ⟨g, 0, none⟩ = some (.slice A l.length c) := hk.cell 0
  clear hk hA
  go_enter Try.func39, Try.ntmps39
  go_wp2_with fail
  go_ret
  exact ⟨rfl, rfl⟩
/-- The number of a reader's error. -/
def errN (s : Bool) : Int := match s with | true => 3 | false => 0
theorem Err_any (B g : Nat) (l : List UInt8) (s : Bool) (w : World) (h : Rd w B g l s) :
    Calls Try.prog 38 #[.pointer (some ⟨g, 0, none⟩)] w fun e w' => e = .returned (.int .i64 (errN s)) ∧ w = w' := by
  obtain ⟨hB, A, c, hk, hl, hm, hA⟩ := h
  have c1 : w.cell? ⟨g, 1, none⟩ = some (.bool s) := hk.cell 1
  clear hk hA
  cases s with
  | false =>
    go_enter Try.func38, Try.ntmps38
    go_wp2_with fail
    go_ret
    exact ⟨rfl, rfl⟩
  | true =>
    go_enter Try.func38, Try.ntmps38
    go_wp2_with fail
    go_ret
    exact ⟨rfl, rfl⟩
theorem number_nil (w : World) : Calls Try.prog 49 #[.slice none 0 0] w fun e w' => e = .returned (.int .u32 0) ∧ w = w' :=
  number_any none 0 0 [] rfl w (by decide) (Bytes.nil _ _)
theorem Byte_nil (w : World) : Calls Try.prog 35 #[.pointer none] w fun e w' => e = .returned (.int .i64 0) ∧ w = w' := by
  go_enter Try.func35, Try.ntmps35
  go_wp2_with fail
  refine (next_nil 1 w).mono ?_
  rintro e w1 ⟨rfl, rfl⟩
  go_wp2_with fail
  refine (number_nil w).mono ?_
  rintro e w1 ⟨rfl, rfl⟩
  go_wp2_with fail
  go_ret
  exact ⟨rfl, rfl⟩
theorem Take_nil (n : Int) (w : World) : Calls Try.prog 51 #[.pointer none, .int .i64 n] w fun e w' => e = .returned (.slice none 0 0) ∧ w = w' := by
  go_enter Try.func51, Try.ntmps51
  go_wp2_with fail
  refine (next_nil n w).mono ?_
  rintro e w1 ⟨rfl, rfl⟩
  go_wp2_with fail
  refine (Clone_nil 0 w).mono ?_
  rintro e w1 ⟨rfl, rfl⟩
  go_wp2_with fail
  go_ret
  exact ⟨rfl, rfl⟩
theorem Left_nil (w : World) : Calls Try.prog 39 #[.pointer none] w fun e w' => e = .returned (.int .i64 0) ∧ w = w' := by
  go_enter Try.func39, Try.ntmps39
  go_wp2_with fail
  go_ret
  exact ⟨rfl, rfl⟩
theorem Err_nil (w : World) : Calls Try.prog 38 #[.pointer none] w fun e w' => e = .returned (.int .i64 2) ∧ w = w' := by
  go_enter Try.func38, Try.ntmps38
  go_wp2_with fail
  go_ret
  exact ⟨rfl, rfl⟩
end Go.Proofs.Ytpdnpphkkobhgaa

/-
  A prefix's bytes.
-/
import Derived.Test.YtfdeafjkiagjfaaDoorConcat3
import Derived.Test.YtfdeafjkiagjfaaDoorPutB
import Derived.Test.YtfdeafjkiagjfaaDoorHolds
namespace Go.Proofs.YtfdeafjkiagjfaaDoor
set_option linter.unusedVariables false
set_option linter.unusedSimpArgs false
open Go.RowKit

theorem Concat3_at {W : World} {k n0 n1 n2 c0 c1 c2 : Nat} {A0 A1 A2 : Option Addr} (l0 l1 l2 : List UInt8) (e0 : n0 = l0.length) (e1 : n1 = l1.length) (e2 : n2 = l2.length)
    (hk : Blk W k 45 [.slice A0 n0 c0, .slice A1 n1 c1, .slice A2 n2 c2]) (h0 : Bytes W A0 l0) (h1 : Bytes W A1 l1) (h2 : Bytes W A2 l2)
    (hT : l0.length + l1.length + l2.length ≤ 70368744177664) :
    Calls Tryd.prog 49 #[.slice (some ⟨k, 0, none⟩) 3 3] W (RetBytes W ((l0 ++ l1) ++ l2)) := by
  subst e0 e1 e2
  exact Concat3_any k A0 A1 A2 c0 c1 c2 l0 l1 l2 W hk h0 h1 h2 hT

theorem room_any (k : Nat) (w : World) (hk : k ≤ 32) : Calls Tryd.prog 51 #[.int .i64 (k : Int)] w fun e w' => e = .returned (.int .i64 (((k + 7) / 8 : Nat) : Int)) ∧ w = w' := by
  go_enter Tryd.func51, Tryd.ntmps51
  go_wp2
  go_ret
  exact ⟨by go_num, rfl⟩

/-- A prefix's bytes. -/
def bytesP (a k : Nat) : List UInt8 := UInt8.ofNat k :: (be32 a).take ((k + 7) / 8)
def retPut (v : Value) (e : Int) : Value := .tuple #[v, .int .i64 e]

set_option maxHeartbeats 3200000 in
theorem PPut_bad (A : Option Addr) (c : Nat) (l : List UInt8) (a : Nat) (n : Int) (w : World) (ha : a < 4294967296) (h0 : -9223372036854775808 ≤ n) (h1 : n ≤ 9223372036854775807) (hok : okP (a : Int) n = false) :
    Calls Tryd.prog 34 #[.slice A l.length c, .agg #[.int .u32 (a : Int), .int .i64 n]] w fun e w' => e = .returned (retPut (.slice none 0 0) 1) ∧ Below w.heap.size w w' := by
  have QR := fun w => Lib.hid (Right_any a n w ha h0 h1)
  rw [hok] at QR
  clear hok
  go_enter Tryd.func34, Tryd.ntmps34
  go_wp2_with fail
  refine (QR _).out.mono ?_
  rintro e w1 ⟨rfl, hb1⟩
  go_wp2_with fail
  exact bodyPost_ret (v := retPut (.slice none 0 0) 1) (by simp [results, Tryd.results34, go_sem, retPut]) rfl ⟨rfl, below_box hb1⟩
end Go.Proofs.YtfdeafjkiagjfaaDoor

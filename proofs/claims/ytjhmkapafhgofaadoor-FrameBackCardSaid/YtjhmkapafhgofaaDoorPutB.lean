/-
  octet's put of a uint32, and Put32.
-/
import Derived.Test.YtjhmkapafhgofaaDoorSeat
namespace Go.Proofs.YtjhmkapafhgofaaDoor
open Go.RowKit

/-- Four bytes of a number, the highest one first. -/
def be32 (x : Int) : List UInt8 := [UInt8.ofNat (x / 16777216 % 256).toNat, UInt8.ofNat (x / 65536 % 256).toNat, UInt8.ofNat (x / 256 % 256).toNat, UInt8.ofNat (x % 256).toNat]
theorem be32_first {x : Int} (h0 : 0 ≤ x) (h1 : x < 4294967296) : UInt8.ofNat (x / 16777216).toNat = (be32 x).getD 0 0 := by
  have h9 : x / 16777216 % 256 = x / 16777216 := by omega
  simp [be32, h9]
def PutRel4 (w : World) (l : List UInt8) (x : Int) (v i : Value) (wr : World) : Prop :=
  Below w.heap.size w wr ∧ ∃ k : Nat, k ≤ 4 ∧ i = .int .i64 (3 - (k : Int)) ∧ Own wr w.heap.size 5 v (l ++ (be32 x).take k)
theorem take_be32 (l : List UInt8) (x : Int) (w : World) (B e : Nat) (v : Value) (k : Nat) (b : UInt8) (hk : k < 4) (hb : b = (be32 x).getD k 0) (h : Own w B e v (l ++ ((be32 x).take k ++ [b]))) : Own w B e v (l ++ (be32 x).take (k + 1)) := by
  rw [take_snoc (be32 x) k (by simpa [be32] using hk), ← hb]
  exact h
end Go.Proofs.YtjhmkapafhgofaaDoor

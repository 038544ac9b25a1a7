/-
  Numbers in ten digits, as octet writes them.
-/
import Derived.Test.YtpimnbalffaliaaDoorTab
namespace Go.Proofs.YtpimnbalffaliaaDoor
open Go.RowKit

theorem conv_bytes' {P : Program} {w : World} {t e d : TypeId} (T : IsBytes P t e) (hd : P.underlying d = some .string) {A : Option Addr} {l : List UInt8} (h : Bytes w A l) (c : Nat) {n : Nat} (hn : n = l.length) : (convert t d (.slice A n c)).run P w = .ok (.string ⟨l.toArray⟩) w := by
  subst hn
  exact conv_bytes T hd h c
/-- A number in digits, below 0 with a sign. -/
def textL (n : Int) : List UInt8 := if n < 0 then 45 :: dec n.natAbs else dec n.natAbs
theorem ba_append (l m : List UInt8) : (⟨l.toArray⟩ : ByteArray) ++ ⟨m.toArray⟩ = ⟨(l ++ m).toArray⟩ := by
  apply ByteArray.ext
  simp [ByteArray.data_append]
theorem textL_pos (a : Nat) : textL (a : Int) = dec a := by
  unfold textL
  rw [if_neg (by omega)]
  simp
theorem textL_neg (a : Nat) (h : 0 < a) : textL (-(a : Int)) = 45 :: dec a := by
  unfold textL
  rw [if_pos (by omega)]
  simp
theorem neg_wrap (a : Nat) (h0 : 0 < a) (h1 : a ≤ 9223372036854775808) : IntKind.u64.wrap (-IntKind.u64.wrap (-(a : Int))) = (a : Int) := by
  simp only [IntKind.wrap, IntKind.bits, IntKind.signed]
  simp
  omega
end Go.Proofs.YtpimnbalffaliaaDoor

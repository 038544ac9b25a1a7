/-
  What was put is read: the reader's calls at numbers that were put.
-/
import Derived.Test.YtjfbfboecpbgbaaDoorFrame
namespace Go.Proofs.YtjfbfboecpbgbaaDoor
open Go.RowKit

theorem num_be16 {x : Int} (h0 : 0 ≤ x) (h1 : x ≤ 65535) : ((num (be16 x) : Nat) : Int) = x := by
  have e1 : num (be16 x) = (x / 256 % 256).toNat * 256 + (x % 256).toNat := by
    simp only [num, be16, List.foldl_cons, List.foldl_nil, UInt8.toNat_ofNat']
    omega
  rw [e1]; omega
theorem num_be32 {x : Int} (h0 : 0 ≤ x) (h1 : x ≤ 4294967295) : ((num (be32 x) : Nat) : Int) = x := by
  have e1 : num (be32 x) = (((x / 16777216 % 256).toNat * 256 + (x / 65536 % 256).toNat) * 256 + (x / 256 % 256).toNat) * 256 + (x % 256).toNat := by
    simp only [num, be32, List.foldl_cons, List.foldl_nil, UInt8.toNat_ofNat']
    omega
  rw [e1]; omega
theorem rdTake_ahead (a r : List UInt8) (s : Bool) : rdTake (a ++ r) s (a.length : Int) = (a, r, s) := by
  unfold rdTake
  rw [if_pos ⟨by omega, by rw [List.length_append]; omega⟩]
  simp
theorem rdTake_all (a : List UInt8) (s : Bool) : rdTake a s (a.length : Int) = (a, [], s) := by
  have := rdTake_ahead a [] s
  simpa using this

theorem U16_back {x : Int} (h0 : 0 ≤ x) (h1 : x ≤ 65535) (B g : Nat) (r : List UInt8) (w : World) (h : Rd w B g (be16 x ++ r) false) :
    Calls Tryd.prog 19 #[.pointer (some ⟨g, 0, none⟩)] w fun e w' => e = .returned (.int .i64 x) ∧ Rd w' B g r false ∧ w.grownBy w' (some g) := by
  have h2 := U16_any B g _ false w h
  have e1 : rdTake (be16 x ++ r) false 2 = (be16 x, r, false) := rdTake_ahead (be16 x) r false
  rw [e1] at h2
  refine h2.mono fun e w' hh => ?_
  obtain ⟨h3, h4, h5⟩ := hh
  exact ⟨by rw [h3, num_be16 h0 h1], h4, h5⟩
theorem U32_back {x : Int} (h0 : 0 ≤ x) (h1 : x ≤ 4294967295) (B g : Nat) (r : List UInt8) (w : World) (h : Rd w B g (be32 x ++ r) false) :
    Calls Tryd.prog 20 #[.pointer (some ⟨g, 0, none⟩)] w fun e w' => e = .returned (.int .u32 x) ∧ Rd w' B g r false ∧ w.grownBy w' (some g) := by
  have h2 := U32_any B g _ false w h
  have e1 : rdTake (be32 x ++ r) false 4 = (be32 x, r, false) := rdTake_ahead (be32 x) r false
  rw [e1] at h2
  refine h2.mono fun e w' hh => ?_
  obtain ⟨h3, h4, h5⟩ := hh
  exact ⟨by rw [h3, num_be32 h0 h1], h4, h5⟩
/-- All that is left is taken: what it says as a text; the reader at its end. -/
theorem Take_back (B g : Nat) (l : List UInt8) (w : World) (h : Rd w B g l false) (hl : l.length ≤ 1000000) :
    Calls Tryd.prog 21 #[.pointer (some ⟨g, 0, none⟩), .int .i64 (l.length : Int)] w (TakePost w B g l [] false) := by
  have h2 := Take_any (l.length : Int) B g l false w h hl
  rw [rdTake_all] at h2
  exact h2

theorem be16_two (x : Int) : ∃ b0 b1, be16 x = [b0, b1] := ⟨_, _, rfl⟩
theorem be32_four (x : Int) : ∃ b0 b1 b2 b3, be32 x = [b0, b1, b2, b3] := ⟨_, _, _, _, rfl⟩
theorem U16_lit {x : Int} (h0 : 0 ≤ x) (h1 : x ≤ 65535) {b0 b1 : UInt8} (e : be16 x = [b0, b1]) (B g : Nat) (r : List UInt8) (w : World) (h : Rd w B g (b0 :: b1 :: r) false) :
    Calls Tryd.prog 19 #[.pointer (some ⟨g, 0, none⟩)] w fun e w' => e = .returned (.int .i64 x) ∧ Rd w' B g r false ∧ w.grownBy w' (some g) :=
  U16_back h0 h1 B g r w (by rw [e]; exact h)
theorem U32_lit {x : Int} (h0 : 0 ≤ x) (h1 : x ≤ 4294967295) {b0 b1 b2 b3 : UInt8} (e : be32 x = [b0, b1, b2, b3]) (B g : Nat) (r : List UInt8) (w : World) (h : Rd w B g (b0 :: b1 :: b2 :: b3 :: r) false) :
    Calls Tryd.prog 20 #[.pointer (some ⟨g, 0, none⟩)] w fun e w' => e = .returned (.int .u32 x) ∧ Rd w' B g r false ∧ w.grownBy w' (some g) :=
  U32_back h0 h1 B g r w (by rw [e]; exact h)
end Go.Proofs.YtjfbfboecpbgbaaDoor

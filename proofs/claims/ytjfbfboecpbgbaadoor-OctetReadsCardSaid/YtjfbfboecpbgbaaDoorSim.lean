/-
  The reader's calls, said by the document's reader.
-/
import Derived.Test.YtjfbfboecpbgbaaDoorBack
namespace Go.Proofs.YtjfbfboecpbgbaaDoor
open Go.RowKit

theorem Byte_sim (B g : Nat) (l : List UInt8) (k : Nat) (s : Bool) (w : World) (h : Rd w B g (before l k s) s) (hk : k ≤ l.length) :
    Calls Tryd.prog 17 #[.pointer (some ⟨g, 0, none⟩)] w fun e w' => e = .returned (.int .i64 (num (refTake l k s 1).1 : Nat)) ∧
      Rd w' B g (before l (refTake l k s 1).2.1 (refTake l k s 1).2.2) (refTake l k s 1).2.2 ∧ w.grownBy w' (some g) := by
  have h2 := Byte_any B g _ s w h
  obtain ⟨e1, e2, e3, _⟩ := readers_same l k s 1 hk
  rw [e1, e2, e3] at h2
  exact h2

theorem U16_sim (B g : Nat) (l : List UInt8) (k : Nat) (s : Bool) (w : World) (h : Rd w B g (before l k s) s) (hk : k ≤ l.length) :
    Calls Tryd.prog 19 #[.pointer (some ⟨g, 0, none⟩)] w fun e w' => e = .returned (.int .i64 (num (refTake l k s 2).1 : Nat)) ∧
      Rd w' B g (before l (refTake l k s 2).2.1 (refTake l k s 2).2.2) (refTake l k s 2).2.2 ∧ w.grownBy w' (some g) := by
  have h2 := U16_any B g _ s w h
  obtain ⟨e1, e2, e3, _⟩ := readers_same l k s 2 hk
  rw [e1, e2, e3] at h2
  exact h2

theorem U32_sim (B g : Nat) (l : List UInt8) (k : Nat) (s : Bool) (w : World) (h : Rd w B g (before l k s) s) (hk : k ≤ l.length) :
    Calls Tryd.prog 20 #[.pointer (some ⟨g, 0, none⟩)] w fun e w' => e = .returned (.int .u32 (num (refTake l k s 4).1 : Nat)) ∧
      Rd w' B g (before l (refTake l k s 4).2.1 (refTake l k s 4).2.2) (refTake l k s 4).2.2 ∧ w.grownBy w' (some g) := by
  have h2 := U32_any B g _ s w h
  obtain ⟨e1, e2, e3, _⟩ := readers_same l k s 4 hk
  rw [e1, e2, e3] at h2
  exact h2

theorem Take_sim (n : Int) (B g : Nat) (l : List UInt8) (k : Nat) (s : Bool) (w : World) (h : Rd w B g (before l k s) s) (hk : k ≤ l.length) (hl : l.length ≤ 1000000) :
    Calls Tryd.prog 21 #[.pointer (some ⟨g, 0, none⟩), .int .i64 n] w (TakePost w B g (refTake l k s n).1 (before l (refTake l k s n).2.1 (refTake l k s n).2.2) (refTake l k s n).2.2) := by
  have hb : (before l k s).length ≤ l.length := by cases s <;> simp [before]
  have h2 := Take_any n B g _ s w h (by omega)
  obtain ⟨e1, e2, e3, _⟩ := readers_same l k s n hk
  rw [e1, e2, e3] at h2
  exact h2
end Go.Proofs.YtjfbfboecpbgbaaDoor

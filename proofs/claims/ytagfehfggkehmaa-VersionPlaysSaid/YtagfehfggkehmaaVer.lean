/-
  What becomes of what stands in a map, and of how many there are; what has turned but for two blocks; no program stands here.
-/
import Derived.Test.YtagfehfggkehmaaBase
import Derived.Maps.OwnSet
import Derived.Maps.OwnOps
namespace Go.Proofs.Ytagfehfggkehmaa
set_option linter.unusedVariables false
set_option linter.unusedSimpArgs false
open Go.RowKit Go.Maps

def putF {V : Type} (F : Int → Option V) (k : Int) (v : V) : Int → Option V := fun j => if j = k then some v else F j
def delF {V : Type} (F : Int → Option V) (k : Int) : Int → Option V := fun j => if j = k then none else F j
def putC {V : Type} (F : Int → Option V) (k : Int) (c : Nat) : Nat := if (F k).isSome then c else c + 1
def delC {V : Type} (F : Int → Option V) (k : Int) (c : Nat) : Nat := c - if (F k).isSome then 1 else 0

/-- What stands behind drop: what is not the head, and not pinned, is gone. -/
def dropF {V : Type} (F : Int → Option (V × Int)) (z : V) (h k : Int) : Int → Option (V × Int) := if k ≠ h ∧ ((F k).getD (z, 0)).2 = 0 then delF F k else F
def dropC {V : Type} (F : Int → Option (V × Int)) (z : V) (h k : Int) (c : Nat) : Nat := if k ≠ h ∧ ((F k).getD (z, 0)).2 = 0 then delC F k c else c
theorem drop_is {V : Type} (F : Int → Option (V × Int)) (z : V) (h k : Int) (c : Nat) :
    ((k ≠ h ∧ ((F k).getD (z, 0)).2 = 0) → dropF F z h k = delF F k ∧ dropC F z h k c = delC F k c) ∧ (¬ (k ≠ h ∧ ((F k).getD (z, 0)).2 = 0) → dropF F z h k = F ∧ dropC F z h k c = c) :=
  ⟨fun q => ⟨if_pos q, if_pos q⟩, fun q => ⟨if_neg q, if_neg q⟩⟩

/-- All blocks but g and b are as they were. -/
structure Keep2 (w w' : World) (g b : Nat) : Prop where
  os : w'.os = w.os
  tape : w'.tape = w.tape
  output : w'.output = w.output
  size : w.heap.size ≤ w'.heap.size
  block : ∀ k, k < w.heap.size → k ≠ g → k ≠ b → w'.heap[k]? = w.heap[k]?
section
variable {w w1 w2 : World} {g b : Nat}
theorem Keep2.refl (w : World) (g b : Nat) : Keep2 w w g b := ⟨rfl, rfl, rfl, Nat.le_refl _, fun _ _ _ _ => rfl⟩
theorem Keep2.trans (h : Keep2 w w1 g b) (k : Keep2 w1 w2 g b) : Keep2 w w2 g b :=
  ⟨k.os.trans h.os, k.tape.trans h.tape, k.output.trans h.output, Nat.le_trans h.size k.size, fun i hi hg hb => (k.block i (Nat.lt_of_lt_of_le hi h.size) hg hb).trans (h.block i hi hg hb)⟩
theorem Keep2.of_below (h : Below w.heap.size w w1) : Keep2 w w1 g b := ⟨h.os, h.tape, h.output, h.size, fun k hk _ _ => h.block k hk⟩
theorem Keep2.turned (h : w.mapTurned w1 b) : Keep2 w w1 g b := by
  have t := h.grown
  exact ⟨t.os, t.tape, t.output, t.size, fun k hk _ hb => t.block k hk (by simpa using hb)⟩
theorem Keep2.set (h : Keep2 w w1 g b) (o : Nat) (u : Value) : Keep2 w (w1.setCell ⟨g, o, none⟩ u) g b :=
  ⟨h.os, h.tape, h.output, by simpa [World.setCell] using h.size, fun k hk hg hb => (Below.heap_setCell w1 ⟨g, o, none⟩ u k (fun e => hg (by simp [e]))).trans (h.block k hk hg hb)⟩
theorem Keep2.alloc (h : Keep2 w w1 g b) (o : Obj) : Keep2 w (w1.alloc o) g b :=
  h.trans (Keep2.of_below ((Below.refl _ _).alloc (Nat.le_refl _) _))
/-- A cell of a block that was not there. -/
theorem Keep2.setNew (h : Keep2 w w1 g b) {B : Nat} (hB : w.heap.size ≤ B) (o : Nat) (u : Value) : Keep2 w (w1.setCell ⟨B, o, none⟩ u) g b :=
  ⟨h.os, h.tape, h.output, by simpa [World.setCell] using h.size, fun k hk hg hb => (Below.heap_setCell w1 ⟨B, o, none⟩ u k (fun e => by simp at e; omega)).trans (h.block k hk hg hb)⟩
theorem Keep2.drew (h : Keep2 w w1 g b) : Keep2 w w1.drew g b := ⟨h.os, h.tape, h.output, h.size, h.block⟩
theorem Keep2.drewN (h : Keep2 w w1 g b) (n : Nat) : Keep2 w (w1.drewN n) g b := ⟨h.os, h.tape, h.output, h.size, h.block⟩
theorem Keep2.below {B : Nat} (h : Keep2 w w1 g b) (hg : B ≤ g) (hb : B ≤ b) (hB : B ≤ w.heap.size) : Below B w w1 :=
  ⟨h.os, h.tape, h.output, h.size, fun k hk => h.block k (by omega) (by omega) (by omega)⟩
end
end Go.Proofs.Ytagfehfggkehmaa

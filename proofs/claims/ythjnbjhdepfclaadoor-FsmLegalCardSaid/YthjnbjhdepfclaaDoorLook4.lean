/-
  What attributes look like: the table, which kinds are known, their flags; which numbers may be next ones.
-/
import Derived.Test.YthjnbjhdepfclaaDoorSeat
import Derived.Test.YthjnbjhdepfclaaDoorBase
import Derived.WalkLawsBesides
import Derived.WalkSpells
namespace Go.Proofs.YthjnbjhdepfclaaDoor
set_option linter.unusedVariables false
set_option linter.unusedSimpArgs false
open Go.RowKit

/-- What an attribute of a kind looks like: kind, flags, narrow, wide, unit. -/
abbrev Look := Int × Int × Int × Int × Int
def looksL : List Look := [(1, 64, 1, 1, 0), (2, 64, 0, 0, 1), (3, 64, 4, 4, 0), (4, 128, 4, 4, 0), (5, 64, 4, 4, 0), (6, 64, 0, 0, 0), (7, 192, 6, 8, 0), (8, 192, 0, 0, 4), (17, 192, 0, 0, 1), (18, 192, 0, 0, 1)]
def Look.cells (l : Look) : List Value := [.int .i64 l.1, .int .i64 l.2.1, .int .i64 l.2.2.1, .int .i64 l.2.2.2.1, .int .i64 l.2.2.2.2]
def lookCells : Array Value := (looksL.flatMap Look.cells).toArray
theorem below_lk {w w' : World} {o : Obj} (hb : Below (w.alloc o).heap.size (w.alloc o) w') : Below w.heap.size w w' := ((Below.refl _ _).alloc (Nat.le_refl _) o).trans (hb.mono (by simp))
/-- What a kind looks like. -/
def lookN (k : Int) : Option Look := looksL.find? fun l => l.1 == k
def retLook (r : Option Look) : Value := match r with
  | none => .tuple #[.agg #[.int .i64 0, .int .i64 0, .int .i64 0, .int .i64 0, .int .i64 0], .bool false]
  | some l => .tuple #[.agg #[.int .i64 l.1, .int .i64 l.2.1, .int .i64 l.2.2.1, .int .i64 l.2.2.2.1, .int .i64 l.2.2.2.2], .bool true]
theorem look_ext : ∀ j : Nat, j < 10 → ∀ l, looksL[j]? = some l → lookCells.extract (j * 5) (j * 5 + 5) = #[.int .i64 l.1, .int .i64 l.2.1, .int .i64 l.2.2.1, .int .i64 l.2.2.2.1, .int .i64 l.2.2.2.2] := by
  intro j hj l h
  rcases (show j = 0 ∨ j = 1 ∨ j = 2 ∨ j = 3 ∨ j = 4 ∨ j = 5 ∨ j = 6 ∨ j = 7 ∨ j = 8 ∨ j = 9 by omega) with rfl | rfl | rfl | rfl | rfl | rfl | rfl | rfl | rfl | rfl <;> (simp [looksL] at h; subst h; rfl)
theorem look_hit {k : Int} {j : Nat} {l : Look} (hj : looksL[j]? = some l) (hk : l.1 = k) (hno : ∀ i x, i < j → looksL[i]? = some x → ¬ x.1 = k) : lookN k = some l := by
  unfold lookN
  rw [List.find?_eq_some_iff_getElem]
  obtain ⟨h1, h2⟩ := List.getElem?_eq_some_iff.1 hj
  exact ⟨by simp [hk], j, h1, h2, fun i hi => by simpa using hno i _ hi (List.getElem?_eq_getElem (by omega))⟩
theorem look_none {k : Int} (hno : ∀ i x, i < 10 → looksL[i]? = some x → ¬ x.1 = k) : lookN k = none := by
  unfold lookN
  rw [List.find?_eq_none]
  intro x hx
  obtain ⟨i, hi⟩ := List.getElem?_of_mem hx
  simpa using hno i x (List.getElem?_eq_some_iff.1 hi).1 hi

/-- Is a kind known? -/
def knownB (k : Int) : Bool := (lookN k).isSome
end Go.Proofs.YthjnbjhdepfclaaDoor

/-
  Which of two prefixes comes first; the document's answer, the program's pieces.
-/
import Derived.Test.YtcjeifpdikojlaaDoorCovers
import Derived.WalkLawsBesides
namespace Go.Proofs.YtcjeifpdikojlaaDoor
set_option linter.unusedVariables false
set_option linter.unusedSimpArgs false
open Go.RowKit

/-- Which of two numbers comes first. -/
def cmpI (x y : Int) : Int := if x < y then -1 else if y < x then 1 else 0
/-- Which of two prefixes comes first. -/
def cmpP (a n b m : Int) : Int := if cmpI a b = 0 then cmpI n m else cmpI a b
theorem cmpI_lt {x y : Int} (h : x < y) : cmpI x y = -1 := by unfold cmpI; rw [if_pos h]
theorem cmpI_gt {x y : Int} (h : y < x) : cmpI x y = 1 := by unfold cmpI; rw [if_neg (by omega), if_pos h]
theorem cmpI_eq (x : Int) : cmpI x x = 0 := by unfold cmpI; rw [if_neg (by omega), if_neg (by omega)]
theorem cmpP_lt {a b : Int} (n m : Int) (h : a < b) : cmpP a n b m = -1 := by unfold cmpP; rw [cmpI_lt h]; rfl
theorem cmpP_gt {a b : Int} (n m : Int) (h : b < a) : cmpP a n b m = 1 := by unfold cmpP; rw [cmpI_gt h]; rfl
theorem cmpP_eq (a n m : Int) : cmpP a n a m = cmpI n m := by unfold cmpP; rw [cmpI_eq]; rfl

def RetI (w : World) (v : Int) (e : Ending) (w' : World) : Prop := e = .returned (.int .i64 v) ∧ Below w.heap.size w w'

theorem below_two (w : World) (o q : Obj) : Below w.heap.size w ((w.alloc o).alloc q) := below_box (below_box (Below.refl _ _))

end Go.Proofs.YtcjeifpdikojlaaDoor

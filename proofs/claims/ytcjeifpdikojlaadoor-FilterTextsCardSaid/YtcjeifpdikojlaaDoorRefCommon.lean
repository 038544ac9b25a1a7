/-
  What two prefixes have in common, by the document (written by gen02c.py).
-/
import Derived.Test.YtcjeifpdikojlaaDoorCommon
import Derived.Test.YtcjeifpdikojlaaDoorRefCovers
namespace Go.Proofs.YtcjeifpdikojlaaDoor
set_option linter.unusedVariables false
set_option linter.unusedSimpArgs false
open Go.RowKit

theorem cells2 {w : World} {g T : Nat} {u v : Value} (h : Blk w g T [u, v]) : w.cell? ⟨g, 0, none⟩ = some u ∧ w.cell? ⟨g, 1, none⟩ = some v := ⟨h.cell 0, h.cell 1⟩
theorem free2 {w : World} {g T : Nat} {cs : List Value} (h : Blk w g T cs) : w.frozen? ⟨g, 0, none⟩ = false ∧ w.frozen? ⟨g, 1, none⟩ = false := ⟨h.free 0, h.free 1⟩
/-- Four blocks of a call's own. -/
theorem boxes4 (w : World) {w' : World} (c1 c2 c3 c4 : List Value) {T : Nat} (hb : Below ((((w.alloc (.cells c1.toArray T)).alloc (.cells c2.toArray T)).alloc (.cells c3.toArray T)).alloc (.cells c4.toArray T)).heap.size ((((w.alloc (.cells c1.toArray T)).alloc (.cells c2.toArray T)).alloc (.cells c3.toArray T)).alloc (.cells c4.toArray T)) w') :
    Blk w' w.heap.size T c1 ∧ Blk w' (w.heap.size + 1) T c2 ∧ Blk w' (w.heap.size + 1 + 1) T c3 ∧ Blk w' (w.heap.size + 1 + 1 + 1) T c4 := by
  have h1 := Blk.new w T c1
  have h2 := Blk.new (w.alloc (.cells c1.toArray T)) T c2
  have h3 := Blk.new ((w.alloc (.cells c1.toArray T)).alloc (.cells c2.toArray T)) T c3
  have h4 := Blk.new (((w.alloc (.cells c1.toArray T)).alloc (.cells c2.toArray T)).alloc (.cells c3.toArray T)) T c4
  have b3 := below_box hb
  have b2 := below_box b3
  have b1 := below_box b2
  have e2 : (w.alloc (.cells c1.toArray T)).heap.size = w.heap.size + 1 := by simp
  have e3 : ((w.alloc (.cells c1.toArray T)).alloc (.cells c2.toArray T)).heap.size = w.heap.size + 1 + 1 := by simp
  have e4 : (((w.alloc (.cells c1.toArray T)).alloc (.cells c2.toArray T)).alloc (.cells c3.toArray T)).heap.size = w.heap.size + 1 + 1 + 1 := by simp
  refine ⟨h1.below b1 (by simp), ?_, ?_, ?_⟩
  · rw [← e2]; exact h2.below b2 (by simp)
  · rw [← e3]; exact h3.below b3 (by simp)
  · rw [← e4]; exact h4.below hb (by simp)
theorem below_w4 {w w' : World} {o p q r : Obj} (hb : Below (((((w.alloc o).alloc p).alloc q).alloc r).heap.size - 1) ((((w.alloc o).alloc p).alloc q).alloc r) w') (hz : True := trivial) : Below w.heap.size w w' := by
  have h1 : (((((w.alloc o).alloc p).alloc q).alloc r).heap.size - 1) = (((w.alloc o).alloc p).alloc q).heap.size := by simp
  rw [h1] at hb
  exact below_box (below_box (below_box (((Below.refl _ _).alloc (Nat.le_refl _) r).trans hb)))
theorem below_set3 {w w1 : World} {h : Nat} {u v : Value} (hb : Below w.heap.size w w1) (hg : w.heap.size ≤ h) : Below w.heap.size w ((w1.setCell ⟨h, 0, none⟩ u).setCell ⟨h, 1, none⟩ v) :=
  (hb.setCell (p := ⟨h, 0, none⟩) (by simpa using hg) _).setCell (p := ⟨h, 1, none⟩) (by simpa using hg) _

theorem Blk.set2 {w : World} {g g' T : Nat} {cs : List Value} {i k : Nat} {u v : Value} (h : Blk w g T cs) (hg : g ≠ g') : Blk ((w.setCell ⟨g', i, none⟩ u).setCell ⟨g', k, none⟩ v) g T cs :=
  h.grown (grown_setCell (grown_setCell (grown_refl w (some g')) i u) k v) hg
/-- The loop over all beginnings. -/
def ComRel (w : World) (a n b m K : Nat) (i : Value) (wr : World) : Prop :=
  Below w.heap.size w wr ∧ Blk wr w.heap.size 33 [.int .u32 (a : Int), .int .i64 (n : Int)] ∧ Blk wr (w.heap.size + 1) 33 [.int .u32 (b : Int), .int .i64 (m : Int)] ∧ Blk wr (w.heap.size + 1 + 1) 33 [.int .u32 0, .int .i64 0] ∧
    ∃ j : Nat, j ≤ 33 ∧ i = .int .i64 (j : Int) ∧ Blk wr (w.heap.size + 1 + 1 + 1) 33 [.int .u32 ((hi a (min (j - 1) K) : Nat) : Int), .int .i64 ((min (j - 1) K : Nat) : Int)]

end Go.Proofs.YtcjeifpdikojlaaDoor

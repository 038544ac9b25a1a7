/-
  A table of cursors in memory; New, Len; the closures that say which go.
-/
import Derived.Test.YtgaoonnokhlgjaaCu26
import Derived.Deep.QuietTactic
import Derived.BigQuiet
namespace Go.Proofs.Ytgaoonnokhlgjaa
set_option linter.unusedVariables false
set_option linter.unusedSimpArgs false
open Go.RowKit

theorem cells4 {w : World} {g T : Nat} {u v x y : Value} (h : Blk w g T [u, v, x, y]) : w.cell? ⟨g, 0, none⟩ = some u ∧ w.cell? ⟨g, 1, none⟩ = some v ∧ w.cell? ⟨g, 2, none⟩ = some x ∧ w.cell? ⟨g, 3, none⟩ = some y := ⟨h.cell 0, h.cell 1, h.cell 2, h.cell 3⟩
theorem free4 {w : World} {g T : Nat} {cs : List Value} (h : Blk w g T cs) : w.frozen? ⟨g, 0, none⟩ = false ∧ w.frozen? ⟨g, 1, none⟩ = false ∧ w.frozen? ⟨g, 2, none⟩ = false ∧ w.frozen? ⟨g, 3, none⟩ = false := ⟨h.free 0, h.free 1, h.free 2, h.free 3⟩
/-- Block g holds a table: most, life, the last Id, and the cursors L in the slice v. -/
structure Tab (w : World) (g : Nat) (mo li la : Int) (v : Value) (L : List Cu) : Prop where
  blk : Blk w g 67 [.int .i64 mo, .int .i64 li, .int .i64 la, v]
  own : OwnU w 36 (g + 1) v L
  few : L.length ≤ 100
theorem Tab.below {w w' : World} {g : Nat} {mo li la : Int} {v : Value} {L : List Cu} (h : Tab w g mo li la v L) (hb : Below w.heap.size w w') : Tab w' g mo li la v L := ⟨h.blk.below hb h.blk.lt, h.own.below hb, h.few⟩
theorem Tab.lt {w : World} {g : Nat} {mo li la : Int} {v : Value} {L : List Cu} (h : Tab w g mo li la v L) : g < w.heap.size := h.blk.lt
def mostC (m : Int) : Int := if m < 0 then 0 else if 8 < m then 8 else m
def lifeC (l : Int) : Int := if l < 1 then 1 else l
set_option maxHeartbeats 1600000 in
theorem New26_any (m l : Int) (w : World) :
    Calls Try.prog 9 #[.int .i64 m, .int .i64 l] w fun e w' => e = .returned (.pointer (some ⟨w.heap.size, 0, none⟩)) ∧ Tab w' w.heap.size (mostC m) (lifeC l) 0 (.slice none 0 0) [] ∧ Below w.heap.size w w' := by
  have fin : ∀ a b : Int, Tab (w.alloc (.cells #[.int .i64 a, .int .i64 b, .int .i64 0, .slice none 0 0] 67)) w.heap.size a b 0 (.slice none 0 0) [] ∧ Below w.heap.size w (w.alloc (.cells #[.int .i64 a, .int .i64 b, .int .i64 0, .slice none 0 0] 67)) :=
    fun a b => ⟨⟨Blk.new w 67 [.int .i64 a, .int .i64 b, .int .i64 0, .slice none 0 0], OwnU.nil _ _ _, by simp⟩, (Below.refl _ _).alloc (Nat.le_refl _) _⟩
  unfold mostC lifeC
  rcases (show m < 0 ∨ ¬ m < 0 ∧ 8 < m ∨ ¬ m < 0 ∧ ¬ 8 < m by omega) with h1 | ⟨h1, h2⟩ | ⟨h1, h2⟩ <;> rcases (show l < 1 ∨ ¬ l < 1 by omega) with h3 | h3
  · rw [if_pos h1]
    rw [if_pos h3]
    go_enter Try.func9, Try.ntmps9
    go_wp2_with fail
    go_ret
    exact ⟨rfl, fin _ _⟩
  · rw [if_pos h1]
    rw [if_neg h3]
    go_enter Try.func9, Try.ntmps9
    go_wp2_with fail
    go_ret
    exact ⟨rfl, fin _ _⟩
  · rw [if_neg h1, if_pos h2]
    rw [if_pos h3]
    go_enter Try.func9, Try.ntmps9
    go_wp2_with fail
    go_ret
    exact ⟨rfl, fin _ _⟩
  · rw [if_neg h1, if_pos h2]
    rw [if_neg h3]
    go_enter Try.func9, Try.ntmps9
    go_wp2_with fail
    go_ret
    exact ⟨rfl, fin _ _⟩
  · rw [if_neg h1, if_neg h2]
    rw [if_pos h3]
    go_enter Try.func9, Try.ntmps9
    go_wp2_with fail
    go_ret
    exact ⟨rfl, fin _ _⟩
  · rw [if_neg h1, if_neg h2]
    rw [if_neg h3]
    go_enter Try.func9, Try.ntmps9
    go_wp2_with fail
    go_ret
    exact ⟨rfl, fin _ _⟩
theorem Len26_any (g : Nat) (mo li la : Int) (v : Value) (L : List Cu) (w : World) (h : Tab w g mo li la v L) :
    Calls Try.prog 26 #[.pointer (some ⟨g, 0, none⟩)] w fun e w' => e = .returned (.int .i64 (L.length : Int)) ∧ w = w' := by
  obtain ⟨A, c, rfl, _, _⟩ := h.own.form
  obtain ⟨c0, c1, c2, c3⟩ := cells4 h.blk
  clear h
  go_enter Try.func26, Try.ntmps26
  go_wp2_with fail
  go_ret
  exact ⟨rfl, rfl⟩
theorem LenNil26 (w : World) :
    Calls Try.prog 26 #[.pointer none] w fun e w' => e = .returned (.int .i64 0) ∧ w = w' := by
  go_enter Try.func26, Try.ntmps26
  go_wp2_with fail
  go_ret
  exact ⟨rfl, rfl⟩
theorem Leave1_any (c : Cu) (p : Nat) (n : Int) (w : World) (hp : p < w.heap.size) (h : w.cell? ⟨p, 0, none⟩ = some (.int .i64 n)) :
    Calls Try.prog 34 #[aggS c.row, .pointer (some ⟨p, 0, none⟩)] w fun e w' => e = .returned (.bool (c.owner == n)) ∧ Below w.heap.size w w' := by
  have HP := Lib.hid hp; have HC := Lib.hid h; clear hp h
  go_enter Try.func34, Try.ntmps34
  go_wp2_with (refine wpList_boxS _ rfl (.tmp 0) rfl (run_boxP26 _ c) rfl ?_)
  intro w1 k1 hb1 hz1
  have c0 : w1.cell? ⟨w.heap.size, 1, none⟩ = some (.int .i64 c.owner) := k1.cell 1
  have c1 : w1.cell? ⟨p, 0, none⟩ = some (.int .i64 n) := (hb1.cell (p := ⟨p, 0, none⟩) HP.out).trans HC.out
  have HB := Lib.hid hb1
  clear k1 hb1 hz1
  go_wp2_with fail
  go_ret
  exact ⟨rfl, HB.out⟩
theorem Close1_any (c : Cu) (p : Nat) (n : Int) (w : World) (hp : p < w.heap.size) (h : w.cell? ⟨p, 0, none⟩ = some (.int .i64 n)) :
    Calls Try.prog 32 #[aggS c.row, .pointer (some ⟨p, 0, none⟩)] w fun e w' => e = .returned (.bool (c.id == n)) ∧ Below w.heap.size w w' := by
  have HP := Lib.hid hp; have HC := Lib.hid h; clear hp h
  go_enter Try.func32, Try.ntmps32
  go_wp2_with (refine wpList_boxS _ rfl (.tmp 0) rfl (run_boxP26 _ c) rfl ?_)
  intro w1 k1 hb1 hz1
  have c0 : w1.cell? ⟨w.heap.size, 0, none⟩ = some (.int .i64 c.id) := k1.cell 0
  have c1 : w1.cell? ⟨p, 0, none⟩ = some (.int .i64 n) := (hb1.cell (p := ⟨p, 0, none⟩) HP.out).trans HC.out
  have HB := Lib.hid hb1
  clear k1 hb1 hz1
  go_wp2_with fail
  go_ret
  exact ⟨rfl, HB.out⟩
theorem Tick1_any (c : Cu) (p g : Nat) (mo li la : Int) (v : Value) (w : World) (hp : p < w.heap.size) (h : w.cell? ⟨p, 0, none⟩ = some (.pointer (some ⟨g, 0, none⟩))) (hg : Blk w g 67 [.int .i64 mo, .int .i64 li, .int .i64 la, v]) :
    Calls Try.prog 35 #[aggS c.row, .pointer (some ⟨p, 0, none⟩)] w fun e w' => e = .returned (.bool (c.age == li)) ∧ Below w.heap.size w w' := by
  have HP := Lib.hid hp; have HC := Lib.hid h; have HG := Lib.hid hg; clear hp h hg
  go_enter Try.func35, Try.ntmps35
  go_wp2_with (refine wpList_boxS _ rfl (.tmp 0) rfl (run_boxP26 _ c) rfl ?_)
  intro w1 k1 hb1 hz1
  have c0 : w1.cell? ⟨w.heap.size, 15, none⟩ = some (.int .i64 c.age) := k1.cell 15
  have c1 : w1.cell? ⟨p, 0, none⟩ = some (.pointer (some ⟨g, 0, none⟩)) := (hb1.cell (p := ⟨p, 0, none⟩) HP.out).trans HC.out
  have c2 : w1.cell? ⟨g, 1, none⟩ = some (.int .i64 li) := (HG.out.below hb1 HG.out.lt).cell 1
  have HB := Lib.hid hb1
  clear k1 hb1 hz1
  go_wp2_with fail
  go_region
  all_goals
    go_wp2_with fail
    go_ret
    exact ⟨rfl, HB.out.drew⟩
set_option maxHeartbeats 1600000 in
theorem Open1_any (c : Cu) (p q : Nat) (t : Bool) (n : Int) (w : World) (hp : p < w.heap.size) (h : w.cell? ⟨p, 0, none⟩ = some (.bool t)) (hq : q < w.heap.size) (h' : w.cell? ⟨q, 0, none⟩ = some (.int .i64 n)) :
    Calls Try.prog 29 #[aggS c.row, .pointer (some ⟨p, 0, none⟩), .pointer (some ⟨q, 0, none⟩)] w fun e w' => e = .returned (.bool (t && (c.id == n))) ∧ Below w.heap.size w w' := by
  have HP := Lib.hid hp; have HC := Lib.hid h; have HQ := Lib.hid hq; have HD := Lib.hid h'; clear hp h hq h'
  cases t
  · go_enter Try.func29, Try.ntmps29
    go_wp2_with (refine wpList_boxS _ rfl (.tmp 0) rfl (run_boxP26 _ c) rfl ?_)
    intro w1 k1 hb1 hz1
    have c0 : w1.cell? ⟨w.heap.size, 0, none⟩ = some (.int .i64 c.id) := k1.cell 0
    have c1 : w1.cell? ⟨p, 0, none⟩ = some (.bool false) := (hb1.cell (p := ⟨p, 0, none⟩) HP.out).trans HC.out
    have c2 : w1.cell? ⟨q, 0, none⟩ = some (.int .i64 n) := (hb1.cell (p := ⟨q, 0, none⟩) HQ.out).trans HD.out
    have HB := Lib.hid hb1
    clear k1 hb1 hz1
    go_wp2_with fail
    go_ret
    exact ⟨rfl, HB.out⟩
  · go_enter Try.func29, Try.ntmps29
    go_wp2_with (refine wpList_boxS _ rfl (.tmp 0) rfl (run_boxP26 _ c) rfl ?_)
    intro w1 k1 hb1 hz1
    have c0 : w1.cell? ⟨w.heap.size, 0, none⟩ = some (.int .i64 c.id) := k1.cell 0
    have c1 : w1.cell? ⟨p, 0, none⟩ = some (.bool true) := (hb1.cell (p := ⟨p, 0, none⟩) HP.out).trans HC.out
    have c2 : w1.cell? ⟨q, 0, none⟩ = some (.int .i64 n) := (hb1.cell (p := ⟨q, 0, none⟩) HQ.out).trans HD.out
    have HB := Lib.hid hb1
    clear k1 hb1 hz1
    go_wp2_with fail
    go_ret
    exact ⟨rfl, HB.out⟩
end Go.Proofs.Ytgaoonnokhlgjaa

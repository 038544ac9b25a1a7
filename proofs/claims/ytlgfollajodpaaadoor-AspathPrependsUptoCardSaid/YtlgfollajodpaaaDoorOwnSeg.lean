/-
  A segment with numbers of its own.
-/
import Derived.Test.YtlgfollajodpaaaDoorOwn3
import Derived.Deep.RegionHeld3
namespace Go.Proofs.YtlgfollajodpaaaDoor
set_option linter.unusedVariables false
set_option linter.unusedSimpArgs false
open Go.RowKit

theorem below_box {w w' : World} {o : Obj} (hb : Below (w.alloc o).heap.size (w.alloc o) w') : Below w.heap.size w w' :=
  ((Below.refl _ _).alloc (Nat.le_refl _) o).trans (hb.mono (by simp))
theorem cells2 {w : World} {g T : Nat} {u v : Value} (h : Blk w g T [u, v]) : w.cell? ⟨g, 0, none⟩ = some u ∧ w.cell? ⟨g, 1, none⟩ = some v := ⟨h.cell 0, h.cell 1⟩
theorem free2 {w : World} {g T : Nat} {cs : List Value} (h : Blk w g T cs) : w.frozen? ⟨g, 0, none⟩ = false ∧ w.frozen? ⟨g, 1, none⟩ = false := ⟨h.free 0, h.free 1⟩
theorem res_cells {w1 : World} {g T : Nat} {u0 v0 : Value} (u v : Value) (hk : Blk w1 g T [u0, v0]) :
    (w1.setCell ⟨g, 0, none⟩ u).cell? ⟨g, 0, none⟩ = some u ∧ ((w1.setCell ⟨g, 0, none⟩ u).setCell ⟨g, 1, none⟩ v).cell? ⟨g, 1, none⟩ = some v :=
  ⟨(hk.set 0 u).cell 0, ((hk.set 0 u).set 1 v).cell 1⟩

/-- What is the call's own stays, if another block below its own is written. -/
theorem own32_apart {w w' : World} {B g : Nat} {v : Value} {z : List Nat} (h : Own32 w B v z) (hg : w.grownBy w' (some g)) (hB : g < B) : Own32 w' B v z := by
  refine World.ownsRow.kept h hg ?_
  cases he : v.ownBlock with
  | none => exact .inl rfl
  | some k =>
    right
    intro e
    have := (World.ownsRow.lt h k he).1
    have e2 : k = g := by simpa using e
    omega
/-- What a call leaves that returns a segment with numbers of its own. -/
def RetSeg (w : World) (k : Int) (z : List Nat) (e : Ending) (w' : World) : Prop :=
  ∃ A c, e = .returned (.agg #[.int .i64 k, .slice A z.length c]) ∧ z.length ≤ c ∧ c ≤ maxLen ∧ Own32 w' w.heap.size (.slice A z.length c) z ∧ Below w.heap.size w w'

set_option maxHeartbeats 3200000 in
theorem own_any (s : Sg) (w : World) (h : Sg.Ok w w.heap.size s) (hl : s.nums.length ≤ 1000000000) :
    Calls Tryd.prog 20 #[.agg #[.int .i64 s.kind, .slice s.adr s.nums.length s.cap]] w (RetSeg w s.kind s.nums) := by
  obtain ⟨hc, hm, hA, hn, hk⟩ := h
  have hbx : Below (w.alloc (.cells #[.int .i64 s.kind, .slice s.adr s.nums.length s.cap] 39)).heap.size (w.alloc (.cells #[.int .i64 s.kind, .slice s.adr s.nums.length s.cap] 39)) (w.alloc (.cells #[.int .i64 s.kind, .slice s.adr s.nums.length s.cap] 39)) := Below.refl _ _
  have hb0 := (hbx.alloc (Nat.le_refl _) (.cells #[.int .i64 0, .slice none 0 0] 39)).drew
  have HS := Lib.hid (fun (w' : World) (hb : Below (w.alloc (.cells #[.int .i64 s.kind, .slice s.adr s.nums.length s.cap] 39)).heap.size (w.alloc (.cells #[.int .i64 s.kind, .slice s.adr s.nums.length s.cap] 39)) w') => cells2 ((Blk.new w 39 [.int .i64 s.kind, .slice s.adr s.nums.length s.cap]).below hb (by simp)))
  have hk1 : Blk ((w.alloc (.cells #[.int .i64 s.kind, .slice s.adr s.nums.length s.cap] 39)).alloc (.cells #[.int .i64 0, .slice none 0 0] 39)).drew (w.heap.size + 1) 39 [.int .i64 0, .slice none 0 0] := by
    have e : w.heap.size + 1 = (w.alloc (.cells #[.int .i64 s.kind, .slice s.adr s.nums.length s.cap] 39)).heap.size := by simp
    rw [e]
    exact (Blk.new (w.alloc (.cells #[.int .i64 s.kind, .slice s.adr s.nums.length s.cap] 39)) 39 [.int .i64 0, .slice none 0 0])
  have HK := Lib.hid hk1
  have QC := fun W h => Lib.hid (Clone32_any s.adr s.nums.length s.cap s.nums rfl W h hl)
  have HAT := Lib.hid (fun (w' : World) (hb : Below w.heap.size w w') => (hA.below hb (Nat.le_refl _)).lift hb.size)
  clear hk1 hA hbx
  go_enter Tryd.func20, Tryd.ntmps20
  go_wp2_with fail
  go_region_held3 (fun w' => w'.cell? ⟨w.heap.size, 0, none⟩ = some (.int .i64 s.kind) ∧ w'.cell? ⟨w.heap.size, 1, none⟩ = some (.slice s.adr s.nums.length s.cap)) (first | exact HS.out _ hb0 | exact HS.out _ hb2 | exact HS.out _ ((hb2.setCell (by simp) _).setCell (by simp) _)) ((first
    | (go_at_call 34; refine (QC _ (HAT.out _ (below_box hb0))).out.mono ?_; rintro e w2 ⟨A2, c2, rfl, f1, f2, ho2, hg2⟩; have hb2 := hb0.trans (hg2.mono hb0.size); have hk2 := HK.out.below hg2 HK.out.lt; have fr := free2 hk2; have cr := cells2 hk2; have HK2 := Lib.hid hk2; have HO2 := Lib.hid ho2; clear hk2 ho2)))
  go_wp2_with fail
  refine bodyPost_ret (v := .agg #[.int .i64 s.kind, .slice A2 s.nums.length c2]) (by simp [results, Tryd.results20, go_sem, (res_cells (.int .i64 s.kind) (.slice A2 s.nums.length c2) HK2.out).1, (res_cells (.int .i64 s.kind) (.slice A2 s.nums.length c2) HK2.out).2]) rfl ⟨A2, c2, rfl, f1, f2, ?_, ?_⟩
  · refine Own32.lower (own32_apart HO2.out (grown_setCell (grown_setCell (grown_refl w2 (some (w.heap.size + 1))) _ _) _ _) ?_) ?_
    · show w.heap.size + 1 < ((w.alloc _).alloc _).heap.size
      simp
    · show w.heap.size ≤ ((w.alloc _).alloc _).heap.size
      simp
      omega
  · exact below_box ((hb2.setCell (by simp) _).setCell (by simp) _)
end Go.Proofs.YtlgfollajodpaaaDoor

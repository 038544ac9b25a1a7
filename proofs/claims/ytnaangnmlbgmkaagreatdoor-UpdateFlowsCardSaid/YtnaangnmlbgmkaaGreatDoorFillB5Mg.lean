/-
  Texts of this seat, put together: FillB5.
-/
import Derived.Test.YtnaangnmlbgmkaaGreatDoorMg26
import Derived.Test.YtnaangnmlbgmkaaGreatDoorMg4
import Derived.Test.YtnaangnmlbgmkaaGreatDoorMg8
import Derived.Test.YtnaangnmlbgmkaaGreatDoorFill5Mg
/-
  Fill: what may not be said.
-/
namespace Go.Proofs.YtnaangnmlbgmkaaGreatDoor
set_option linter.unusedVariables false
set_option linter.unusedSimpArgs false
open Go.RowKit

set_option maxHeartbeats 12800000 in
set_option maxRecDepth 100000 in
theorem Fill_bad (u : Uv) (wide : Bool) (R : Int) (w : World) (h : u.In w w.heap.size) (hR : 900 ≤ R ∧ R ≤ 1200) (hl : u.attrs.path.length ≤ 1000000 ∧ (∀ s ∈ u.attrs.path, s.nums.length ≤ 1000000000) ∧ u.attrs.comms.length ≤ 1000000 ∧ u.attrs.raws.length ≤ 1000000 ∧ ∀ s ∈ u.attrs.raws, s.data.length ≤ 1000000) (hl2 : u.gone.length ≤ 1000 ∧ u.news.length ≤ 1000)
    (d : List UInt8) (E : Int) (hput : ∀ W, Below w.heap.size w W → Calls Tryz.prog 44 #[.agg u.attrs.row.toArray, .bool wide] W (RetE W d E)) (hse : (sayF u d E).2 ≠ 0) :
    Calls Tryz.prog 15 #[.agg u.row.toArray, .bool wide, .int .i64 R] w fun e w' => ∃ x : Uv, e = .returned (.tuple #[.slice none 0 0, .agg x.row.toArray, .int .i64 (sayF u d E).2]) ∧ Below w.heap.size w w' := by
  obtain ⟨W0, hW0⟩ : ∃ W0, W0 = (w.alloc (.cells u.row.toArray 30)).alloc (.cells noneU.toArray 30) := ⟨_, rfl⟩
  have hb0 : Below w.heap.size w W0 := by rw [hW0]; exact ((Below.refl _ _).alloc (Nat.le_refl _) _).alloc (by simp) _
  have kx : Blk W0 w.heap.size 30 u.row := by
    rw [hW0]
    exact (Blk.new w _ _).below ((Below.refl _ _).alloc (Nat.le_refl _) _) (by simp)
  have kr : Blk W0 (w.heap.size + 1) 30 noneU := by
    have := Blk.new (w.alloc (.cells u.row.toArray 30)) 30 noneU
    rw [hW0]
    simpa using this
  have hz : W0.heap.size = w.heap.size + 2 := by rw [hW0]; simp
  have HIN := Lib.hid (fun (W : World) (q : Below W0.heap.size W0 W) => h.below (hb0.trans (q.mono hb0.size)) (Nat.le_refl _))
  have HUV := Lib.hid (fun (W : World) (q : Below W0.heap.size W0 W) => uv_blk (kx.below q kx.lt))
  have HKX := Lib.hid (fun (W : World) (q : Below W0.heap.size W0 W) => kx.below q kx.lt)
  have HKR := Lib.hid (fun (W : World) (q : Below W0.heap.size W0 W) => kr.below q kr.lt)
  have QS := Lib.hid (saying_any u wide W0 ((h.below hb0 (Nat.le_refl _)).lift hb0.size) (by omega) d E (fun W' q' => hput W' (hb0.trans (q'.mono hb0.size))))
  have HB0 := Lib.hid hb0; have HZ := Lib.hid hz
  have HW0 := Lib.hid (show W0 = (w.alloc (.cells u.row.toArray 30)).alloc (.cells #[.slice none 0 0, .int .i64 0, .slice none 0 0, .int .u32 0, .int .i64 0, .int .i64 0, .bool false, .bool false, .int .u32 0, .int .u32 0, .slice none 0 0, .slice none 0 0, .slice none 0 0] 30) from hW0)
  obtain ⟨se, hs⟩ : ∃ se, se = (sayF u d E).2 := ⟨_, rfl⟩
  rw [← hs] at QS hse ⊢
  have hne : (se != 0) = true := by simpa using hse
  clear hW0 hb0 kx kr hz h hl hl2 hput hse hs
  go_enter Tryz.func15, Tryz.ntmps15
  go_wp2_with (first
    | (refine wpList_boxU _ rfl (.tmp 0) rfl u rfl ?_)
    | (rw [← HW0.out]; refine wpList_loadU _ rfl (.tmp 3) rfl w.heap.size u rfl (HUV.out _ (Below.refl _ _)) ?_))
  refine QS.out.mono ?_
  rintro e w2 ⟨A2, c2, rfl, f2, g2, ho2, hb2⟩
  have HB2 := Lib.hid hb2
  have KR2 := Lib.hid (HKR.out w2 hb2)
  have BW2 := Lib.hid (HB0.out.trans (hb2.mono HB0.out.size))
  clear ho2 hb2 f2 g2 QS
  go_wp2_with (refine wpList_storeU _ rfl rfl (.tmp 7) (.tmp 25) rfl (w.heap.size + 1) 30 noneU ⟨none, 0, [], noneA, none, 0, []⟩ rfl rfl KR2.out rfl ?_)
  intro w8 k8 hg8
  have BF := Lib.hid (BW2.out.grown hg8 BW2.out.size (fun k hk => by cases hk; omega))
  have HRA := Lib.hid (cells13 (show Blk w8 (w.heap.size + 1) 30 [.slice none 0 0, .int .i64 0, .slice none 0 0, .int .u32 0, .int .i64 0, .int .i64 0, .bool false, .bool false, .int .u32 0, .int .u32 0, .slice none 0 0, .slice none 0 0, .slice none 0 0] from k8))
  clear k8 hg8
  go_wp2_with fail
  have ra := HRA.out
  refine bodyPost_ret (v := .tuple #[.slice none 0 0, .agg (Uv.row ⟨none, 0, [], noneA, none, 0, []⟩).toArray, .int .i64 se]) ?_ rfl ⟨⟨none, 0, [], noneA, none, 0, []⟩, rfl, BF.out⟩
  simp [results, Tryz.results15, go_sem, Uv.row, Av.row, noneA, ra]
end Go.Proofs.YtnaangnmlbgmkaaGreatDoor

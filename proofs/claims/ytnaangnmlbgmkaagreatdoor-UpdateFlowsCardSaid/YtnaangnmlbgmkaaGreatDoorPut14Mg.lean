/-
  Texts of this seat, put together: Put14.
-/
import Derived.Test.YtnaangnmlbgmkaaGreatDoorMg4
import Derived.Test.YtnaangnmlbgmkaaGreatDoorMg8
/-
  An attribute that is there, by the closure that puts it.
-/
namespace Go.Proofs.YtnaangnmlbgmkaaGreatDoor
set_option linter.unusedVariables false
set_option linter.unusedSimpArgs false
open Go.RowKit

theorem Own.away {w : World} {B g T : Nat} {v u : Value} {l : List UInt8} {cs : List Value} (h : Own w B 5 v l) (hk : Blk w g T cs) (hT : 5 ≠ T) (i : Nat) : Own (w.setCell ⟨g, i, none⟩ u) B 5 v l := by
  refine World.ownsRow.kept h (grown_setCell (grown_refl w (some g)) i u) ?_
  exact .inr (h.ne_blk hk hT)
set_option maxHeartbeats 6400000 in
set_option maxRecDepth 100000 in
theorem put1_yes (w W : World) (k fl l1 l3 l4 l5 : Nat) (hL : lookN (k : Int) = some ((l1 : Int), (fl : Int), (l3 : Int), (l4 : Int), (l5 : Int))) (hf : fl = 64 ∨ fl = 128 ∨ fl = 192 ∨ fl = 224) (hk : k < 256)
    (fv : Nat) (lb : Array Value) (eg : ∀ args w, (callFunc fv args).run Tryz.prog w = .ok (.enter fv args) w) (d : List UInt8) (hd : ∀ W', Below W.heap.size W W' → Calls Tryz.prog fv lb W' (RetBytes W' d))
    (g : Nat) (hgB : w.heap.size ≤ g) (v : Value) (l : List UInt8) (hb : Below w.heap.size w W) (h : OutAt w.heap.size W g v l) (ht : TabK W) (hl : l.length ≤ 1000000) (hdl : d.length ≤ 1000000) :
    Calls Tryz.prog 76 #[.bool true, .int .i64 (k : Int), .func (.func fv) #[] lb, .pointer (some ⟨g, 0, none⟩)] W (PutRet w W g v (l ++ wholeL fl k d)) := by
  have q := lookOf_any (k : Int) W ht
  rw [hL] at q
  simp only [retLook] at q
  have Q := Lib.hid q
  obtain ⟨hkb, ho⟩ := h
  have hv := ho.form
  obtain ⟨Av, cv, rfl, _, _⟩ := hv
  have HKB := Lib.hid hkb; have HO := Lib.hid ho; have HB := Lib.hid hb
  have HD := Lib.hid hd; have HGB := Lib.hid hgB
  have HW := fun A c w h => Lib.hid (whole_any fl k A c d w hf hk hdl h)
  have HWL := Lib.hid (wholeL_len fl k d)
  clear q hL hb hkb ho hd hf hk ht hgB
  go_enter Tryz.func76, Tryz.ntmps76
  go_wp2_with fail
  refine Q.out.mono ?_
  rintro e w1 ⟨rfl, hb1⟩
  have hbw : Below W.heap.size W (w1.alloc (.cells #[.int .i64 (l1 : Int), .int .i64 (fl : Int), .int .i64 (l3 : Int), .int .i64 (l4 : Int), .int .i64 (l5 : Int)] 121)) := hb1.alloc hb1.size _
  have hk1 : Blk (w1.alloc (.cells #[.int .i64 (l1 : Int), .int .i64 (fl : Int), .int .i64 (l3 : Int), .int .i64 (l4 : Int), .int .i64 (l5 : Int)] 121)) w1.heap.size 121 [.int .i64 (l1 : Int), .int .i64 (fl : Int), .int .i64 (l3 : Int), .int .i64 (l4 : Int), .int .i64 (l5 : Int)] := Blk.new w1 _ _
  have QC := Lib.hid (HD.out (w1.alloc (.cells #[.int .i64 (l1 : Int), .int .i64 (fl : Int), .int .i64 (l3 : Int), .int .i64 (l4 : Int), .int .i64 (l5 : Int)] 121)).drew hbw.drew)
  have HK1 := Lib.hid hk1
  have hkg := HKB.out.below hbw HKB.out.lt
  have HKG := Lib.hid hkg
  have HBW := Lib.hid hbw
  have HOW := Lib.hid (HO.out.below hbw)
  have cg : World.cell? (w1.alloc (.cells #[.int .i64 (l1 : Int), .int .i64 (fl : Int), .int .i64 (l3 : Int), .int .i64 (l4 : Int), .int .i64 (l5 : Int)] 121)) ⟨g, 0, none⟩ = some (.slice Av l.length cv) := hkg.cell 0
  have cf : World.cell? (w1.alloc (.cells #[.int .i64 (l1 : Int), .int .i64 (fl : Int), .int .i64 (l3 : Int), .int .i64 (l4 : Int), .int .i64 (l5 : Int)] 121)) ⟨w1.heap.size, 1, none⟩ = some (.int .i64 (fl : Int)) := hk1.cell 1
  have HLZ := Lib.hid hl; have HDZ := Lib.hid hdl
  clear hb1 hbw hk1 hkg Q HD hl hdl
  go_wp2_with fail
  go_region_law ((first
    | (have hq5 := HO5; clear hq5; refine step_append_bytes isBytes (by rfl) (.tmp 15) (.tmp 21) (by rfl) w (.slice Av l.length cv) l (by rfl) HOW5.out A5 (wholeL fl k d) _ c5 (by rfl) (by rfl) HO5.out.bytes (by have h1 := HWL.out; have h2 := HLZ.out; have h3 := HDZ.out; omega) HB5.out ?_; intro v6 w6 ho6 hg6 hb6; have hk6 := HK5.out.row hg6 (HOW5.out.ne_blk HK5.out (by decide)); have c6 : w6.cell? ⟨g, 0, none⟩ = some (.slice Av l.length cv) := hk6.cell 0; have f6 : w6.frozen? ⟨g, 0, none⟩ = false := hk6.free 0; obtain ⟨A6, d6, rfl, q61, q62⟩ := ho6.form; have el6 : (l ++ wholeL fl k d).length = l.length + (wholeL fl k d).length := List.length_append; rw [el6] at ho6; clear el6; have HK6 := Lib.hid hk6; have HO6 := Lib.hid ho6; have HG6 := Lib.hid hg6; have HB6 := Lib.hid hb6; clear hk6 ho6 hg6 hb6 q61 q62)
    | (have hq4 := HO4; clear hq4; go_simp; go_at_call 78; refine (HW A4 c4 _ HO4.out.bytes).out.mono ?_; rintro e w5 ⟨A5, c5, rfl, f51, f52, ho5, hb5⟩; have hk5 := HK4.out.below hb5 HK4.out.lt; have cg5 : w5.cell? ⟨g, 0, none⟩ = some (.slice Av l.length cv) := hk5.cell 0; have HK5 := Lib.hid hk5; have HO5 := Lib.hid ho5; have HB45 := Lib.hid hb5; have HB5 := Lib.hid (HB4.out.trans (hb5.mono HB4.out.size)); have HOW5 := Lib.hid (HOW4.out.below hb5); clear hk5 ho5 hb5 f51 f52)
    | (go_simp; go_at_fn fv; refine QC.out.mono ?_; rintro e w4 ⟨A4, c4, rfl, f41, f42, ho4, hb4⟩; replace hb4 := below_undrew hb4; have hk4 := HKG.out.below hb4 HKG.out.lt; have hf4 := HK1.out.below hb4 HK1.out.lt; have cg4 : w4.cell? ⟨g, 0, none⟩ = some (.slice Av l.length cv) := hk4.cell 0; have cf4 : w4.cell? ⟨w1.heap.size, 1, none⟩ = some (.int .i64 (fl : Int)) := hf4.cell 1; have HK4 := Lib.hid hk4; have HO4 := Lib.hid ho4; have HB14 := Lib.hid hb4; have HB4 := Lib.hid ((HB.out.trans (HBW.out.mono HB.out.size)).trans (hb4.mono (HB.out.trans (HBW.out.mono HB.out.size)).size)); have HOW4 := Lib.hid (HOW.out.below hb4); clear hk4 hf4 ho4 hb4 f41 f42)))
  all_goals
    go_wp2_with fail
    first | go_end0 | refine bodyPost_ret (results_none rfl _ _ _) rfl ?_
    refine ⟨rfl, ?_, ⟨?_, ?_⟩, _, HK6.out.set 0 _, HO6.out.away HK6.out (by decide) 0⟩
    · exact HB6.out.setCell (p := ⟨g, 0, none⟩) HGB.out _
    · have z1 := HBW.out.size; have z2 := HB14.out.size; have z3 := HB45.out.size; have z4 := HG6.out.size
      simp only [World.setCell, Array.size_modify]
      omega
    · intro j hj hjg hjv
      have z1 := HBW.out.size; have z2 := HB14.out.size; have z3 := HB45.out.size
      refine (Below.heap_setCell w6 ⟨g, 0, none⟩ _ j (fun e => hjg (by simp [e]))).trans ?_
      have y1 := Nat.lt_of_lt_of_le hj z1
      have y2 := Nat.lt_of_lt_of_le y1 z2
      have y3 := Nat.lt_of_lt_of_le y2 z3
      exact (HG6.out.block j y3 (fun e => hjv e.symm)).trans ((HB45.out.block j y2).trans ((HB14.out.block j y1).trans (HBW.out.block j hj)))
end Go.Proofs.YtnaangnmlbgmkaaGreatDoor

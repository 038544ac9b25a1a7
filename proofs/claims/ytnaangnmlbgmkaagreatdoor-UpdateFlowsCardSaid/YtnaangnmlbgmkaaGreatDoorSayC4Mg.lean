/-
  Texts of this seat, put together: SayC4.
-/
import Derived.Test.YtnaangnmlbgmkaaGreatDoorSayG4Mg
import Derived.Test.YtnaangnmlbgmkaaGreatDoorMg4
/-
  What communities' attribute says is taken in, and that of an aggregator in wide numbers beside narrow ones.
-/
namespace Go.Proofs.YtnaangnmlbgmkaaGreatDoor
set_option linter.unusedVariables false
set_option linter.unusedSimpArgs false
open Go.RowKit

theorem SayG.far {w W W' : World} {gx : Nat} {cs : List Value} {row : Option Nat} (S : SayG w gx cs W) (hg : W.grownBy W' row) (hr : ∀ j, row = some j → w.heap.size + 2 ≤ j) : SayG w gx cs W' :=
  ⟨(hg.block gx S.blk.lt (fun e => by have := hr gx e.symm; have := S.lt; omega)).trans S.blk, S.lt, (hg.block _ S.res.lt (fun e => by have := hr _ e.symm; omega)).trans S.res, grown_fresh S.grown hg (fun j hj => by have := hr j hj; omega)⟩
theorem rd_far {W W' : World} {B g : Nat} {l : List UInt8} {s : Bool} {row : Option Nat} (h : Rd W B g l s) (hg : W.grownBy W' row) (hr : ∀ j, row = some j → g < j) (hB : B ≤ W.heap.size) : Rd W' B g l s := by
  obtain ⟨h0, A, c, hk, h1, h2, hA⟩ := h
  have hb : Below B W W' := (Below.refl B W).grown hg hB (fun j hj => by have := hr j hj; omega)
  exact ⟨h0, A, c, (hg.block g hk.lt (fun e => by have := hr g e.symm; omega)).trans hk, h1, h2, hA.below hb (Nat.le_refl _)⟩
/-- A cell that holds a slice is none of the reader's. -/
theorem rd_set {W : World} {B g gx i n c : Nat} {l : List UInt8} {s : Bool} {A' : Option Addr} (h : Rd W B g l s) (hne : g ≠ gx) (hc : W.cell? ⟨gx, i, none⟩ = some (.slice A' n c)) (u : Value) : Rd (W.setCell ⟨gx, i, none⟩ u) B g l s := by
  obtain ⟨h0, A, c2, hk, h1, h2, hA⟩ := h
  refine ⟨h0, A, c2, hk.grown (grown_setCell (grown_refl _ _) _ _) hne, h1, h2, fun hl => ?_⟩
  obtain ⟨b, off, rfl, hlt, hcell⟩ := hA hl
  refine ⟨b, off, rfl, hlt, fun j hj => ?_⟩
  have q := hcell j hj
  by_cases e : (⟨gx, i, none⟩ : Addr) = ⟨b, off + j, none⟩
  · rw [← e, hc] at q
    cases q
  · exact (World.cell?_setCell_other _ _ _ _ e).trans q
/-- Where the loop over communities stands. -/
def ComRel (w : World) (gx : Nat) (f : Value → List Value) (l : List UInt8) (W : World) : Prop :=
  ∃ (v : Value) (z : List Nat) (r : List UInt8), SayG w gx (f v) W ∧ Own32 W (w.heap.size + 3) v z ∧ Rd W (w.heap.size + 2) (w.heap.size + 2) r false ∧ r.length % 4 = 0 ∧ z.length + r.length ≤ 128 ∧ z ++ nums4 r = nums4 l ∧ (z = [] → v = .slice none 0 0)
theorem nums4_step (r : List UInt8) (h : 4 ≤ r.length) : nums4 r = num (r.take 4) :: nums4 (r.drop 4) := by
  match r, h with
  | a :: b :: c :: d :: r, _ => rfl
theorem u32_post {w : World} {B g : Nat} {r : List UInt8} (h : Rd w B g r false) (hl : 4 ≤ r.length) : Calls Tryz.prog 98 #[.pointer (some ⟨g, 0, none⟩)] w fun e w' => e = .returned (.int .u32 (num (r.take 4) : Int)) ∧ Rd w' B g (r.drop 4) false ∧ w.grownBy w' (some g) := by
  have := U32_any B g r false w h
  rw [rdTake_four r hl] at this
  exact this
/-- What say leaves of communities. -/
def SayPostC (w : World) (gx : Nat) (f : Value → List Value) (z : List Nat) (e : Ending) (W' : World) : Prop := ∃ v, SayPost w gx (f v) e W' ∧ Own32 W' (w.heap.size + 3) v z ∧ (z = [] → v = .slice none 0 0)
set_option maxRecDepth 100000 in
set_option maxHeartbeats 12800000 in
theorem say8_any (gx : Nat) (wide : Bool) (vo vp vn vm vf va vh vs vd vr vk vw vg : Value) (f : Int) (A A2 : Option Addr) (c n2 c2 : Nat) (l : List UInt8) (w : World) (hx : Blk w gx 99 [.bool wide, vo, vp, vn, vm, vf, va, vh, vs, vd, .slice none 0 0, vr, vk, vw, vg]) (h : Bytes w A l) (hc : l.length ≤ c) (hm : c ≤ maxLen) (hv : l.length % 4 = 0 ∧ l.length ≤ 128) :
    Calls Tryz.prog 104 #[.pointer (some ⟨gx, 0, none⟩), .agg #[.int .i64 f, .int .i64 8, .slice A l.length c, .slice A2 n2 c2]] w (SayPostC w gx (fun v => [.bool wide, vo, vp, vn, vm, vf, va, vh, vs, vd, v, vr, vk, vw, vg]) (nums4 l)) := by
  obtain ⟨W0, hW0⟩ : ∃ W0, W0 = (w.alloc (.cells #[.int .i64 f, .int .i64 8, .slice A l.length c, .slice A2 n2 c2] 101)).alloc (.cells #[.int .i64 0, .int .i64 0, .slice none 0 0] 43) := ⟨_, rfl⟩
  have hb1 : Below w.heap.size w W0 := by rw [hW0]; exact ((Below.refl _ _).alloc (Nat.le_refl _) _).alloc (by simp) _
  have kp : Blk W0 w.heap.size 101 [.int .i64 f, .int .i64 8, .slice A l.length c, .slice A2 n2 c2] := by
    rw [hW0]
    exact (Blk.new w _ _).below ((Below.refl _ _).alloc (Nat.le_refl _) _) (by simp)
  have p2 : W0.cell? ⟨w.heap.size, 2, none⟩ = some (.slice A l.length c) := kp.cell 2
  have QN := Lib.hid (New_any A l.length c l rfl W0 (h.below hb1) hc hm)
  have HST := Lib.hid (fun (w1 : World) (hr : Rd w1 W0.heap.size W0.heap.size l false) (hb : Below W0.heap.size W0 w1) => SaySt.start hx hW0 hr hb)
  have hz : W0.heap.size = w.heap.size + 2 := by rw [hW0]; simp
  have HZ := Lib.hid hz
  have hsx : ¬ w.heap.size = gx := by have := hx.lt; omega
  have HKP := Lib.hid (fun (w1 : World) (hb : Below W0.heap.size W0 w1) => kp.below hb kp.lt)
  have HW0 := Lib.hid hW0; have HV := Lib.hid hv; have HLT := Lib.hid hx.lt
  clear hb1 kp hW0 hz hx h hc hm hv
  go_enter Tryz.func104, Tryz.ntmps104
  go_wp2_with (rw [← HW0.out])
  refine QN.out.mono ?_
  rintro e w1 ⟨rfl, hr1, hb1⟩
  have S1 := Lib.hid (HST.out w1 hr1 hb1)
  have kp1 := HKP.out w1 hb1
  have p1 : w1.cell? ⟨w.heap.size, 1, none⟩ = some (.int .i64 8) := kp1.cell 1
  rw [HZ.out]
  have QL := Lib.hid (Left_any _ _ _ _ w1 S1.out.rd)
  have hl128 : ¬ 128 < (l.length : Int) := by have := HV.out.2; omega
  clear hr1 hb1 p2 QN HST HW0 HKP kp1
  go_wp2_with fail
  refine QL.out.mono ?_
  rintro e w2 ⟨rfl, rfl⟩
  clear QL
  go_wp2_with fail
  go_loopw [] (fun wr => ComRel w gx (fun v => [.bool wide, vo, vp, vn, vm, vf, va, vh, vs, vd, v, vr, vk, vw, vg]) l wr) (fun wr => leftAt wr (w.heap.size + 2))
  case atStart => exact ⟨_, [], l, S1.out.g, Own32.nil _ _, S1.out.rd, HV.out.1, by have := HV.out.2; simp; omega, rfl, fun _ => rfl⟩
  case round =>
    obtain ⟨v, z, r, sg, ho, hrd, hr4, hzr, hzn, hnil⟩ := hrel
    have SG := Lib.hid sg; have HO := Lib.hid ho; have HRD := Lib.hid hrd; have HNIL := Lib.hid hnil; have HZN := Lib.hid hzn
    have QL := Lib.hid (Left_any _ _ _ _ wr hrd)
    have HLF := Lib.hid (rd_left hrd)
    by_cases hr : r = []
    · subst hr
      have HE := Lib.hid sg.fin
      have kr := sg.res
      have c3 := cells3 kr
      have f3 := free3 kr
      have r3 := cells3 (kr.set3 (.int .i64 0) (.int .i64 0) (.slice none 0 0))
      have HFO := Lib.hid (row_keep ho kr (by decide) (grown_set3 wr (w.heap.size + 1) (.int .i64 0) (.int .i64 0) (.slice none 0 0)))
      have hz : z = nums4 l := by rw [← hzn]; simp [nums4]
      have HZZ := Lib.hid hz
      clear sg ho hrd hnil hzn kr hz hsx
      go_wp2_with fail
      refine QL.out.mono ?_
      rintro e w3 ⟨rfl, rfl⟩
      go_wp2_with fail
      refine bodyPost_ret (v := fault0) (by simp [results, Tryz.results104, go_sem, fault0, r3]) rfl ?_
      rw [← HZZ.out]
      exact ⟨v, ⟨rfl, HE.out⟩, HFO.out, HNIL.out⟩
    · have hpos : 0 < r.length := List.length_pos_iff.2 hr
      have h4 : 4 ≤ r.length := by omega
      have hpI : (0 : Int) < (r.length : Int) := by omega
      obtain ⟨y, hy⟩ : ∃ y, y = num (r.take 4) := ⟨_, rfl⟩
      have QU := u32_post (w := wr.drew) (B := w.heap.size + 2) (g := w.heap.size + 2) (r := r) hrd h4
      rw [← hy] at QU
      have HQU := Lib.hid QU
      have HNX := Lib.hid (show (z ++ [y]) ++ nums4 (r.drop 4) = nums4 l by rw [← hzn, nums4_step r h4, ← hy]; simp)
      have HLEN := Lib.hid (show (r.drop 4).length % 4 = 0 ∧ (z ++ [y]).length + (r.drop 4).length ≤ 128 ∧ (r.drop 4).length < r.length by rw [List.length_drop, List.length_append]; simp; omega)
      have HSZ := Lib.hid (show z.length + 1 ≤ 100000000000 by omega)
      obtain ⟨AV, cV, rfl, _, _⟩ := ho.form
      have c1 : wr.cell? ⟨gx, 10, none⟩ = some (.slice AV z.length cV) := sg.blk.cell 10
      have hgl := sg.lt
      have HGL := Lib.hid hgl
      clear sg ho hrd hnil hzn hy hzr hr4 hpos h4 hr QU hsx hgl
      go_wp2_with fail
      refine QL.out.mono ?_
      rintro e w3 ⟨rfl, rfl⟩
      clear QL
      go_wp2_with fail
      go_region_law ((first
        | (have hq5 := HO5; clear hq5; refine step_one32 (by rfl) (.tmp 121) (.tmp 124) (by rfl) (w.heap.size + 3) _ z (by rfl) w5 y rfl HO5.out (by rfl) HSZ.out HZ5.out ?_; intro v6 w6 ho6 hg6; have sg6 := HS5.out.far hg6 (fun j hj => by have := (World.ownsRow.lt HO5.out j hj).1; omega); have c6 : w6.cell? ⟨gx, 10, none⟩ = some (.slice AV z.length cV) := sg6.blk.cell 10; have f6 : w6.frozen? ⟨gx, 10, none⟩ = false := sg6.blk.free 10; have hr6 := rd_far HR5.out hg6 (fun j hj => by have := (World.ownsRow.lt HO5.out j hj).1; omega) (by have := HZ5.out; omega); obtain ⟨A6, d6, rfl, q1, q2⟩ := ho6.form; have el : (z ++ [y]).length = z.length + 1 := List.length_append; rw [el] at ho6 q1; have HO6 := Lib.hid ho6; have HS6 := Lib.hid sg6; have HR6 := Lib.hid hr6; clear ho6 hg6 sg6 hr6)
        | (go_simp; go_at_call 98; refine HQU.out.mono ?_; rintro e w5 ⟨rfl, hr5, hg5⟩; have hg5' := grown_of_drew hg5; have s5 := SG.out.far hg5' (fun j hj => by cases hj; exact Nat.le_refl _); have c5 : w5.cell? ⟨gx, 10, none⟩ = some (.slice AV z.length cV) := s5.blk.cell 10; have c5a : (w5.alloc (.cells #[.int .u32 (y : Int)] 24)).cell? ⟨gx, 10, none⟩ = some (.slice AV z.length cV) := (Blk.below s5.blk ((Below.refl w5.heap.size w5).alloc (Nat.le_refl _) _) s5.blk.lt).cell 10; have HO5 := Lib.hid (own32_apart HO.out hg5' (Nat.lt_succ_self _)); have HS5 := Lib.hid s5; have HR5 := Lib.hid hr5; have HZ5 := Lib.hid (show w.heap.size + 3 ≤ w5.heap.size from hr5.lt); clear hr5 hg5 hg5' s5)))
      all_goals
        have sg7 := HS6.out.set 10 (.slice A6 (z.length + 1) d6)
        have hr7 := rd_set HR6.out (by have := HGL.out; omega) c6 (.slice A6 (z.length + 1) d6)
        have ho7 := row_keep HO6.out HS6.out.blk (by decide) (grown_setCell (grown_refl w6 (some gx)) 10 (.slice A6 (z.length + 1) d6))
        have HS7 := Lib.hid sg7; have HR7 := Lib.hid hr7; have HO7 := Lib.hid ho7
        have HM := Lib.hid (show leftAt (w6.setCell ⟨gx, 10, none⟩ (.slice A6 (z.length + 1) d6)) (w.heap.size + 2) < leftAt wr (w.heap.size + 2) by rw [rd_left hr7, HLF.out]; exact HLEN.out.2.2)
        clear c5 c5a c6 f6 c1 sg7 hr7 ho7
        go_wp2_with fail
        go_roundw
        case rel => exact ⟨_, z ++ [y], r.drop 4, HS7.out, HO7.out, HR7.out, HLEN.out.1, HLEN.out.2.1, HNX.out, fun e => by simp at e⟩
        case measure => exact HM.out
set_option maxHeartbeats 3200000 in
theorem say18_any (gx : Nat) (wide : Bool) (vo vp vn vm vf va vh vs vd vc vr vk vw vg : Value) (f : Int) (A A2 : Option Addr) (c n2 c2 : Nat) (l : List UInt8) (w : World) (hx : Blk w gx 99 [.bool wide, vo, vp, vn, vm, vf, va, vh, vs, vd, vc, vr, vk, vw, vg]) (h : Bytes w A l) (hc : l.length ≤ c) (hm : c ≤ maxLen) :
    Calls Tryz.prog 104 #[.pointer (some ⟨gx, 0, none⟩), .agg #[.int .i64 f, .int .i64 18, .slice A l.length c, .slice A2 n2 c2]] w (SayPost w gx [.bool wide, vo, vp, vn, vm, vf, va, vh, vs, vd, vc, vr, vk, vw, .slice A l.length c]) := by
  obtain ⟨W0, hW0⟩ : ∃ W0, W0 = (w.alloc (.cells #[.int .i64 f, .int .i64 18, .slice A l.length c, .slice A2 n2 c2] 101)).alloc (.cells #[.int .i64 0, .int .i64 0, .slice none 0 0] 43) := ⟨_, rfl⟩
  have hb1 : Below w.heap.size w W0 := by rw [hW0]; exact ((Below.refl _ _).alloc (Nat.le_refl _) _).alloc (by simp) _
  have kp : Blk W0 w.heap.size 101 [.int .i64 f, .int .i64 18, .slice A l.length c, .slice A2 n2 c2] := by
    rw [hW0]
    exact (Blk.new w _ _).below ((Below.refl _ _).alloc (Nat.le_refl _) _) (by simp)
  have p2 : W0.cell? ⟨w.heap.size, 2, none⟩ = some (.slice A l.length c) := kp.cell 2
  have QN := Lib.hid (New_any A l.length c l rfl W0 (h.below hb1) hc hm)
  have HST := Lib.hid (fun (w1 : World) (hr : Rd w1 W0.heap.size W0.heap.size l false) (hb : Below W0.heap.size W0 w1) => SaySt.start hx hW0 hr hb)
  have hz : W0.heap.size = w.heap.size + 2 := by rw [hW0]; simp
  have HZ := Lib.hid hz
  have hsx : ¬ w.heap.size = gx := by have := hx.lt; omega
  have HKP := Lib.hid (fun (w1 : World) (hb : Below W0.heap.size W0 w1) => kp.below hb kp.lt)
  have HW0 := Lib.hid hW0; have HLT := Lib.hid hx.lt
  clear hb1 kp hW0 hz hx h hc hm
  go_enter Tryz.func104, Tryz.ntmps104
  go_wp2_with (rw [← HW0.out])
  refine QN.out.mono ?_
  rintro e w1 ⟨rfl, hr1, hb1⟩
  have S1 := Lib.hid (HST.out w1 hr1 hb1)
  have kp1 := HKP.out w1 hb1
  have p1 : w1.cell? ⟨w.heap.size, 1, none⟩ = some (.int .i64 18) := kp1.cell 1
  have p22 : w1.cell? ⟨w.heap.size, 2, none⟩ = some (.slice A l.length c) := kp1.cell 2
  rw [HZ.out]
  clear hr1 hb1 p2 QN HST HW0 HKP kp1
  have x1 : w1.cell? ⟨gx, 14, none⟩ = some vg := S1.out.blk.cell 14
  have y1 := S1.out.blk.free 14
  have kr := S1.out.resAt 14 (.slice A l.length c)
  have c3 := cells3 kr
  have f3 := free3 kr
  have r3 := cells3 (kr.set3 (.int .i64 0) (.int .i64 0) (.slice none 0 0))
  have HE := Lib.hid (S1.out.end 14 (.slice A l.length c))
  have hlt := HLT.out
  have hne1 : ¬ gx = w.heap.size + 1 := by omega
  have hne2 : ¬ w.heap.size + 1 = gx := by omega
  clear kr hlt
  go_wp2_with fail
  exact bodyPost_ret (v := fault0) (by simp [results, Tryz.results104, go_sem, fault0, r3]) rfl ⟨rfl, HE.out⟩
end Go.Proofs.YtnaangnmlbgmkaaGreatDoor

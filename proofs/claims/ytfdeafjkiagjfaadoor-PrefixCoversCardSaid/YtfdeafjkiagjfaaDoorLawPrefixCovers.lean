/-
  P2.2: what any prefix holds, covers, and has in common with another one.
-/
import Derived.Test.YtfdeafjkiagjfaaDoorFrame
import Derived.Test.YtfdeafjkiagjfaaDoorRefCommon
import Derived.Test.YtfdeafjkiagjfaaDoorRefHolds
import Derived.Test.YtfdeafjkiagjfaaDoorCompare
import Derived.Deep.RegionHeld3
import Derived.Lib.SmallJoins
namespace Go.Proofs.YtfdeafjkiagjfaaDoor.PrefixCovers
open Go.ChangeShapes Go.WideShapes Go.ChangeAt Go.RowKit
open Go.ChangeMaps (open_string shut_string)
set_option linter.unusedVariables false

/-! THE WALK. -/
set_option maxHeartbeats 6400000 in
theorem walk (a0 n0 : Int) (a1 n1 : Int) (n2 : Int) (w : World) (ha0 : 0 ≤ a0 ∧ a0 ≤ 4294967295) (hn0 : -9223372036854775808 ≤ n0 ∧ n0 ≤ 9223372036854775807) (ha1 : 0 ≤ a1 ∧ a1 ≤ 4294967295) (hn1 : -9223372036854775808 ≤ n1 ∧ n1 ≤ 9223372036854775807) (hn2 : 0 ≤ n2 ∧ n2 ≤ 4294967295) (ht : Tab w) :
    Calls Tryd.prog 4 #[.agg #[.int .u32 a0, .int .i64 n0], .agg #[.int .u32 a1, .int .i64 n1], .int .u32 n2] w fun e w' => e = .returned (.bool true) ∧ Below w.heap.size w w' := by
  obtain ⟨p, rfl⟩ := Int.eq_ofNat_of_zero_le ha0.1
  obtain ⟨q, rfl⟩ := Int.eq_ofNat_of_zero_le ha1.1
  obtain ⟨x, rfl⟩ := Int.eq_ofNat_of_zero_le hn2.1
  have hp : p < 4294967296 := by omega
  have hq : q < 4294967296 := by omega
  have hx : x < 4294967296 := by omega
  have HS := Lib.hid (fun w' hb => box2_cells w (.int .u32 (p : Int)) (.int .i64 n0) (.int .u32 (q : Int)) (.int .i64 n1) (w' := w') hb)
  have hbc : Below ((w.alloc (.cells #[.int .u32 (p : Int), .int .i64 n0] 24)).alloc (.cells #[.int .u32 (q : Int), .int .i64 n1] 24)).heap.size ((w.alloc (.cells #[.int .u32 (p : Int), .int .i64 n0] 24)).alloc (.cells #[.int .u32 (q : Int), .int .i64 n1] 24)) ((w.alloc (.cells #[.int .u32 (p : Int), .int .i64 n0] 24)).alloc (.cells #[.int .u32 (q : Int), .int .i64 n1] 24)).drew := (Below.refl _ _).drew
  have HT := Lib.hid (fun (w' : World) (hb : Below ((w.alloc (.cells #[.int .u32 (p : Int), .int .i64 n0] 24)).alloc (.cells #[.int .u32 (q : Int), .int .i64 n1] 24)).heap.size ((w.alloc (.cells #[.int .u32 (p : Int), .int .i64 n0] 24)).alloc (.cells #[.int .u32 (q : Int), .int .i64 n1] 24)) w') => ht.below (below_box (below_box hb)) ht.lt)
  have Q1 := fun W => Lib.hid (Holds_any p n0 x W hp hx hn0.1 hn0.2)
  have Q2 := fun W => Lib.hid (RefHolds_any p n0 x W hp hx)
  have Q3 := fun W => Lib.hid (Covers_any p q n0 n1 W hp hq hn0.1 hn0.2 hn1.1 hn1.2)
  have Q4 := fun W => Lib.hid (RefCovers_any p q n0 n1 W hp hq)
  have Q5 := fun W => Lib.hid (Compare_any p q n0 n1 W hp hq)
  have Q6 := fun W => Lib.hid (RefCompare_any p q n0 n1 W hp hq)
  have Q7 := fun W => Lib.hid (Common_any p q n0 n1 W hp hq hn0.1 hn0.2 hn1.1 hn1.2)
  have Q8 := fun W => Lib.hid (RefCommon_any p q n0 n1 W hp hq)
  obtain ⟨H, hH⟩ : ∃ H, H = holdsB (p : Int) n0 x := ⟨_, rfl⟩
  obtain ⟨C, hC⟩ : ∃ C, C = coversB (p : Int) n0 q n1 := ⟨_, rfl⟩
  obtain ⟨M, hM⟩ : ∃ M, M = cmpP (p : Int) n0 (q : Int) n1 := ⟨_, rfl⟩
  obtain ⟨Y, hY⟩ : ∃ Y, Y = comP (p : Int) n0 (q : Int) n1 := ⟨_, rfl⟩
  rw [← hH] at Q1 Q2
  rw [← hC] at Q3 Q4
  rw [← hM] at Q5 Q6
  rw [← hY] at Q7 Q8
  obtain ⟨Y1, Y2⟩ := Y
  clear hH hC hM hY ht
  dsimp only at Q7 Q8
  go_enter Tryd.func4, Tryd.ntmps4
  go_wp2_with fail
  go_region_held3 (fun w' => (w'.cell? ⟨w.heap.size, 0, none⟩ = some (.int .u32 (p : Int)) ∧ w'.cell? ⟨w.heap.size, 1, none⟩ = some (.int .i64 n0)) ∧ w'.cell? ⟨w.heap.size + 1, 0, none⟩ = some (.int .u32 (q : Int)) ∧ w'.cell? ⟨w.heap.size + 1, 1, none⟩ = some (.int .i64 n1)) (exact HS.out _ hbc) ((first
    | (go_at_call 18; refine (Q1 _).out.mono ?_; rintro e wx ⟨rfl, hg⟩; replace hbc := hbc.trans (hg.mono hbc.size); clear hg)
    | (go_at_call 19; refine (Q2 _).out.mono ?_; rintro e wx ⟨rfl, hg⟩; replace hbc := hbc.trans (hg.mono hbc.size); clear hg)
    | (go_at_call 20; refine (Q3 _).out.mono ?_; rintro e wx ⟨rfl, hg⟩; replace hbc := hbc.trans (hg.mono hbc.size); clear hg)
    | (go_at_call 21; refine (Q4 _).out.mono ?_; rintro e wx ⟨rfl, hg⟩; replace hbc := hbc.trans (hg.mono hbc.size); clear hg)
    | (go_at_call 22; refine (Q5 _).out.mono ?_; rintro e wx ⟨rfl, hg⟩; replace hbc := hbc.trans (hg.mono hbc.size); clear hg)
    | (go_at_call 23; refine (Q6 _).out.mono ?_; rintro e wx ⟨rfl, hg⟩; replace hbc := hbc.trans (hg.mono hbc.size); clear hg)
    | (go_at_call 24; refine (Q7 _).out.mono ?_; rintro e wx ⟨rfl, hg⟩; replace hbc := hbc.trans (hg.mono hbc.size); clear hg)
    | (go_at_call 25; refine (Q8 _).out.mono ?_; rintro e wx ⟨rfl, hg⟩; replace hbc := hbc.trans (hg.mono hbc.size); clear hg)
    | (go_at_call 17; refine (awake_any _ (HT.out _ hbc)).mono ?_; rintro e wx ⟨rfl, hg⟩; replace hbc := hbc.trans (hg.mono hbc.size); clear hg)))
  go_wp2_with fail
  go_ret
  exact ⟨rfl, below_box (below_box hbc)⟩

theorem contract (H : Type) (enc : TypeId × Value → H) (W : World) (base : Nat) (args : Array Value) (ds gs : List (DataW H)) (before : List MemPlace)
    (hval : ∀ (j : Nat) t v, Tryd.f4.params[j]? = some t → args[j]? = some v → Value.okWide Tryd.prog W .any base t v)
    (hW : DataW.Whole enc Tryd.prog Tryd.f4.params.toList Rows.prefixCoversSpec.vars false W args.toList ds gs before)
    (hL : laidMetH Tryd.prog Rows.prefixCoversRow.laid W) :
    Calls Tryd.prog 4 args W fun e W' => ∃ v, e = .returned v ∧ Rows.prefixCoversSpec.post enc Tryd.prog Tryd.f4 false true false false W args v W' := by
  have hW' := hW
  obtain ⟨p, q, hA0, hV, rfl, hfz, hnd⟩ := hW
  have hA : DataW.TrodAll enc Tryd.prog W 0 (fun _ => true) true Tryd.f4.params.toList args.toList ds p := hA0
  rw [Tryd.params4] at hA hval
  obtain ⟨v0, vs0, d0, ds0, p0, q0, hargs, rfl, rfl, h0, r0⟩ := trodAll_cons hA
  obtain ⟨v1, vs1, d1, ds1, p1, q1, rfl, rfl, rfl, h1, r1⟩ := trodAll_cons r0
  obtain ⟨v2, vs2, d2, ds2, p2, q2, rfl, rfl, rfl, h2, r2⟩ := trodAll_cons r1
  obtain ⟨rfl, rfl, rfl⟩ := trodAll_nil r2
  obtain rfl : args = #[v0, v1, v2] := by cases args; simp_all
  obtain ⟨rfl, rfl⟩ := trodVars_none hV
  obtain ⟨cx0, cy0, yx0, yy0, m0, rfl, rfl, rfl, hx0, hy0⟩ := Joins.open_agg2 Tryd.underlying24 (by kernel_rfl) (by kernel_rfl) (hval 0 24 v0 rfl rfl) h0
  obtain ⟨x0, ex0, rfl, wx0⟩ := DataW.trod_int Tryd.underlying22 hx0
  obtain ⟨y0, ey0, rfl, wy0⟩ := DataW.trod_int Tryd.underlying3 hy0
  simp at ex0 ey0
  subst ex0 ey0
  obtain ⟨cx1, cy1, yx1, yy1, m1, rfl, rfl, rfl, hx1, hy1⟩ := Joins.open_agg2 Tryd.underlying24 (by kernel_rfl) (by kernel_rfl) (hval 1 24 v1 rfl rfl) h1
  obtain ⟨x1, ex1, rfl, wx1⟩ := DataW.trod_int Tryd.underlying22 hx1
  obtain ⟨y1, ey1, rfl, wy1⟩ := DataW.trod_int Tryd.underlying3 hy1
  simp at ex1 ey1
  subst ex1 ey1
  obtain ⟨x2, rfl, rfl, rfl, w2⟩ := open_int Tryd.underlying22 (hval 2 22 v2 rfl rfl) h2
  clear hA0
  refine (walk x0 y0 x1 y1 x2 W (bounds_u32 wx0) (bounds_i64 wy0) (bounds_u32 wx1) (bounds_i64 wy1) (bounds_u32 w2) (tab_of_laid hL)).mono fun e W' ⟨he, bel⟩ => ?_
  subst he
  exact ⟨_, rfl, _, _, _, [], _, [], hW', trodAll_mk1 (shut_bool Tryd.underlying4 _), (trodAll_cons_mk (Joins.shut_agg2 (y0 := (.lit (.int .u32 x0), [])) (y1 := (.lit (.int .i64 y0), [])) Tryd.underlying24 (by kernel_rfl) (by kernel_rfl) ⟨1, by simp [DataW.trod, Tryd.underlying22, wx0]⟩ ⟨1, by simp [DataW.trod, Tryd.underlying3, wy0]⟩) (trodAll_cons_mk (Joins.shut_agg2 (y0 := (.lit (.int .u32 x1), [])) (y1 := (.lit (.int .i64 y1), [])) Tryd.underlying24 (by kernel_rfl) (by kernel_rfl) ⟨1, by simp [DataW.trod, Tryd.underlying22, wx1]⟩ ⟨1, by simp [DataW.trod, Tryd.underlying3, wy1]⟩) (trodAll_cons_mk (shut_int Tryd.underlying22 w2) trodAll_mk0))), rfl, bel.frame _, fun h => by cases h⟩

noncomputable def laidWorld (os : Os) : World :=
  { World.holding Tryd.prog os ⟨#[], #[], []⟩ with heap := (World.holding Tryd.prog os ⟨#[], #[], []⟩).heap.modify 0 fun
      | .cells _ t frozen => .cells tabCells t frozen
      | o => o }
theorem laid_met (os : Os) : laidMet Tryd.prog Rows.prefixCoversRow.laid ((laidWorld os).forCall (fun _ _ => 0) ⟨#[], #[.agg #[.int .u32 0, .int .i64 0], .agg #[.int .u32 0, .int .i64 0], .int .u32 0], []⟩).memory :=
  laidMet_of_run' 8 (by kernel_rfl) (by kernel_rfl)
theorem reads (os : Os) {H : Type} (enc : TypeId × Value → H) : ∃ places, DataW.whole enc Tryd.prog ((laidWorld os).forCall (fun _ _ => 0) ⟨#[], #[.agg #[.int .u32 0, .int .i64 0], .agg #[.int .u32 0, .int .i64 0], .int .u32 0], []⟩).memory Tryd.f4.params.toList Rows.prefixCoversSpec.vars false (#[.agg #[.int .u32 0, .int .i64 0], .agg #[.int .u32 0, .int .i64 0], .int .u32 0] : Array Value).toList 8 = some ([.agg [.lit (.int .u32 0), .lit (.int .i64 0)], .agg [.lit (.int .u32 0), .lit (.int .i64 0)], .lit (.int .u32 0)], [], places) :=
  ⟨[], by kernel_rfl⟩

set_option maxRecDepth 100000 in
theorem lifted (os : Os) (started : os.Started) (H : Type) (enc : TypeId × Value → H) (F : Stop.Interp) :
    ReturnsInHanded {} Tryd.checked os 4 .any ((OpenSpec.ofChange Rows.prefixCoversSpec).preRow enc Tryd.prog Tryd.f4 Rows.prefixCoversRow.domain false Rows.prefixCoversRow.laid) (((OpenSpec.ofChange Rows.prefixCoversSpec).at F).post enc Tryd.prog Tryd.f4 false true false false) := by
  obtain ⟨places, hx⟩ := reads os enc
  refine returnsInHanded_of_row (C := Tryd.checked) (s := OpenSpec.ofChange Rows.prefixCoversSpec) own started (by kernel_rfl) Tryd.func4
    (witness_row_at (enc := enc) (C := Tryd.checked) false (laidWorld os) #[.agg #[.int .u32 0, .int .i64 0], .agg #[.int .u32 0, .int .i64 0], .int .u32 0] rfl (by kernel_rfl) (by kernel_rfl) (by kernel_rfl)
      (OpenSpec.preRow_of_cond 8 hx (by kernel_rfl) (fun k hk => by cases hk) (by kernel_rfl) (laid_met os))) ?_
  intro W base args ds gs before hval hW _ _ _ hL _ _
  exact contract H enc W base args ds gs before hval hW hL

theorem said : Rows.PrefixCoversSaid :=
  OpenClaim.holds_of_cond 4 Tryd.f4 rfl rfl rfl rfl rfl rfl rfl ⟨rfl, rfl, rfl, rfl, rfl⟩ rfl rfl rfl rfl rfl (by kernel_rfl) Tryd.func4 (by kernel_rfl)
    (of_decide_eq_true (by kernel_rfl)) (by unfold Func.isWrapper; first | (rw [if_pos (by decide +kernel)]; kernel_rfl) | (rw [if_neg (by decide +kernel)]; exact ⟨rfl, rfl⟩))
    (fun os started H enc _ F => by rw [OpenClaim.pre_eq_preRow]; exact lifted os started H enc F)

/-- No parameter wants a stand-in; the program's own looks are off: what the card asks. -/
theorem plain (f : FuncId) (fn : Func) (hf : Tryd.pinned.checked.prog.funcNamed "speculum/speculumlaw02.PrefixCovers" = some f) (hfn : Tryd.pinned.checked.prog.funcs[f]? = some fn) :
    false = Tryd.pinned.checked.prog.looks [] ∧ ∀ (j : Nat) t, fn.params[j]? = some t → Tryd.pinned.checked.prog.wantsStandIn t = false := by
  obtain rfl : f = 4 := Option.some.inj ((show Tryd.prog.funcNamed "speculum/speculumlaw02.PrefixCovers" = some 4 by kernel_rfl).symm.trans hf) |>.symm
  obtain rfl : fn = Tryd.f4 := (Option.some.inj (Tryd.func4.symm.trans hfn)).symm
  refine ⟨by kernel_rfl, fun j t ht => ?_⟩
  rw [Tryd.params4] at ht
  have hm : t ∈ [24, 24, 22] := by simpa using Array.mem_of_getElem? ht
  have hall : ([24, 24, 22].all fun u => !Tryd.prog.wantsStandIn u) = true := by kernel_rfl
  exact (show Tryd.prog.wantsStandIn t = false by simpa using List.all_eq_true.1 hall t hm)

/-- ████ THE CARD ████ -/
theorem card : Rows.PrefixCoversCardSaid :=
  Claim7.holds_tied_plain_at .later [] _ _ _ _ said (fun _ h => by cases h) (by kernel_rfl) (fun _ h => by cases h) prefixCovers_row_tie rfl ⟨rfl, rfl⟩ (by kernel_rfl) rfl plain (by kernel_rfl)
end Go.Proofs.YtfdeafjkiagjfaaDoor.PrefixCovers

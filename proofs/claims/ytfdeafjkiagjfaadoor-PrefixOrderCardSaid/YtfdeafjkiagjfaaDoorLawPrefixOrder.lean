/-
  P2.2, P2.5: which comes first is one order; covering goes on.
-/
import Derived.Test.YtfdeafjkiagjfaaDoorFrame
import Derived.Test.YtfdeafjkiagjfaaDoorOrdEqA
import Derived.Test.YtfdeafjkiagjfaaDoorOrdEqB
import Derived.Test.YtfdeafjkiagjfaaDoorOrdLtA
import Derived.Test.YtfdeafjkiagjfaaDoorOrdLtB
import Derived.Test.YtfdeafjkiagjfaaDoorOrdGt
import Derived.Lib.SmallJoins
namespace Go.Proofs.YtfdeafjkiagjfaaDoor.PrefixOrder
open Go.ChangeShapes Go.WideShapes Go.ChangeAt Go.RowKit
open Go.ChangeMaps (open_string shut_string)
set_option linter.unusedVariables false

/-! THE WALK. -/
theorem walk (a0 n0 : Int) (a1 n1 : Int) (a2 n2 : Int) (w : World) (ha0 : 0 ≤ a0 ∧ a0 ≤ 4294967295) (hn0 : -9223372036854775808 ≤ n0 ∧ n0 ≤ 9223372036854775807) (ha1 : 0 ≤ a1 ∧ a1 ≤ 4294967295) (hn1 : -9223372036854775808 ≤ n1 ∧ n1 ≤ 9223372036854775807) (ha2 : 0 ≤ a2 ∧ a2 ≤ 4294967295) (hn2 : -9223372036854775808 ≤ n2 ∧ n2 ≤ 9223372036854775807) (ht : Tab w) :
    Calls Tryd.prog 5 #[.agg #[.int .u32 a0, .int .i64 n0], .agg #[.int .u32 a1, .int .i64 n1], .agg #[.int .u32 a2, .int .i64 n2]] w fun e w' => e = .returned (.bool true) ∧ Below w.heap.size w w' := by
  obtain ⟨a, rfl⟩ := Int.eq_ofNat_of_zero_le ha0.1
  obtain ⟨b, rfl⟩ := Int.eq_ofNat_of_zero_le ha1.1
  obtain ⟨c, rfl⟩ := Int.eq_ofNat_of_zero_le ha2.1
  have ha : a < 4294967296 := by omega
  have hb : b < 4294967296 := by omega
  have hc : c < 4294967296 := by omega
  have hr := cmpP_range (a : Int) n0 (b : Int) n1
  have hng := cmpP_neg (a : Int) n0 (b : Int) n1
  by_cases hpq : a = b ∧ n0 = n1
  · obtain ⟨rfl, rfl⟩ := hpq
    have h0 : cmpP (a : Int) n0 (a : Int) n0 = 0 := cmpP_zero.2 ⟨rfl, rfl⟩
    by_cases hB : cmpP (a : Int) n0 (c : Int) n2 ≤ 0
    · exact eq_b a c n0 n2 w ha hc hn0 hn2 ht h0 hB
    · exact eq_a a c n0 n2 w ha hc hn0 hn2 ht h0 hB
  · have h0 : ¬ cmpP (a : Int) n0 (b : Int) n1 = 0 := fun h => hpq ⟨by have := (cmpP_zero.1 h).1; omega, (cmpP_zero.1 h).2⟩
    by_cases hA : cmpP (a : Int) n0 (b : Int) n1 = -1
    · by_cases hB : cmpP (b : Int) n1 (c : Int) n2 ≤ 0
      · exact lt_b a b c n0 n1 n2 w ha hc hn0 hn2 hb hn1 ht hpq hA (by omega) hB
      · exact lt_a a b c n0 n1 n2 w ha hc hn0 hn2 hb hn1 ht hpq hA (by omega) hB
    · exact gt a b c n0 n1 n2 w ha hc hn0 hn2 hb hn1 ht hpq (by omega) (by omega)

theorem contract (H : Type) (enc : TypeId × Value → H) (W : World) (base : Nat) (args : Array Value) (ds gs : List (DataW H)) (before : List MemPlace)
    (hval : ∀ (j : Nat) t v, Tryd.f5.params[j]? = some t → args[j]? = some v → Value.okWide Tryd.prog W .any base t v)
    (hW : DataW.Whole enc Tryd.prog Tryd.f5.params.toList Rows.prefixOrderSpec.vars false W args.toList ds gs before)
    (hL : laidMetH Tryd.prog Rows.prefixOrderRow.laid W) :
    Calls Tryd.prog 5 args W fun e W' => ∃ v, e = .returned v ∧ Rows.prefixOrderSpec.post enc Tryd.prog Tryd.f5 false true false false W args v W' := by
  have hW' := hW
  obtain ⟨p, q, hA0, hV, rfl, hfz, hnd⟩ := hW
  have hA : DataW.TrodAll enc Tryd.prog W 0 (fun _ => true) true Tryd.f5.params.toList args.toList ds p := hA0
  rw [Tryd.params5] at hA hval
  obtain ⟨v0, vs0, d0, ds0, p0, q0, hargs, rfl, rfl, h0, r0⟩ := trodAll_cons hA
  obtain ⟨v1, vs1, d1, ds1, p1, q1, rfl, rfl, rfl, h1, r1⟩ := trodAll_cons r0
  obtain ⟨v2, vs2, d2, ds2, p2, q2, rfl, rfl, rfl, h2, r2⟩ := trodAll_cons r1
  obtain ⟨rfl, rfl, rfl⟩ := trodAll_nil r2
  obtain rfl : args = #[v0, v1, v2] := by cases args; simp_all
  obtain ⟨rfl, rfl⟩ := trodVars_none hV
  obtain ⟨cx0, cy0, yx0, yy0, m0, rfl, rfl, rfl, hx0, hy0⟩ := Joins.open_agg2 Tryd.underlying24 (by kernel_rfl) (by kernel_rfl) (hval 0 24 v0 rfl rfl) h0
  obtain ⟨x0, ex0, rfl, wx0⟩ := DataW.trod_int Tryd.underlying22 hx0
  obtain ⟨y0, ey0, rfl, wy0⟩ := DataW.trod_int Tryd.underlying3 hy0
  simp at ex0 ey0
  subst ex0 ey0
  obtain ⟨cx1, cy1, yx1, yy1, m1, rfl, rfl, rfl, hx1, hy1⟩ := Joins.open_agg2 Tryd.underlying24 (by kernel_rfl) (by kernel_rfl) (hval 1 24 v1 rfl rfl) h1
  obtain ⟨x1, ex1, rfl, wx1⟩ := DataW.trod_int Tryd.underlying22 hx1
  obtain ⟨y1, ey1, rfl, wy1⟩ := DataW.trod_int Tryd.underlying3 hy1
  simp at ex1 ey1
  subst ex1 ey1
  obtain ⟨cx2, cy2, yx2, yy2, m2, rfl, rfl, rfl, hx2, hy2⟩ := Joins.open_agg2 Tryd.underlying24 (by kernel_rfl) (by kernel_rfl) (hval 2 24 v2 rfl rfl) h2
  obtain ⟨x2, ex2, rfl, wx2⟩ := DataW.trod_int Tryd.underlying22 hx2
  obtain ⟨y2, ey2, rfl, wy2⟩ := DataW.trod_int Tryd.underlying3 hy2
  simp at ex2 ey2
  subst ex2 ey2
  clear hA0
  refine (walk x0 y0 x1 y1 x2 y2 W (bounds_u32 wx0) (bounds_i64 wy0) (bounds_u32 wx1) (bounds_i64 wy1) (bounds_u32 wx2) (bounds_i64 wy2) (tab_of_laid hL)).mono fun e W' ⟨he, bel⟩ => ?_
  subst he
  exact ⟨_, rfl, _, _, _, [], _, [], hW', trodAll_mk1 (shut_bool Tryd.underlying4 _), (trodAll_cons_mk (Joins.shut_agg2 (y0 := (.lit (.int .u32 x0), [])) (y1 := (.lit (.int .i64 y0), [])) Tryd.underlying24 (by kernel_rfl) (by kernel_rfl) ⟨1, by simp [DataW.trod, Tryd.underlying22, wx0]⟩ ⟨1, by simp [DataW.trod, Tryd.underlying3, wy0]⟩) (trodAll_cons_mk (Joins.shut_agg2 (y0 := (.lit (.int .u32 x1), [])) (y1 := (.lit (.int .i64 y1), [])) Tryd.underlying24 (by kernel_rfl) (by kernel_rfl) ⟨1, by simp [DataW.trod, Tryd.underlying22, wx1]⟩ ⟨1, by simp [DataW.trod, Tryd.underlying3, wy1]⟩) (trodAll_cons_mk (Joins.shut_agg2 (y0 := (.lit (.int .u32 x2), [])) (y1 := (.lit (.int .i64 y2), [])) Tryd.underlying24 (by kernel_rfl) (by kernel_rfl) ⟨1, by simp [DataW.trod, Tryd.underlying22, wx2]⟩ ⟨1, by simp [DataW.trod, Tryd.underlying3, wy2]⟩) trodAll_mk0))), rfl, bel.frame _, fun h => by cases h⟩

noncomputable def laidWorld (os : Os) : World :=
  { World.holding Tryd.prog os ⟨#[], #[], []⟩ with heap := (World.holding Tryd.prog os ⟨#[], #[], []⟩).heap.modify 0 fun
      | .cells _ t frozen => .cells tabCells t frozen
      | o => o }
theorem laid_met (os : Os) : laidMet Tryd.prog Rows.prefixOrderRow.laid ((laidWorld os).forCall (fun _ _ => 0) ⟨#[], #[.agg #[.int .u32 0, .int .i64 0], .agg #[.int .u32 0, .int .i64 0], .agg #[.int .u32 0, .int .i64 0]], []⟩).memory :=
  laidMet_of_run' 8 (by kernel_rfl) (by kernel_rfl)
theorem reads (os : Os) {H : Type} (enc : TypeId × Value → H) : ∃ places, DataW.whole enc Tryd.prog ((laidWorld os).forCall (fun _ _ => 0) ⟨#[], #[.agg #[.int .u32 0, .int .i64 0], .agg #[.int .u32 0, .int .i64 0], .agg #[.int .u32 0, .int .i64 0]], []⟩).memory Tryd.f5.params.toList Rows.prefixOrderSpec.vars false (#[.agg #[.int .u32 0, .int .i64 0], .agg #[.int .u32 0, .int .i64 0], .agg #[.int .u32 0, .int .i64 0]] : Array Value).toList 8 = some ([.agg [.lit (.int .u32 0), .lit (.int .i64 0)], .agg [.lit (.int .u32 0), .lit (.int .i64 0)], .agg [.lit (.int .u32 0), .lit (.int .i64 0)]], [], places) :=
  ⟨[], by kernel_rfl⟩

set_option maxRecDepth 100000 in
theorem lifted (os : Os) (started : os.Started) (H : Type) (enc : TypeId × Value → H) (F : Stop.Interp) :
    ReturnsInHanded {} Tryd.checked os 5 .any ((OpenSpec.ofChange Rows.prefixOrderSpec).preRow enc Tryd.prog Tryd.f5 Rows.prefixOrderRow.domain false Rows.prefixOrderRow.laid) (((OpenSpec.ofChange Rows.prefixOrderSpec).at F).post enc Tryd.prog Tryd.f5 false true false false) := by
  obtain ⟨places, hx⟩ := reads os enc
  refine returnsInHanded_of_row (C := Tryd.checked) (s := OpenSpec.ofChange Rows.prefixOrderSpec) own started (by kernel_rfl) Tryd.func5
    (witness_row_at (enc := enc) (C := Tryd.checked) false (laidWorld os) #[.agg #[.int .u32 0, .int .i64 0], .agg #[.int .u32 0, .int .i64 0], .agg #[.int .u32 0, .int .i64 0]] rfl (by kernel_rfl) (by kernel_rfl) (by kernel_rfl)
      (OpenSpec.preRow_of_cond 8 hx (by kernel_rfl) (fun k hk => by cases hk) (by kernel_rfl) (laid_met os))) ?_
  intro W base args ds gs before hval hW _ _ _ hL _ _
  exact contract H enc W base args ds gs before hval hW hL

theorem said : Rows.PrefixOrderSaid :=
  OpenClaim.holds_of_cond 5 Tryd.f5 rfl rfl rfl rfl rfl rfl rfl ⟨rfl, rfl, rfl, rfl, rfl⟩ rfl rfl rfl rfl rfl (by kernel_rfl) Tryd.func5 (by kernel_rfl)
    (of_decide_eq_true (by kernel_rfl)) (by unfold Func.isWrapper; first | (rw [if_pos (by decide +kernel)]; kernel_rfl) | (rw [if_neg (by decide +kernel)]; exact ⟨rfl, rfl⟩))
    (fun os started H enc _ F => by rw [OpenClaim.pre_eq_preRow]; exact lifted os started H enc F)

/-- No parameter wants a stand-in; the program's own looks are off: what the card asks. -/
theorem plain (f : FuncId) (fn : Func) (hf : Tryd.pinned.checked.prog.funcNamed "speculum/speculumlaw02.PrefixOrder" = some f) (hfn : Tryd.pinned.checked.prog.funcs[f]? = some fn) :
    false = Tryd.pinned.checked.prog.looks [] ∧ ∀ (j : Nat) t, fn.params[j]? = some t → Tryd.pinned.checked.prog.wantsStandIn t = false := by
  obtain rfl : f = 5 := Option.some.inj ((show Tryd.prog.funcNamed "speculum/speculumlaw02.PrefixOrder" = some 5 by kernel_rfl).symm.trans hf) |>.symm
  obtain rfl : fn = Tryd.f5 := (Option.some.inj (Tryd.func5.symm.trans hfn)).symm
  refine ⟨by kernel_rfl, fun j t ht => ?_⟩
  rw [Tryd.params5] at ht
  have hm : t ∈ [24, 24, 24] := by simpa using Array.mem_of_getElem? ht
  have hall : ([24, 24, 24].all fun u => !Tryd.prog.wantsStandIn u) = true := by kernel_rfl
  exact (show Tryd.prog.wantsStandIn t = false by simpa using List.all_eq_true.1 hall t hm)

/-- ████ THE CARD ████ -/
theorem card : Rows.PrefixOrderCardSaid :=
  Claim7.holds_tied_plain_at .later [] _ _ _ _ said (fun _ h => by cases h) (by kernel_rfl) (fun _ h => by cases h) prefixOrder_row_tie rfl ⟨rfl, rfl⟩ (by kernel_rfl) rfl plain (by kernel_rfl)
end Go.Proofs.YtfdeafjkiagjfaaDoor.PrefixOrder

/-
  P2.1: masks, bits, right prefixes.
-/
import Derived.Test.YtfdeafjkiagjfaaDoorFrame
import Derived.Test.YtfdeafjkiagjfaaDoorRefRight
import Derived.Deep.RegionHeld3
import Derived.Lib.SmallJoins
namespace Go.Proofs.YtfdeafjkiagjfaaDoor.PrefixBits
open Go.ChangeShapes Go.WideShapes Go.ChangeAt Go.RowKit
open Go.ChangeMaps (open_string shut_string)
set_option linter.unusedVariables false

/-! THE WALK. -/
theorem okP_norm (a : Nat) (n : Int) : okP ((hi a (cl n) : Nat) : Int) ((cl n : Nat) : Int) = true := by
  have h := cl_le n
  rw [okP_in h]
  have h2 := (hi_eq_iff (hi a (cl n)) (cl n)).1 (hi_hi a (cl n))
  rw [h2]; rfl

set_option maxHeartbeats 6400000 in
theorem walk (n0 : Int) (n1 : Int) (a2 n2 : Int) (w : World) (hn0 : 0 ≤ n0 ∧ n0 ≤ 4294967295) (hn1 : -9223372036854775808 ≤ n1 ∧ n1 ≤ 9223372036854775807) (ha2 : 0 ≤ a2 ∧ a2 ≤ 4294967295) (hn2 : -9223372036854775808 ≤ n2 ∧ n2 ≤ 9223372036854775807) (ht : Tab w) :
    Calls Tryd.prog 3 #[.int .u32 n0, .int .i64 n1, .agg #[.int .u32 a2, .int .i64 n2]] w fun e w' => e = .returned (.bool true) ∧ Below w.heap.size w w' := by
  obtain ⟨a, rfl⟩ := Int.eq_ofNat_of_zero_le hn0.1
  obtain ⟨p, rfl⟩ := Int.eq_ofNat_of_zero_le ha2.1
  have ha : a < 4294967296 := by omega
  have hp : p < 4294967296 := by omega
  have HS := Lib.hid (fun w' hb => box_cells w (.int .u32 (p : Int)) (.int .i64 n2) (w' := w') hb)
  have hbc : Below (w.alloc (.cells #[.int .u32 (p : Int), .int .i64 n2] 24)).heap.size (w.alloc (.cells #[.int .u32 (p : Int), .int .i64 n2] 24)) (w.alloc (.cells #[.int .u32 (p : Int), .int .i64 n2] 24)).drew := (Below.refl _ _).drew
  have HT := Lib.hid (fun (w' : World) (hb : Below (w.alloc (.cells #[.int .u32 (p : Int), .int .i64 n2] 24)).heap.size (w.alloc (.cells #[.int .u32 (p : Int), .int .i64 n2] 24)) w') => ht.below (below_box hb) ht.lt)
  have Q9 := fun W => Lib.hid (Mask_any n1 W hn1.1 hn1.2)
  have Q10 := fun W => Lib.hid (RefMask_any n1 W hn1.1 hn1.2)
  have Q11 := fun W => Lib.hid (Bit_any a n1 W ha hn1.1 hn1.2)
  have Q12 := fun W => Lib.hid (RefBit_any a n1 W ha hn1.1 hn1.2)
  have Q13 := fun W => Lib.hid (Norm_any a n1 W ha hn1.1 hn1.2)
  have Q14 := fun W => Lib.hid (RefNorm_any a n1 W ha)
  have Q15 := fun W => Lib.hid (Right_any p n2 W hp hn2.1 hn2.2)
  have Q16 := fun W => Lib.hid (RefRight_any p n2 W hp)
  have hcl := cl_le n1
  have Q17 := fun W => Lib.hid (Right_any (hi a (cl n1)) ((cl n1 : Nat) : Int) W (Nat.lt_of_le_of_lt (hi_le _ _) ha) (by omega) (by omega))
  rw [okP_norm] at Q17
  obtain ⟨M, hM⟩ : ∃ M, M = maskN (cl n1) := ⟨_, rfl⟩
  obtain ⟨H, hH⟩ : ∃ H, H = hi a (cl n1) := ⟨_, rfl⟩
  obtain ⟨B, hB⟩ : ∃ B, B = bitI a n1 := ⟨_, rfl⟩
  obtain ⟨C, hC⟩ : ∃ C, C = cl n1 := ⟨_, rfl⟩
  obtain ⟨R, hR⟩ : ∃ R, R = okP (p : Int) n2 := ⟨_, rfl⟩
  rw [← hM] at Q9 Q10
  rw [← hB] at Q11 Q12
  rw [← hH, ← hC] at Q13 Q14 Q17
  rw [← hR] at Q15 Q16
  clear hM hH hB hC hR ht hcl
  go_enter Tryd.func3, Tryd.ntmps3
  go_wp2_with fail
  go_region_held3 (fun w' => w'.cell? ⟨w.heap.size, 0, none⟩ = some (.int .u32 (p : Int)) ∧ w'.cell? ⟨w.heap.size, 1, none⟩ = some (.int .i64 n2)) (exact HS.out _ hbc) ((first
    | (go_at_call 9; refine (Q9 _).out.mono ?_; rintro e wx ⟨rfl, rfl⟩)
    | (go_at_call 10; refine (Q10 _).out.mono ?_; rintro e wx ⟨rfl, rfl⟩)
    | (go_at_call 11; refine (Q11 _).out.mono ?_; rintro e wx ⟨rfl, rfl⟩)
    | (go_at_call 12; refine (Q12 _).out.mono ?_; rintro e wx ⟨rfl, rfl⟩)
    | (go_at_call 13; refine (Q13 _).out.mono ?_; rintro e wx ⟨rfl, hg⟩; replace hbc := hbc.trans (hg.mono hbc.size); clear hg)
    | (go_at_call 14; refine (Q14 _).out.mono ?_; rintro e wx ⟨rfl, hg⟩; replace hbc := hbc.trans (hg.mono hbc.size); clear hg)
    | (go_at_call_of 15 n2; refine (Q15 _).out.mono ?_; rintro e wx ⟨rfl, hg⟩; replace hbc := hbc.trans (hg.mono hbc.size); clear hg)
    | (go_at_call_of 15 C; refine (Q17 _).out.mono ?_; rintro e wx ⟨rfl, hg⟩; replace hbc := hbc.trans (hg.mono hbc.size); clear hg)
    | (go_at_call 16; refine (Q16 _).out.mono ?_; rintro e wx ⟨rfl, hg⟩; replace hbc := hbc.trans (hg.mono hbc.size); clear hg)
    | (go_at_call 17; refine (awake_any _ (HT.out _ hbc)).mono ?_; rintro e wx ⟨rfl, hg⟩; replace hbc := hbc.trans (hg.mono hbc.size); clear hg)))
  go_wp2_with fail
  go_ret
  exact ⟨rfl, below_box hbc⟩

theorem contract (H : Type) (enc : TypeId × Value → H) (W : World) (base : Nat) (args : Array Value) (ds gs : List (DataW H)) (before : List MemPlace)
    (hval : ∀ (j : Nat) t v, Tryd.f3.params[j]? = some t → args[j]? = some v → Value.okWide Tryd.prog W .any base t v)
    (hW : DataW.Whole enc Tryd.prog Tryd.f3.params.toList Rows.prefixBitsSpec.vars false W args.toList ds gs before)
    (hL : laidMetH Tryd.prog Rows.prefixBitsRow.laid W) :
    Calls Tryd.prog 3 args W fun e W' => ∃ v, e = .returned v ∧ Rows.prefixBitsSpec.post enc Tryd.prog Tryd.f3 false true false false W args v W' := by
  have hW' := hW
  obtain ⟨p, q, hA0, hV, rfl, hfz, hnd⟩ := hW
  have hA : DataW.TrodAll enc Tryd.prog W 0 (fun _ => true) true Tryd.f3.params.toList args.toList ds p := hA0
  rw [Tryd.params3] at hA hval
  obtain ⟨v0, vs0, d0, ds0, p0, q0, hargs, rfl, rfl, h0, r0⟩ := trodAll_cons hA
  obtain ⟨v1, vs1, d1, ds1, p1, q1, rfl, rfl, rfl, h1, r1⟩ := trodAll_cons r0
  obtain ⟨v2, vs2, d2, ds2, p2, q2, rfl, rfl, rfl, h2, r2⟩ := trodAll_cons r1
  obtain ⟨rfl, rfl, rfl⟩ := trodAll_nil r2
  obtain rfl : args = #[v0, v1, v2] := by cases args; simp_all
  obtain ⟨rfl, rfl⟩ := trodVars_none hV
  obtain ⟨x0, rfl, rfl, rfl, w0⟩ := open_int Tryd.underlying22 (hval 0 22 v0 rfl rfl) h0
  obtain ⟨x1, rfl, rfl, rfl, w1⟩ := open_int Tryd.underlying3 (hval 1 3 v1 rfl rfl) h1
  obtain ⟨cx2, cy2, yx2, yy2, m2, rfl, rfl, rfl, hx2, hy2⟩ := Joins.open_agg2 Tryd.underlying24 (by kernel_rfl) (by kernel_rfl) (hval 2 24 v2 rfl rfl) h2
  obtain ⟨x2, ex2, rfl, wx2⟩ := DataW.trod_int Tryd.underlying22 hx2
  obtain ⟨y2, ey2, rfl, wy2⟩ := DataW.trod_int Tryd.underlying3 hy2
  simp at ex2 ey2
  subst ex2 ey2
  clear hA0
  refine (walk x0 x1 x2 y2 W (bounds_u32 w0) (bounds_i64 w1) (bounds_u32 wx2) (bounds_i64 wy2) (tab_of_laid hL)).mono fun e W' ⟨he, bel⟩ => ?_
  subst he
  exact ⟨_, rfl, _, _, _, [], _, [], hW', trodAll_mk1 (shut_bool Tryd.underlying4 _), (trodAll_cons_mk (shut_int Tryd.underlying22 w0) (trodAll_cons_mk (shut_int Tryd.underlying3 w1) (trodAll_cons_mk (Joins.shut_agg2 (y0 := (.lit (.int .u32 x2), [])) (y1 := (.lit (.int .i64 y2), [])) Tryd.underlying24 (by kernel_rfl) (by kernel_rfl) ⟨1, by simp [DataW.trod, Tryd.underlying22, wx2]⟩ ⟨1, by simp [DataW.trod, Tryd.underlying3, wy2]⟩) trodAll_mk0))), rfl, bel.frame _, fun h => by cases h⟩

noncomputable def laidWorld (os : Os) : World :=
  { World.holding Tryd.prog os ⟨#[], #[], []⟩ with heap := (World.holding Tryd.prog os ⟨#[], #[], []⟩).heap.modify 0 fun
      | .cells _ t frozen => .cells tabCells t frozen
      | o => o }
theorem laid_met (os : Os) : laidMet Tryd.prog Rows.prefixBitsRow.laid ((laidWorld os).forCall (fun _ _ => 0) ⟨#[], #[.int .u32 0, .int .i64 0, .agg #[.int .u32 0, .int .i64 0]], []⟩).memory :=
  laidMet_of_run' 8 (by kernel_rfl) (by kernel_rfl)
theorem reads (os : Os) {H : Type} (enc : TypeId × Value → H) : ∃ places, DataW.whole enc Tryd.prog ((laidWorld os).forCall (fun _ _ => 0) ⟨#[], #[.int .u32 0, .int .i64 0, .agg #[.int .u32 0, .int .i64 0]], []⟩).memory Tryd.f3.params.toList Rows.prefixBitsSpec.vars false (#[.int .u32 0, .int .i64 0, .agg #[.int .u32 0, .int .i64 0]] : Array Value).toList 8 = some ([.lit (.int .u32 0), .lit (.int .i64 0), .agg [.lit (.int .u32 0), .lit (.int .i64 0)]], [], places) :=
  ⟨[], by kernel_rfl⟩

set_option maxRecDepth 100000 in
theorem lifted (os : Os) (started : os.Started) (H : Type) (enc : TypeId × Value → H) (F : Stop.Interp) :
    ReturnsInHanded {} Tryd.checked os 3 .any ((OpenSpec.ofChange Rows.prefixBitsSpec).preRow enc Tryd.prog Tryd.f3 Rows.prefixBitsRow.domain false Rows.prefixBitsRow.laid) (((OpenSpec.ofChange Rows.prefixBitsSpec).at F).post enc Tryd.prog Tryd.f3 false true false false) := by
  obtain ⟨places, hx⟩ := reads os enc
  refine returnsInHanded_of_row (C := Tryd.checked) (s := OpenSpec.ofChange Rows.prefixBitsSpec) own started (by kernel_rfl) Tryd.func3
    (witness_row_at (enc := enc) (C := Tryd.checked) false (laidWorld os) #[.int .u32 0, .int .i64 0, .agg #[.int .u32 0, .int .i64 0]] rfl (by kernel_rfl) (by kernel_rfl) (by kernel_rfl)
      (OpenSpec.preRow_of_cond 8 hx (by kernel_rfl) (fun k hk => by cases hk) (by kernel_rfl) (laid_met os))) ?_
  intro W base args ds gs before hval hW _ _ _ hL _ _
  exact contract H enc W base args ds gs before hval hW hL

theorem said : Rows.PrefixBitsSaid :=
  OpenClaim.holds_of_cond 3 Tryd.f3 rfl rfl rfl rfl rfl rfl rfl ⟨rfl, rfl, rfl, rfl, rfl⟩ rfl rfl rfl rfl rfl (by kernel_rfl) Tryd.func3 (by kernel_rfl)
    (of_decide_eq_true (by kernel_rfl)) (by unfold Func.isWrapper; first | (rw [if_pos (by decide +kernel)]; kernel_rfl) | (rw [if_neg (by decide +kernel)]; exact ⟨rfl, rfl⟩))
    (fun os started H enc _ F => by rw [OpenClaim.pre_eq_preRow]; exact lifted os started H enc F)

/-- No parameter wants a stand-in; the program's own looks are off: what the card asks. -/
theorem plain (f : FuncId) (fn : Func) (hf : Tryd.pinned.checked.prog.funcNamed "speculum/speculumlaw02.PrefixBits" = some f) (hfn : Tryd.pinned.checked.prog.funcs[f]? = some fn) :
    false = Tryd.pinned.checked.prog.looks [] ∧ ∀ (j : Nat) t, fn.params[j]? = some t → Tryd.pinned.checked.prog.wantsStandIn t = false := by
  obtain rfl : f = 3 := Option.some.inj ((show Tryd.prog.funcNamed "speculum/speculumlaw02.PrefixBits" = some 3 by kernel_rfl).symm.trans hf) |>.symm
  obtain rfl : fn = Tryd.f3 := (Option.some.inj (Tryd.func3.symm.trans hfn)).symm
  refine ⟨by kernel_rfl, fun j t ht => ?_⟩
  rw [Tryd.params3] at ht
  have hm : t ∈ [22, 3, 24] := by simpa using Array.mem_of_getElem? ht
  have hall : ([22, 3, 24].all fun u => !Tryd.prog.wantsStandIn u) = true := by kernel_rfl
  exact (show Tryd.prog.wantsStandIn t = false by simpa using List.all_eq_true.1 hall t hm)

/-- ████ THE CARD ████ -/
theorem card : Rows.PrefixBitsCardSaid :=
  Claim7.holds_tied_plain_at .later [] _ _ _ _ said (fun _ h => by cases h) (by kernel_rfl) (fun _ h => by cases h) prefixBits_row_tie rfl ⟨rfl, rfl⟩ (by kernel_rfl) rfl plain (by kernel_rfl)
end Go.Proofs.YtfdeafjkiagjfaaDoor.PrefixBits

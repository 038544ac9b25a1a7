/-
  P2.3: which number, and which prefix, any text is.
-/
import Derived.Test.YtfdeafjkiagjfaaDoorFrame
import Derived.Test.YtfdeafjkiagjfaaDoorRefParse
import Derived.Lib.SmallJoins
namespace Go.Proofs.YtfdeafjkiagjfaaDoor.PrefixParses
open Go.ChangeShapes Go.WideShapes Go.ChangeAt Go.RowKit
open Go.ChangeMaps (open_string shut_string)
set_option linter.unusedVariables false

/-! THE WALK. -/
set_option maxHeartbeats 6400000 in
theorem walk (s0 : List UInt8) (w : World) (hs0 : s0.length ≤ maxLen) (ht : Tab w) :
    Calls Tryd.prog 7 #[.string ⟨s0.toArray⟩] w fun e w' => e = .returned (.bool true) ∧ Below w.heap.size w w' := by
  have HT := Lib.hid (fun (w' : World) (hb : Below w.heap.size w w') => ht.below hb ht.lt)
  have hbc := Below.refl w.heap.size w
  by_cases h2000 : s0.length ≤ 2000
  · have hlt : ¬ (2000 : Int) < (s0.length : Int) := by omega
    have Q1 := fun W ht => Lib.hid (ParseAddr_any s0 W hs0 ht)
    have Q2 := fun W => Lib.hid (RefPA_any s0 W hs0)
    have Q3 := fun W ht => Lib.hid (Parse_any s0 W hs0 ht)
    have Q4 := fun W => Lib.hid (RefParse_any s0 W hs0)
    obtain ⟨a, b, hab⟩ : ∃ (a : Nat) (b : Bool), retAddr (addrOf s0) = .tuple #[.int .u32 (a : Int), .bool b] := ⟨_, _, rfl⟩
    obtain ⟨p, n, g, hpn⟩ : ∃ (p n : Nat) (g : Bool), retParse (parseP s0) = .tuple #[.agg #[.int .u32 (p : Int), .int .i64 (n : Int)], .bool g] := by
      cases parseP s0 with
      | none => exact ⟨0, 0, false, rfl⟩
      | some x => obtain ⟨x, y⟩ := x; exact ⟨x, y, true, rfl⟩
    rw [hab] at Q1 Q2
    rw [hpn] at Q3 Q4
    clear hab hpn h2000 ht
    go_enter Tryd.func7, Tryd.ntmps7
    go_wp2_with fail
    refine (Q1 _ (HT.out _ hbc)).out.mono ?_
    rintro e wx ⟨rfl, hg⟩
    replace hbc := hbc.trans (hg.mono hbc.size)
    clear hg
    go_wp2_with fail
    refine (Q2 _).out.mono ?_
    rintro e w2 ⟨rfl, rfl⟩
    go_wp2_with fail
    refine (Q3 _ (HT.out _ hbc)).out.mono ?_
    rintro e wx ⟨rfl, hg⟩
    replace hbc := hbc.trans (hg.mono hbc.size)
    clear hg
    have h3 := Blk.new wx 24 [.int .u32 (p : Int), .int .i64 (n : Int)]
    have hl3 : wx.heap.size < (wx.alloc (.cells #[.int .u32 (p : Int), .int .i64 (n : Int)] 24)).heap.size := by simp
    have hbY := Below.refl (wx.alloc (.cells #[.int .u32 (p : Int), .int .i64 (n : Int)] 24)).heap.size (wx.alloc (.cells #[.int .u32 (p : Int), .int .i64 (n : Int)] 24))
    replace hbc := hbc.alloc hbc.size (.cells #[.int .u32 (p : Int), .int .i64 (n : Int)] 24)
    have H3 := Lib.hid h3; clear h3
    go_wp2_with fail
    refine (Q4 _).out.mono ?_
    rintro e w4 ⟨rfl, hg⟩
    replace hbc := hbc.trans (hg.mono hbc.size)
    replace hbY := hbY.trans (hg.mono hbY.size)
    clear hg
    have h4 := Blk.new w4 24 [.int .u32 (p : Int), .int .i64 (n : Int)]
    have h3 := (H3.out.below hbY hl3).alloc (.cells #[.int .u32 (p : Int), .int .i64 (n : Int)] 24)
    have c3 := cells2 h3
    have c4 := cells2 h4
    clear h3 h4
    replace hbc := hbc.alloc hbc.size (.cells #[.int .u32 (p : Int), .int .i64 (n : Int)] 24)
    go_wp2_with fail
    refine (awake_any _ (HT.out _ hbc)).mono ?_
    rintro e w5 ⟨rfl, hg⟩
    replace hbc := hbc.trans (hg.mono hbc.size)
    go_wp2_with fail
    go_ret
    exact ⟨rfl, hbc⟩
  · have hlt : (2000 : Int) < (s0.length : Int) := by omega
    clear h2000 ht
    go_enter Tryd.func7, Tryd.ntmps7
    go_wp2_with fail
    refine (awake_any _ (HT.out _ hbc)).mono ?_
    rintro e w5 ⟨rfl, hg⟩
    go_wp2_with fail
    go_ret
    exact ⟨rfl, hg⟩

theorem contract (H : Type) (enc : TypeId × Value → H) (W : World) (base : Nat) (args : Array Value) (ds gs : List (DataW H)) (before : List MemPlace)
    (hval : ∀ (j : Nat) t v, Tryd.f7.params[j]? = some t → args[j]? = some v → Value.okWide Tryd.prog W .any base t v)
    (hW : DataW.Whole enc Tryd.prog Tryd.f7.params.toList Rows.prefixParsesSpec.vars false W args.toList ds gs before)
    (hL : laidMetH Tryd.prog Rows.prefixParsesRow.laid W) :
    Calls Tryd.prog 7 args W fun e W' => ∃ v, e = .returned v ∧ Rows.prefixParsesSpec.post enc Tryd.prog Tryd.f7 false true false false W args v W' := by
  have hW' := hW
  obtain ⟨p, q, hA0, hV, rfl, hfz, hnd⟩ := hW
  have hA : DataW.TrodAll enc Tryd.prog W 0 (fun _ => true) true Tryd.f7.params.toList args.toList ds p := hA0
  rw [Tryd.params7] at hA hval
  obtain ⟨v0, vs0, d0, ds0, p0, q0, hargs, rfl, rfl, h0, r0⟩ := trodAll_cons hA
  obtain ⟨rfl, rfl, rfl⟩ := trodAll_nil r0
  obtain rfl : args = #[v0] := by cases args; simp_all
  obtain ⟨rfl, rfl⟩ := trodVars_none hV
  obtain ⟨b0, rfl, rfl, rfl, hb0⟩ := open_string Tryd.underlying9 (hval 0 9 v0 rfl rfl) h0
  obtain ⟨s0, rfl⟩ : ∃ s : List UInt8, b0 = ⟨s.toArray⟩ := ⟨b0.data.toList, by simp⟩
  have hs0 : s0.length ≤ maxLen := by simpa [ByteArray.size] using hb0
  clear hA0
  refine (walk s0 W hs0 (tab_of_laid hL)).mono fun e W' ⟨he, bel⟩ => ?_
  subst he
  exact ⟨_, rfl, _, _, _, [], _, [], hW', trodAll_mk1 (shut_bool Tryd.underlying4 _), (trodAll_cons_mk (shut_string Tryd.underlying9 hb0) trodAll_mk0), rfl, bel.frame _, fun h => by cases h⟩

noncomputable def laidWorld (os : Os) : World :=
  { World.holding Tryd.prog os ⟨#[], #[], []⟩ with heap := (World.holding Tryd.prog os ⟨#[], #[], []⟩).heap.modify 0 fun
      | .cells _ t frozen => .cells tabCells t frozen
      | o => o }
theorem laid_met (os : Os) : laidMet Tryd.prog Rows.prefixParsesRow.laid ((laidWorld os).forCall (fun _ _ => 0) ⟨#[], #[.string ByteArray.empty], []⟩).memory :=
  laidMet_of_run' 8 (by kernel_rfl) (by kernel_rfl)
theorem reads (os : Os) {H : Type} (enc : TypeId × Value → H) : ∃ places, DataW.whole enc Tryd.prog ((laidWorld os).forCall (fun _ _ => 0) ⟨#[], #[.string ByteArray.empty], []⟩).memory Tryd.f7.params.toList Rows.prefixParsesSpec.vars false (#[.string ByteArray.empty] : Array Value).toList 8 = some ([.lit (.string [])], [], places) :=
  ⟨[], by kernel_rfl⟩

set_option maxRecDepth 100000 in
theorem lifted (os : Os) (started : os.Started) (H : Type) (enc : TypeId × Value → H) (F : Stop.Interp) :
    ReturnsInHanded {} Tryd.checked os 7 .any ((OpenSpec.ofChange Rows.prefixParsesSpec).preRow enc Tryd.prog Tryd.f7 Rows.prefixParsesRow.domain false Rows.prefixParsesRow.laid) (((OpenSpec.ofChange Rows.prefixParsesSpec).at F).post enc Tryd.prog Tryd.f7 false true false false) := by
  obtain ⟨places, hx⟩ := reads os enc
  refine returnsInHanded_of_row (C := Tryd.checked) (s := OpenSpec.ofChange Rows.prefixParsesSpec) own started (by kernel_rfl) Tryd.func7
    (witness_row_at (enc := enc) (C := Tryd.checked) false (laidWorld os) #[.string ByteArray.empty] rfl (by kernel_rfl) (by kernel_rfl) (by kernel_rfl)
      (OpenSpec.preRow_of_cond 8 hx (by kernel_rfl) (fun k hk => by cases hk) (by kernel_rfl) (laid_met os))) ?_
  intro W base args ds gs before hval hW _ _ _ hL _ _
  exact contract H enc W base args ds gs before hval hW hL

theorem said : Rows.PrefixParsesSaid :=
  OpenClaim.holds_of_cond 7 Tryd.f7 rfl rfl rfl rfl rfl rfl rfl ⟨rfl, rfl, rfl, rfl, rfl⟩ rfl rfl rfl rfl rfl (by kernel_rfl) Tryd.func7 (by kernel_rfl)
    (of_decide_eq_true (by kernel_rfl)) (by unfold Func.isWrapper; first | (rw [if_pos (by decide +kernel)]; kernel_rfl) | (rw [if_neg (by decide +kernel)]; exact ⟨rfl, rfl⟩))
    (fun os started H enc _ F => by rw [OpenClaim.pre_eq_preRow]; exact lifted os started H enc F)

/-- No parameter wants a stand-in; the program's own looks are off: what the card asks. -/
theorem plain (f : FuncId) (fn : Func) (hf : Tryd.pinned.checked.prog.funcNamed "speculum/speculumlaw02.PrefixParses" = some f) (hfn : Tryd.pinned.checked.prog.funcs[f]? = some fn) :
    false = Tryd.pinned.checked.prog.looks [] ∧ ∀ (j : Nat) t, fn.params[j]? = some t → Tryd.pinned.checked.prog.wantsStandIn t = false := by
  obtain rfl : f = 7 := Option.some.inj ((show Tryd.prog.funcNamed "speculum/speculumlaw02.PrefixParses" = some 7 by kernel_rfl).symm.trans hf) |>.symm
  obtain rfl : fn = Tryd.f7 := (Option.some.inj (Tryd.func7.symm.trans hfn)).symm
  refine ⟨by kernel_rfl, fun j t ht => ?_⟩
  rw [Tryd.params7] at ht
  have hm : t ∈ [9] := by simpa using Array.mem_of_getElem? ht
  have hall : ([9].all fun u => !Tryd.prog.wantsStandIn u) = true := by kernel_rfl
  exact (show Tryd.prog.wantsStandIn t = false by simpa using List.all_eq_true.1 hall t hm)

/-- ████ THE CARD ████ -/
theorem card : Rows.PrefixParsesCardSaid :=
  Claim7.holds_tied_plain_at .later [] _ _ _ _ said (fun _ h => by cases h) (by kernel_rfl) (fun _ h => by cases h) prefixParses_row_tie rfl ⟨rfl, rfl⟩ (by kernel_rfl) rfl plain (by kernel_rfl)
end Go.Proofs.YtfdeafjkiagjfaaDoor.PrefixParses

/-
  OctetBack: what was put is read, whatever stands behind it.
-/
import Derived.Test.YtjfbfboecpbgbaaDoorBack
namespace Go.Proofs.YtjfbfboecpbgbaaDoor.OctetBack
open Go.ChangeShapes Go.WideShapes Go.ChangeAt Go.RowKit
open Go.ChangeMaps (open_string shut_string)
set_option linter.unusedVariables false

/-! THE WALK. -/
set_option maxRecDepth 100000 in
set_option maxHeartbeats 20000000 in
theorem walk (n0 : Int) (n1 : Int) (A2 : Option Addr) (c2 : Nat) (l2 : List UInt8) (w : World) (hn0 : 0 ≤ n0 ∧ n0 ≤ 65535) (hn1 : 0 ≤ n1 ∧ n1 ≤ 4294967295) (hc2 : l2.length ≤ c2) (hm2 : c2 ≤ maxLen) (hb2 : Bytes w A2 l2) (ht : Tab w) :
    Calls Tryd.prog 6 #[.int .u16 n0, .int .u32 n1, .slice A2 l2.length c2] w fun e w' => e = .returned (.bool true) ∧ Below w.heap.size w w' := by
  have HT := Lib.hid ht; have HB := Lib.hid hb2; clear ht hb2
  by_cases hl : 2000 < l2.length
  · go_enter Tryd.func6, Tryd.ntmps6
    go_wp2_with fail
    refine (awake_any _ HT.out).mono ?_
    rintro e w1 ⟨rfl, hb1⟩
    have H1 := Lib.hid hb1; clear hb1
    go_wp2_with fail
    go_ret
    exact ⟨rfl, H1.out⟩
  · have hl2 : l2.length ≤ 2000 := by omega
    obtain ⟨b0, b1, hE⟩ := be16_two n0
    obtain ⟨b2, b3, b4, b5, hF⟩ := be32_four n1
    have q16 := Put16_any none 0 0 [] rfl n0 w (by simp) (Bytes.nil _ _) (by omega) (by omega)
    rw [hE] at q16
    have Q16 := Lib.hid q16
    have Q32 := Lib.hid (fun A d w1 h => Put32_any A 2 d [b0, b1] rfl n1 w1 (by simp) h hn1.1 (by omega))
    rw [hF] at Q32
    have U16 := Lib.hid (fun B g r w h => U16_lit hn0.1 hn0.2 hE B g r w h)
    have U32 := Lib.hid (fun B g r w h => U32_lit hn1.1 hn1.2 hF B g r w h)
    clear q16 hE hF
    go_enter Tryd.func6, Tryd.ntmps6
    go_wp2_with fail
    refine Q16.out.mono ?_
    rintro e w1 ⟨P1, d1, rfl, _, _, ho1, hb1⟩
    have O1 := Lib.hid ho1.bytes; have B1 := Lib.hid hb1; clear ho1 hb1
    go_wp2_with fail
    refine (Q32.out P1 d1 w1 O1.out).mono ?_
    rintro e w2 ⟨P2, d2, rfl, _, _, ho2, hb2⟩
    have O2 := Lib.hid ho2.bytes; have B2 := Lib.hid (B1.out.trans (hb2.mono B1.out.size)); clear ho2 hb2
    have H0 := Lib.hid (own_empty w2 5)
    have O3 := Lib.hid (O2.out.alloc (.cells #[] 5))
    go_wp2_with (at_builtin; refine wpList_append_bytes isBytes rfl (.tmp 18) (.tmp 19) rfl w2 _ [] rfl H0.out _ [b0, b1, b2, b3, b4, b5] _ d2 rfl (by rfl) O3.out (by simp) ((Below.refl _ _).alloc (Nat.le_refl _) _) ?_)
    intro v1 w3 hown3 _ hb3
    have O4 := Lib.hid hown3; have B3 := Lib.hid hb3; clear hown3 hb3 H0 O3
    have O5 := Lib.hid ((HB.out.below B2.out).below B3.out)
    go_wp2_with (at_builtin; refine wpList_append_bytes isBytes rfl (.tmp 20) (.tmp 21) rfl w2 v1 _ rfl O4.out _ l2 _ c2 rfl rfl O5.out (by simp; omega) B3.out ?_)
    intro v2 w4 hown4 _ hb4
    obtain ⟨P4, d4, rfl, f4, g4, hA4⟩ := hown4.bytes'
    have B4 := Lib.hid (B2.out.trans (hb4.mono B2.out.size))
    have N4 := Lib.hid (fun n hn => New_any P4 n d4 _ hn w4 hA4 f4 g4)
    clear hown4 hb4 hA4 f4 g4 O4 O5 B3
    go_wp2_with fail
    refine (N4.out _ (by simp)).mono ?_
    rintro e w5 ⟨rfl, hr5, hb5⟩
    have hr5d : Rd w5.drew w4.heap.size w4.heap.size (b0 :: b1 :: b2 :: b3 :: b4 :: b5 :: l2) false := hr5
    have R5 := Lib.hid hr5d; have B5 := Lib.hid (B4.out.trans (hb5.mono B4.out.size)); clear hr5 hr5d hb5
    have hg5 : w5.grownBy w5.drew (some w4.heap.size) := grown_drewN (grown_refl _ _) 1
    have hS : ∀ w', w5.grownBy w' (some w4.heap.size) → (convert 22 9 (.slice A2 l2.length c2)).run Tryd.prog w' = .ok (.string ⟨l2.toArray⟩) w' := fun w' hx =>
      conv_bytes isBytes Tryd.underlying9 ((((At.below HB.out B5.out (Nat.le_refl _)).grown hx B4.out.size).bytes (Nat.le_trans B5.out.size hx.size))) c2
    have HS := Lib.hid hS; clear hS
    go_wp2_with fail
    have e0 : IntKind.i64.wrap n0 = n0 := IntWalk.i64_in _ (by omega)
    have s5 := HS.out _ hg5
    go_region_with ((first
      | (go_at_call 19; refine (U16.out _ _ _ _ R5.out).mono ?_; rintro e w6 ⟨rfl, hr6, hg6'⟩; have hg6 := grown_trans hg5 hg6'; have s6 := HS.out _ hg6; have R6 := Lib.hid hr6; clear hr6 hg6' hg5)
      | (go_at_call 20; refine (U32.out _ _ _ _ R6.out).mono ?_; rintro e w7 ⟨rfl, hr7, hg7'⟩; have hg7 := grown_trans hg6 hg7'; have s7 := HS.out _ hg7; have R7 := Lib.hid hr7; clear hr7 hg7' hg6)
      | (go_at_call 23; refine (Left_any _ _ _ _ _ R7.out).mono ?_; rintro e w8 ⟨rfl, rfl⟩)
      | (go_at_call 21; refine (Take_back _ _ _ _ R7.out (Nat.le_trans hl2 (by decide))).mono ?_; rintro e w8 ⟨P8, d8, rfl, _, _, ho8, hr8, hg8'⟩; have hg8 := grown_trans hg7 hg8'; have s8 := HS.out _ hg8; have R8 := Lib.hid hr8; have k8 := conv_bytes (d := 9) isBytes Tryd.underlying9 ho8.bytes d8; clear hr8 hg8' hg7 ho8)
      | (go_at_call 25; refine (Err_any _ _ _ _ _ R8.out).mono ?_; rintro e w9 ⟨rfl, rfl⟩)
      | (go_at_call 10; refine (awake_any _ ((HT.out.below B5.out HT.out.lt).grown hg8 (Nat.ne_of_lt (Nat.lt_of_lt_of_le HT.out.lt B4.out.size)))).mono ?_; rintro e w9 ⟨rfl, hb9⟩; have hg9 := grown_trans hg8 (grown_of_below hb9 _); clear hb9 hg8)))
    all_goals go_wp2_with fail
    all_goals go_ret
    all_goals exact ⟨rfl, B5.out.trans (below_of_grown hg9 B5.out.size B4.out.size)⟩

theorem contract (H : Type) (enc : TypeId × Value → H) (W : World) (base : Nat) (args : Array Value) (ds gs : List (DataW H)) (before : List MemPlace)
    (hval : ∀ (j : Nat) t v, Tryd.f6.params[j]? = some t → args[j]? = some v → Value.okWide Tryd.prog W .any base t v)
    (hW : DataW.Whole enc Tryd.prog Tryd.f6.params.toList Rows.octetBackSpec.vars false W args.toList ds gs before)
    (hL : laidMetH Tryd.prog Rows.octetBackRow.laid W) :
    Calls Tryd.prog 6 args W fun e W' => ∃ v, e = .returned v ∧ Rows.octetBackSpec.post enc Tryd.prog Tryd.f6 false true false false W args v W' := by
  have hW' := hW
  obtain ⟨p, q, hA0, hV, rfl, hfz, hnd⟩ := hW
  have hA : DataW.TrodAll enc Tryd.prog W 0 (fun _ => true) true Tryd.f6.params.toList args.toList ds p := hA0
  rw [Tryd.params6] at hA hval
  obtain ⟨v0, vs0, d0, ds0, p0, q0, hargs, rfl, rfl, h0, r0⟩ := trodAll_cons hA
  obtain ⟨v1, vs1, d1, ds1, p1, q1, rfl, rfl, rfl, h1, r1⟩ := trodAll_cons r0
  obtain ⟨v2, vs2, d2, ds2, p2, q2, rfl, rfl, rfl, h2, r2⟩ := trodAll_cons r1
  obtain ⟨rfl, rfl, rfl⟩ := trodAll_nil r2
  obtain rfl : args = #[v0, v1, v2] := by cases args; simp_all
  obtain ⟨rfl, rfl⟩ := trodVars_none hV
  obtain ⟨x0, rfl, rfl, rfl, w0⟩ := open_int Tryd.underlying43 (hval 0 43 v0 rfl rfl) h0
  obtain ⟨x1, rfl, rfl, rfl, w1⟩ := open_int Tryd.underlying23 (hval 1 23 v1 rfl rfl) h1
  obtain ⟨a2, len2, cap2, rfl⟩ := okWide_slice Tryd.underlying22 (hval 2 22 v2 rfl rfl)
  have k2 := h2
  have lt2 : ∀ x ∈ p2, x.block < W.heap.size := by obtain ⟨m, hm⟩ := k2; exact DataW.trod_lt m _ _ _ hm
  obtain ⟨l2, hl2, w2, hcap2, hmax2⟩ : ∃ l : List UInt8, l.length = len2 ∧ Bytes W a2 l ∧ len2 ≤ cap2 ∧ cap2 ≤ maxLen := by
    obtain ⟨fuel, hf⟩ := h2
    rcases open_ints Tryd.underlying22 Tryd.underlying5 (by kernel_rfl) hf with ⟨hcs, _⟩ | ⟨x, l, c, zs, hcs, _, hl, hm, hz, _, hcell, hwz⟩
    · simp [Value.cells] at hcs
      obtain ⟨rfl, rfl, rfl⟩ := hcs
      exact ⟨[], rfl, Bytes.nil _ _, Nat.le_refl _, Nat.zero_le _⟩
    · simp [Value.cells] at hcs
      obtain ⟨rfl, rfl, rfl⟩ := hcs
      obtain ⟨l, h1, h2⟩ := bytes_in hl hz hcell hwz
      exact ⟨l, h1, h2, hl, hm⟩
  subst hl2
  clear hA0
  refine (walk x0 x1 a2 cap2 l2 W (bounds_u16 w0) (bounds_u32 w1) hcap2 hmax2 w2 (tab_of_laid hL)).mono fun e W' ⟨he, bel⟩ => ?_
  subst he
  exact ⟨_, rfl, _, _, _, [], _, [], hW', trodAll_mk1 (shut_bool Tryd.underlying4 _), (trodAll_cons_mk (shut_int Tryd.underlying43 w0) (trodAll_cons_mk (shut_int Tryd.underlying23 w1) (trodAll_cons_mk (Below.trod laidOut (by kernel_rfl) (of_decide_eq_true (by kernel_rfl)) k2 bel lt2) trodAll_mk0))), rfl, bel.frame _, fun h => by cases h⟩

noncomputable def laidWorld (os : Os) : World :=
  { World.holding Tryd.prog os ⟨#[], #[], []⟩ with heap := (World.holding Tryd.prog os ⟨#[], #[], []⟩).heap.modify 0 fun
      | .cells _ t frozen => .cells tabCells t frozen
      | o => o }
theorem laid_met (os : Os) : laidMet Tryd.prog Rows.octetBackRow.laid ((laidWorld os).forCall (fun _ _ => 0) ⟨#[], #[.int .u16 0, .int .u32 0, .slice none 0 0], []⟩).memory :=
  laidMet_of_run' 8 (by kernel_rfl) (by kernel_rfl)
theorem reads (os : Os) {H : Type} (enc : TypeId × Value → H) : ∃ places, DataW.whole enc Tryd.prog ((laidWorld os).forCall (fun _ _ => 0) ⟨#[], #[.int .u16 0, .int .u32 0, .slice none 0 0], []⟩).memory Tryd.f6.params.toList Rows.octetBackSpec.vars false (#[.int .u16 0, .int .u32 0, .slice none 0 0] : Array Value).toList 8 = some ([.lit (.int .u16 0), .lit (.int .u32 0), .nil], [], places) :=
  ⟨[], by kernel_rfl⟩

set_option maxRecDepth 100000 in
theorem lifted (os : Os) (started : os.Started) (H : Type) (enc : TypeId × Value → H) (F : Stop.Interp) :
    ReturnsInHanded {} Tryd.checked os 6 .any ((OpenSpec.ofChange Rows.octetBackSpec).preRow enc Tryd.prog Tryd.f6 Rows.octetBackRow.domain false Rows.octetBackRow.laid) (((OpenSpec.ofChange Rows.octetBackSpec).at F).post enc Tryd.prog Tryd.f6 false true false false) := by
  obtain ⟨places, hx⟩ := reads os enc
  refine returnsInHanded_of_row (C := Tryd.checked) (s := OpenSpec.ofChange Rows.octetBackSpec) own started (by kernel_rfl) Tryd.func6
    (witness_row_at (enc := enc) (C := Tryd.checked) false (laidWorld os) #[.int .u16 0, .int .u32 0, .slice none 0 0] rfl (by kernel_rfl) (by kernel_rfl) (by kernel_rfl)
      (OpenSpec.preRow_of_cond 8 hx (by kernel_rfl) (fun k hk => by cases hk) (by kernel_rfl) (laid_met os))) ?_
  intro W base args ds gs before hval hW _ _ _ hL _ _
  exact contract H enc W base args ds gs before hval hW hL

theorem said : Rows.OctetBackSaid :=
  OpenClaim.holds_of_cond 6 Tryd.f6 rfl rfl rfl rfl rfl rfl rfl ⟨rfl, rfl, rfl, rfl, rfl⟩ rfl rfl rfl rfl rfl (by kernel_rfl) Tryd.func6 (by kernel_rfl)
    (of_decide_eq_true (by kernel_rfl)) (by unfold Func.isWrapper; first | (rw [if_pos (by decide +kernel)]; kernel_rfl) | (rw [if_neg (by decide +kernel)]; exact ⟨rfl, rfl⟩))
    (fun os started H enc _ F => by rw [OpenClaim.pre_eq_preRow]; exact lifted os started H enc F)

/-- No parameter wants a stand-in; the program's own looks are off: what the card asks. -/
theorem plain (f : FuncId) (fn : Func) (hf : Tryd.pinned.checked.prog.funcNamed "speculum/speculumlaw01.OctetBack" = some f) (hfn : Tryd.pinned.checked.prog.funcs[f]? = some fn) :
    false = Tryd.pinned.checked.prog.looks [] ∧ ∀ (j : Nat) t, fn.params[j]? = some t → Tryd.pinned.checked.prog.wantsStandIn t = false := by
  obtain rfl : f = 6 := Option.some.inj ((show Tryd.prog.funcNamed "speculum/speculumlaw01.OctetBack" = some 6 by kernel_rfl).symm.trans hf) |>.symm
  obtain rfl : fn = Tryd.f6 := (Option.some.inj (Tryd.func6.symm.trans hfn)).symm
  refine ⟨by kernel_rfl, fun j t ht => ?_⟩
  rw [Tryd.params6] at ht
  have hm : t ∈ [43, 23, 22] := by simpa using Array.mem_of_getElem? ht
  have hall : ([43, 23, 22].all fun u => !Tryd.prog.wantsStandIn u) = true := by kernel_rfl
  exact (show Tryd.prog.wantsStandIn t = false by simpa using List.all_eq_true.1 hall t hm)

/-- ████ THE CARD ████ -/
theorem card : Rows.OctetBackCardSaid :=
  Claim7.holds_tied_plain_at .later [] _ _ _ _ said (fun _ h => by cases h) (by kernel_rfl) (fun _ h => by cases h) octetBack_row_tie rfl ⟨rfl, rfl⟩ (by kernel_rfl) rfl plain (by kernel_rfl)
end Go.Proofs.YtjfbfboecpbgbaaDoor.OctetBack

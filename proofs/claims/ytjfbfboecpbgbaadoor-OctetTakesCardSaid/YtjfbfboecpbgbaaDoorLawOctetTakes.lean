/-
  OctetTakes: any number of bytes is taken, if there are so many; else the reader is short, and stays so.
-/
import Derived.Test.YtjfbfboecpbgbaaDoorBack
namespace Go.Proofs.YtjfbfboecpbgbaaDoor.OctetTakes
open Go.ChangeShapes Go.WideShapes Go.ChangeAt Go.RowKit
open Go.ChangeMaps (open_string shut_string)
set_option linter.unusedVariables false

/-! THE WALK. -/
theorem Take_at (k B g : Nat) (l : List UInt8) (w : World) (h : Rd w B g l false) (hk : k ≤ l.length) (hl : l.length ≤ 1000000) :
    Calls Tryd.prog 21 #[.pointer (some ⟨g, 0, none⟩), .int .i64 (k : Int)] w fun e w' => ∃ A c, e = .returned (.slice A k c) ∧ Bytes w' A (l.take k) ∧ Rd w' B g (l.drop k) false ∧ w.grownBy w' (some g) := by
  have h2 := Take_any (k : Int) B g l false w h hl
  have e1 : rdTake l false (k : Int) = (l.take k, l.drop k, false) := by
    unfold rdTake
    rw [if_pos ⟨by omega, by omega⟩]
    simp
  rw [e1] at h2
  refine h2.mono fun e w' hh => ?_
  obtain ⟨A, c, rfl, _, _, ho, hr, hg⟩ := hh
  exact ⟨A, c, by rw [List.length_take, Nat.min_eq_left hk], ho.bytes, hr, hg⟩
theorem Take_not (n : Int) (B g : Nat) (l : List UInt8) (s : Bool) (w : World) (h : Rd w B g l s) (hn : ¬ (0 ≤ n ∧ n ≤ l.length)) (hl : l.length ≤ 1000000) :
    Calls Tryd.prog 21 #[.pointer (some ⟨g, 0, none⟩), .int .i64 n] w fun e w' => ∃ A c, e = .returned (.slice A 0 c) ∧ Rd w' B g [] true ∧ w.grownBy w' (some g) := by
  have h2 := Take_any n B g l s w h hl
  have e1 : rdTake l s n = ([], [], true) := by
    unfold rdTake
    rw [if_neg hn]
  rw [e1] at h2
  refine h2.mono fun e w' hh => ?_
  obtain ⟨A, c, rfl, _, _, ho, hr, hg⟩ := hh
  exact ⟨A, c, rfl, hr, hg⟩
theorem Take_short (B g : Nat) (w : World) (h : Rd w B g [] true) :
    Calls Tryd.prog 21 #[.pointer (some ⟨g, 0, none⟩), .int .i64 0] w fun e w' => ∃ A c, e = .returned (.slice A 0 c) ∧ Rd w' B g [] true ∧ w.grownBy w' (some g) := by
  have h2 := Take_any 0 B g [] true w h (by simp)
  have e1 : rdTake [] true 0 = ([], [], true) := by decide
  rw [e1] at h2
  refine h2.mono fun e w' hh => ?_
  obtain ⟨A, c, rfl, _, _, ho, hr, hg⟩ := hh
  exact ⟨A, c, rfl, hr, hg⟩
theorem Byte_short (B g : Nat) (w : World) (h : Rd w B g [] true) :
    Calls Tryd.prog 17 #[.pointer (some ⟨g, 0, none⟩)] w fun e w' => e = .returned (.int .i64 0) ∧ Rd w' B g [] true ∧ w.grownBy w' (some g) := by
  have h2 := Byte_any B g [] true w h
  have e1 : rdTake [] true 1 = ([], [], true) := by decide
  rw [e1] at h2
  exact h2

set_option maxRecDepth 100000 in
set_option maxHeartbeats 3200000 in
theorem walk (A0 : Option Addr) (c0 : Nat) (l0 : List UInt8) (n1 : Int) (w : World) (hc0 : l0.length ≤ c0) (hm0 : c0 ≤ maxLen) (hb0 : Bytes w A0 l0) (hn1 : -9223372036854775808 ≤ n1 ∧ n1 ≤ 9223372036854775807) (ht : Tab w) :
    Calls Tryd.prog 5 #[.slice A0 l0.length c0, .int .i64 n1] w fun e w' => e = .returned (.bool true) ∧ Below w.heap.size w w' := by
  have HT := Lib.hid ht; have HB := Lib.hid hb0; clear ht hb0
  by_cases hl : 2000 < l0.length
  · go_enter Tryd.func5, Tryd.ntmps5
    go_wp2_with fail
    refine (awake_any _ HT.out).mono ?_
    rintro e w1 ⟨rfl, hb1⟩
    have H1 := Lib.hid hb1; clear hb1
    go_wp2_with fail
    go_ret
    exact ⟨rfl, H1.out⟩
  · have hl2 : l0.length ≤ 2000 := by omega
    have hmx : c0 ≤ 9223372036854775807 := hm0
    by_cases hn : 0 ≤ n1 ∧ n1 ≤ l0.length
    · obtain ⟨k, rfl⟩ := Int.eq_ofNat_of_zero_le hn.1
      have hk : k ≤ l0.length := by omega
      have hd : decide ((0 : Int) ≤ (k : Int)) = true := by simp
      have hlen : ((l0.drop k).length : Int) = (l0.length : Int) - (k : Int) := by rw [List.length_drop]; omega
      clear hn
      have HL := Lib.hid hlen; clear hlen
      go_enter Tryd.func5, Tryd.ntmps5
      go_wp2_with fail
      refine (New_any A0 _ c0 l0 rfl w HB.out hc0 hm0).mono ?_
      rintro e w1 ⟨rfl, hr1, hb1⟩
      have R1 := Lib.hid hr1; have B1 := Lib.hid hb1; clear hr1 hb1
      go_wp2_with fail
      refine (Take_at k _ _ l0 w1 R1.out hk (by omega)).mono ?_
      rintro e w2 ⟨P2, d2, rfl, ho2, hr2, hg2⟩
      have B2 := Lib.hid (B1.out.trans (below_of_grown hg2 B1.out.size (Nat.le_refl _)))
      have R2 := Lib.hid hr2
      have O2 := Lib.hid ho2
      have hS : ∀ w', Below w2.heap.size w2 w' → (convert 22 9 (.slice P2 k d2)).run Tryd.prog w' = .ok (.string ⟨(l0.take k).toArray⟩) w' ∧ (convert 22 9 (.slice A0 k c0)).run Tryd.prog w' = .ok (.string ⟨(l0.take k).toArray⟩) w' := fun w' hx =>
        ⟨conv_bytes' isBytes Tryd.underlying9 (O2.out.below hx) d2 (by rw [List.length_take, Nat.min_eq_left hk]), conv_bytes' isBytes Tryd.underlying9 (((HB.out.below B2.out).below hx).take k) c0 (by rw [List.length_take, Nat.min_eq_left hk])⟩
      have HS := Lib.hid hS
      have hb2 : Below w2.heap.size w2 w2.drew := (Below.refl _ _).drew
      have hL := Left_any _ _ _ _ w2.drew hr2
      rw [HL.out] at hL
      have L2 := Lib.hid hL
      have hz : IntKind.i64.wrap ((l0.length : Int) - (k : Int)) = (l0.length : Int) - (k : Int) := IntWalk.i64_in _ (by omega)
      have hkc : (k : Int) ≤ (c0 : Int) := by omega
      have hk0 : (0 : Int) ≤ (k : Int) := by omega
      clear hr2 hg2 ho2 hS hL
      go_wp2_with fail
      go_region_held3 (fun w' => (convert 22 9 (.slice P2 k d2)).run Tryd.prog w' = .ok (.string ⟨(l0.take k).toArray⟩) w' ∧ (convert 22 9 (.slice A0 k c0)).run Tryd.prog w' = .ok (.string ⟨(l0.take k).toArray⟩) w') (first | exact HS.out _ hb2 | exact HS.out _ hb3) ((first
        | (go_at_call 23; refine L2.out.mono ?_; rintro e w3 ⟨rfl, rfl⟩)
        | (go_at_call 25; refine (Err_any _ _ _ _ _ (show Rd w2.drew _ _ _ _ from R2.out)).mono ?_; rintro e w3 ⟨rfl, rfl⟩)
        | (go_at_call 10; refine (awake_any w2.drew (HT.out.below B2.out.drew HT.out.lt)).mono ?_; rintro e w3 ⟨rfl, hb3'⟩; have hb3 : Below w2.heap.size w2 w3 := hb2.trans hb3')))
      go_wp2_with fail
      go_ret
      exact ⟨rfl, B2.out.trans (hb3.mono B2.out.size)⟩
    · have HN := Lib.hid hn
      by_cases h0 : 0 ≤ n1
      · have h1 : ¬ n1 ≤ (l0.length : Int) := fun h => hn ⟨h0, h⟩
        clear hn
        have hd : decide ((0 : Int) ≤ n1) = true := by simpa using h0
        go_enter Tryd.func5, Tryd.ntmps5
        go_wp2_with fail
        refine (New_any A0 _ c0 l0 rfl w HB.out hc0 hm0).mono ?_
        rintro e w1 ⟨rfl, hr1, hb1⟩
        have R1 := Lib.hid hr1; have B1 := Lib.hid hb1; clear hr1 hb1
        go_wp2_with fail
        refine (Take_not n1 _ _ l0 false w1 R1.out HN.out (by omega)).mono ?_
        rintro e w2 ⟨P2, d2, rfl, hr2, hg2⟩
        have R2 := Lib.hid hr2; have B2 := Lib.hid (B1.out.trans (below_of_grown hg2 B1.out.size (Nat.le_refl _))); clear hr2 hg2
        go_wp2_with fail
        refine (Left_any _ _ _ _ _ R2.out).mono ?_
        rintro e w3 ⟨rfl, rfl⟩
        go_wp2_with fail
        refine (Err_any _ _ _ _ _ R2.out).mono ?_
        rintro e w3 ⟨rfl, rfl⟩
        go_wp2_with fail
        refine (Take_short _ _ _ R2.out).mono ?_
        rintro e w3 ⟨P3, d3, rfl, hr3, hg3⟩
        have R3 := Lib.hid hr3; have B3 := Lib.hid (B2.out.trans (below_of_grown hg3 B2.out.size (Nat.le_refl _))); clear hr3 hg3
        go_wp2_with fail
        refine (Byte_short _ _ _ R3.out).mono ?_
        rintro e w4 ⟨rfl, hr4, hg4⟩
        have R4 := Lib.hid hr4; have B4 := Lib.hid (B3.out.trans (below_of_grown hg4 B3.out.size (Nat.le_refl _))); clear hr4 hg4
        go_wp2_with fail
        refine (Err_any _ _ _ _ _ R4.out).mono ?_
        rintro e w5 ⟨rfl, rfl⟩
        go_wp2_with fail
        refine (awake_any _ (HT.out.below B4.out HT.out.lt)).mono ?_
        rintro e w5 ⟨rfl, hb5⟩
        have H5 := Lib.hid (B4.out.trans (hb5.mono B4.out.size)); clear hb5
        go_wp2_with fail
        go_ret
        exact ⟨rfl, H5.out⟩
      · clear hn
        have hd : decide ((0 : Int) ≤ n1) = false := by simpa using h0
        go_enter Tryd.func5, Tryd.ntmps5
        go_wp2_with fail
        refine (New_any A0 _ c0 l0 rfl w HB.out hc0 hm0).mono ?_
        rintro e w1 ⟨rfl, hr1, hb1⟩
        have R1 := Lib.hid hr1; have B1 := Lib.hid hb1; clear hr1 hb1
        go_wp2_with fail
        refine (Take_not n1 _ _ l0 false w1 R1.out HN.out (by omega)).mono ?_
        rintro e w2 ⟨P2, d2, rfl, hr2, hg2⟩
        have R2 := Lib.hid hr2; have B2 := Lib.hid (B1.out.trans (below_of_grown hg2 B1.out.size (Nat.le_refl _))); clear hr2 hg2
        go_wp2_with fail
        refine (Left_any _ _ _ _ _ R2.out).mono ?_
        rintro e w3 ⟨rfl, rfl⟩
        go_wp2_with fail
        refine (Err_any _ _ _ _ _ R2.out).mono ?_
        rintro e w3 ⟨rfl, rfl⟩
        go_wp2_with fail
        refine (Take_short _ _ _ R2.out).mono ?_
        rintro e w3 ⟨P3, d3, rfl, hr3, hg3⟩
        have R3 := Lib.hid hr3; have B3 := Lib.hid (B2.out.trans (below_of_grown hg3 B2.out.size (Nat.le_refl _))); clear hr3 hg3
        go_wp2_with fail
        refine (Byte_short _ _ _ R3.out).mono ?_
        rintro e w4 ⟨rfl, hr4, hg4⟩
        have R4 := Lib.hid hr4; have B4 := Lib.hid (B3.out.trans (below_of_grown hg4 B3.out.size (Nat.le_refl _))); clear hr4 hg4
        go_wp2_with fail
        refine (Err_any _ _ _ _ _ R4.out).mono ?_
        rintro e w5 ⟨rfl, rfl⟩
        go_wp2_with fail
        refine (awake_any _ (HT.out.below B4.out HT.out.lt)).mono ?_
        rintro e w5 ⟨rfl, hb5⟩
        have H5 := Lib.hid (B4.out.trans (hb5.mono B4.out.size)); clear hb5
        go_wp2_with fail
        go_ret
        exact ⟨rfl, H5.out⟩

theorem contract (H : Type) (enc : TypeId × Value → H) (W : World) (base : Nat) (args : Array Value) (ds gs : List (DataW H)) (before : List MemPlace)
    (hval : ∀ (j : Nat) t v, Tryd.f5.params[j]? = some t → args[j]? = some v → Value.okWide Tryd.prog W .any base t v)
    (hW : DataW.Whole enc Tryd.prog Tryd.f5.params.toList Rows.octetTakesSpec.vars false W args.toList ds gs before)
    (hL : laidMetH Tryd.prog Rows.octetTakesRow.laid W) :
    Calls Tryd.prog 5 args W fun e W' => ∃ v, e = .returned v ∧ Rows.octetTakesSpec.post enc Tryd.prog Tryd.f5 false true false false W args v W' := by
  have hW' := hW
  obtain ⟨p, q, hA0, hV, rfl, hfz, hnd⟩ := hW
  have hA : DataW.TrodAll enc Tryd.prog W 0 (fun _ => true) true Tryd.f5.params.toList args.toList ds p := hA0
  rw [Tryd.params5] at hA hval
  obtain ⟨v0, vs0, d0, ds0, p0, q0, hargs, rfl, rfl, h0, r0⟩ := trodAll_cons hA
  obtain ⟨v1, vs1, d1, ds1, p1, q1, rfl, rfl, rfl, h1, r1⟩ := trodAll_cons r0
  obtain ⟨rfl, rfl, rfl⟩ := trodAll_nil r1
  obtain rfl : args = #[v0, v1] := by cases args; simp_all
  obtain ⟨rfl, rfl⟩ := trodVars_none hV
  obtain ⟨a0, len0, cap0, rfl⟩ := okWide_slice Tryd.underlying22 (hval 0 22 v0 rfl rfl)
  have k0 := h0
  have lt0 : ∀ x ∈ p0, x.block < W.heap.size := by obtain ⟨m, hm⟩ := k0; exact DataW.trod_lt m _ _ _ hm
  obtain ⟨l0, hl0, w0, hcap0, hmax0⟩ : ∃ l : List UInt8, l.length = len0 ∧ Bytes W a0 l ∧ len0 ≤ cap0 ∧ cap0 ≤ maxLen := by
    obtain ⟨fuel, hf⟩ := h0
    rcases open_ints Tryd.underlying22 Tryd.underlying5 (by kernel_rfl) hf with ⟨hcs, _⟩ | ⟨x, l, c, zs, hcs, _, hl, hm, hz, _, hcell, hwz⟩
    · simp [Value.cells] at hcs
      obtain ⟨rfl, rfl, rfl⟩ := hcs
      exact ⟨[], rfl, Bytes.nil _ _, Nat.le_refl _, Nat.zero_le _⟩
    · simp [Value.cells] at hcs
      obtain ⟨rfl, rfl, rfl⟩ := hcs
      obtain ⟨l, h1, h2⟩ := bytes_in hl hz hcell hwz
      exact ⟨l, h1, h2, hl, hm⟩
  subst hl0
  obtain ⟨x1, rfl, rfl, rfl, w1⟩ := open_int Tryd.underlying3 (hval 1 3 v1 rfl rfl) h1
  clear hA0
  refine (walk a0 cap0 l0 x1 W hcap0 hmax0 w0 (bounds_i64 w1) (tab_of_laid hL)).mono fun e W' ⟨he, bel⟩ => ?_
  subst he
  exact ⟨_, rfl, _, _, _, [], _, [], hW', trodAll_mk1 (shut_bool Tryd.underlying4 _), (trodAll_cons_mk (Below.trod laidOut (by kernel_rfl) (of_decide_eq_true (by kernel_rfl)) k0 bel lt0) (trodAll_cons_mk (shut_int Tryd.underlying3 w1) trodAll_mk0)), rfl, bel.frame _, fun h => by cases h⟩

noncomputable def laidWorld (os : Os) : World :=
  { World.holding Tryd.prog os ⟨#[], #[], []⟩ with heap := (World.holding Tryd.prog os ⟨#[], #[], []⟩).heap.modify 0 fun
      | .cells _ t frozen => .cells tabCells t frozen
      | o => o }
theorem laid_met (os : Os) : laidMet Tryd.prog Rows.octetTakesRow.laid ((laidWorld os).forCall (fun _ _ => 0) ⟨#[], #[.slice none 0 0, .int .i64 0], []⟩).memory :=
  laidMet_of_run' 8 (by kernel_rfl) (by kernel_rfl)
theorem reads (os : Os) {H : Type} (enc : TypeId × Value → H) : ∃ places, DataW.whole enc Tryd.prog ((laidWorld os).forCall (fun _ _ => 0) ⟨#[], #[.slice none 0 0, .int .i64 0], []⟩).memory Tryd.f5.params.toList Rows.octetTakesSpec.vars false (#[.slice none 0 0, .int .i64 0] : Array Value).toList 8 = some ([.nil, .lit (.int .i64 0)], [], places) :=
  ⟨[], by kernel_rfl⟩

set_option maxRecDepth 100000 in
theorem lifted (os : Os) (started : os.Started) (H : Type) (enc : TypeId × Value → H) (F : Stop.Interp) :
    ReturnsInHanded {} Tryd.checked os 5 .any ((OpenSpec.ofChange Rows.octetTakesSpec).preRow enc Tryd.prog Tryd.f5 Rows.octetTakesRow.domain false Rows.octetTakesRow.laid) (((OpenSpec.ofChange Rows.octetTakesSpec).at F).post enc Tryd.prog Tryd.f5 false true false false) := by
  obtain ⟨places, hx⟩ := reads os enc
  refine returnsInHanded_of_row (C := Tryd.checked) (s := OpenSpec.ofChange Rows.octetTakesSpec) own started (by kernel_rfl) Tryd.func5
    (witness_row_at (enc := enc) (C := Tryd.checked) false (laidWorld os) #[.slice none 0 0, .int .i64 0] rfl (by kernel_rfl) (by kernel_rfl) (by kernel_rfl)
      (OpenSpec.preRow_of_cond 8 hx (by kernel_rfl) (fun k hk => by cases hk) (by kernel_rfl) (laid_met os))) ?_
  intro W base args ds gs before hval hW _ _ _ hL _ _
  exact contract H enc W base args ds gs before hval hW hL

theorem said : Rows.OctetTakesSaid :=
  OpenClaim.holds_of_cond 5 Tryd.f5 rfl rfl rfl rfl rfl rfl rfl ⟨rfl, rfl, rfl, rfl, rfl⟩ rfl rfl rfl rfl rfl (by kernel_rfl) Tryd.func5 (by kernel_rfl)
    (of_decide_eq_true (by kernel_rfl)) (by unfold Func.isWrapper; first | (rw [if_pos (by decide +kernel)]; kernel_rfl) | (rw [if_neg (by decide +kernel)]; exact ⟨rfl, rfl⟩))
    (fun os started H enc _ F => by rw [OpenClaim.pre_eq_preRow]; exact lifted os started H enc F)

/-- No parameter wants a stand-in; the program's own looks are off: what the card asks. -/
theorem plain (f : FuncId) (fn : Func) (hf : Tryd.pinned.checked.prog.funcNamed "speculum/speculumlaw01.OctetTakes" = some f) (hfn : Tryd.pinned.checked.prog.funcs[f]? = some fn) :
    false = Tryd.pinned.checked.prog.looks [] ∧ ∀ (j : Nat) t, fn.params[j]? = some t → Tryd.pinned.checked.prog.wantsStandIn t = false := by
  obtain rfl : f = 5 := Option.some.inj ((show Tryd.prog.funcNamed "speculum/speculumlaw01.OctetTakes" = some 5 by kernel_rfl).symm.trans hf) |>.symm
  obtain rfl : fn = Tryd.f5 := (Option.some.inj (Tryd.func5.symm.trans hfn)).symm
  refine ⟨by kernel_rfl, fun j t ht => ?_⟩
  rw [Tryd.params5] at ht
  have hm : t ∈ [22, 3] := by simpa using Array.mem_of_getElem? ht
  have hall : ([22, 3].all fun u => !Tryd.prog.wantsStandIn u) = true := by kernel_rfl
  exact (show Tryd.prog.wantsStandIn t = false by simpa using List.all_eq_true.1 hall t hm)

/-- ████ THE CARD ████ -/
theorem card : Rows.OctetTakesCardSaid :=
  Claim7.holds_tied_plain_at .later [] _ _ _ _ said (fun _ h => by cases h) (by kernel_rfl) (fun _ h => by cases h) octetTakes_row_tie rfl ⟨rfl, rfl⟩ (by kernel_rfl) rfl plain (by kernel_rfl)
end Go.Proofs.YtjfbfboecpbgbaaDoor.OctetTakes

/-
  OctetDigits: any number in digits, and which number any text says, are as the document says.
-/
import Derived.Test.YtjfbfboecpbgbaaDoorFrame
import Derived.Test.YtjfbfboecpbgbaaDoorRefInt
namespace Go.Proofs.YtjfbfboecpbgbaaDoor.OctetDigits
open Go.ChangeShapes Go.WideShapes Go.ChangeAt Go.RowKit
open Go.ChangeMaps (open_string shut_string)
set_option linter.unusedVariables false

/-! THE WALK. -/
theorem intSpec_text (n : Int) : intSpec (textL n) = if 0 ≤ n ∧ n ≤ 4294967295 then some n.natAbs else none := by
  by_cases h : 0 ≤ n ∧ n ≤ 4294967295
  · rw [if_pos h]
    obtain ⟨a, rfl⟩ := Int.eq_ofNat_of_zero_le h.1
    rw [textL_pos]
    exact intSpec_of rfl (by omega)
  · rw [if_neg h]
    cases hs : intSpec (textL n) with
    | none => rfl
    | some m =>
      obtain ⟨h1, h2⟩ := intSpec_some hs
      rcases (show n < 0 ∨ 0 ≤ n by omega) with hn | hn
      · have h3 := dec_digs m 45 (by rw [h1]; unfold textL; rw [if_pos hn]; simp)
        unfold isDig at h3
        have h5 : (45 : UInt8).toNat = 45 := rfl
        omega
      · obtain ⟨a, rfl⟩ := Int.eq_ofNat_of_zero_le hn
        rw [textL_pos] at h1
        have h4 := val_dec m
        rw [h1, val_dec] at h4
        omega
theorem textL_len (n : Int) (h0 : -9223372036854775808 ≤ n) (h1 : n ≤ 9223372036854775807) : (textL n).length ≤ 21 := by
  have h2 := dec_len 19 n.natAbs (by omega)
  unfold textL
  split <;> simp <;> omega

theorem Int_is (l : List UInt8) (x : Int) (b : Bool) (hx : x = (((intSpec l).getD 0 : Nat) : Int)) (hb : b = (intSpec l).isSome) (w : World) (hm : l.length ≤ maxLen) (ht : Tab w) :
    Calls Tryd.prog 32 #[.string ⟨l.toArray⟩] w fun e w' => e = .returned (.tuple #[.int .i64 x, .bool b]) ∧ w = w' := by
  subst hx; subst hb
  exact Int_any l w hm ht
theorem refInt_is' (l : List UInt8) (x : Int) (b : Bool) (hx : x = (((intSpec l).getD 0 : Nat) : Int)) (hb : b = (intSpec l).isSome) (w : World) (hm : l.length ≤ maxLen) :
    Calls Tryd.prog 33 #[.string ⟨l.toArray⟩] w fun e w' => e = .returned (.tuple #[.int .i64 x, .bool b]) ∧ w = w' := by
  subst hx; subst hb
  exact refInt_any l w hm

set_option maxHeartbeats 1600000 in
theorem walk (n0 : Int) (s1 : List UInt8) (w : World) (hn0 : -9223372036854775808 ≤ n0 ∧ n0 ≤ 9223372036854775807) (hs1 : s1.length ≤ maxLen) (ht : Tab w) :
    Calls Tryd.prog 8 #[.int .i64 n0, .string ⟨s1.toArray⟩] w fun e w' => e = .returned (.bool true) ∧ Below w.heap.size w w' := by
  have HT := Lib.hid ht; clear ht
  have HS := Lib.hid hs1
  unfold maxLen at hs1
  by_cases hl : 2000 < s1.length
  · go_enter Tryd.func8, Tryd.ntmps8
    go_wp2_with fail
    refine (awake_any _ HT.out).mono ?_
    rintro e w1 ⟨rfl, hb1⟩
    have H1 := Lib.hid hb1; clear hb1
    go_wp2_with fail
    go_ret
    exact ⟨rfl, H1.out⟩
  · obtain ⟨x, hx⟩ : ∃ x, x = (((intSpec s1).getD 0 : Nat) : Int) := ⟨_, rfl⟩
    obtain ⟨b, hb⟩ : ∃ b, b = (intSpec s1).isSome := ⟨_, rfl⟩
    have QI := Lib.hid (fun w h => Int_is s1 x b hx hb w HS.out h)
    have QR := Lib.hid (fun w => refInt_is' s1 x b hx hb w HS.out)
    clear hx hb
    have hlen := textL_len n0 hn0.1 hn0.2
    have hsp := intSpec_text n0
    by_cases hr : 0 ≤ n0 ∧ n0 ≤ 4294967295
    · rw [if_pos hr] at hsp
      have QT := Lib.hid (fun w h => Int_is (textL n0) n0 true (by rw [hsp]; simp; omega) (by rw [hsp]; rfl) w (by unfold maxLen; omega) h)
      clear hsp
      have h0 := hr.1
      have h1 := hr.2
      have hd0 : decide ((0 : Int) ≤ n0) = true := by simpa using h0
      have hd1 : decide (n0 ≤ (4294967295 : Int)) = true := by simpa using h1
      clear hr
      go_enter Tryd.func8, Tryd.ntmps8
      go_wp2_with fail
      refine (Text_any n0 w hn0.1 hn0.2 HT.out).mono ?_
      rintro e w1 ⟨rfl, hb1⟩
      have B1 := Lib.hid hb1; clear hb1
      go_wp2_with fail
      refine ((QT.out w1 (HT.out.below B1.out HT.out.lt))).mono ?_
      rintro e w2 ⟨rfl, rfl⟩
      go_wp2_with fail
      refine ((QI.out w1 (HT.out.below B1.out HT.out.lt))).mono ?_
      rintro e w2 ⟨rfl, rfl⟩
      go_wp2_with fail
      refine (QR.out w1).mono ?_
      rintro e w2 ⟨rfl, rfl⟩
      go_wp2_with fail
      refine (refText_any n0 w1 hn0.1 hn0.2).mono ?_
      rintro e w2 ⟨rfl, rfl⟩
      go_wp2_with fail
      refine (awake_any _ (HT.out.below B1.out HT.out.lt)).mono ?_
      rintro e w2 ⟨rfl, hb2⟩
      have B2 := Lib.hid (B1.out.trans (hb2.mono B1.out.size)); clear hb2
      go_wp2_with fail
      go_ret
      exact ⟨rfl, B2.out⟩
    · rw [if_neg hr] at hsp
      have QT := Lib.hid (fun w h => Int_is (textL n0) 0 false (by rw [hsp]; rfl) (by rw [hsp]; rfl) w (by unfold maxLen; omega) h)
      clear hsp
      by_cases h0 : 0 ≤ n0
      · have h1 : ¬ n0 ≤ 4294967295 := fun h => hr ⟨h0, h⟩
        have hd0 : decide ((0 : Int) ≤ n0) = true := by simpa using h0
        have hd1 : decide (n0 ≤ (4294967295 : Int)) = false := by simpa using h1
        clear hr
        go_enter Tryd.func8, Tryd.ntmps8
        go_wp2_with fail
        refine (Text_any n0 w hn0.1 hn0.2 HT.out).mono ?_
        rintro e w1 ⟨rfl, hb1⟩
        have B1 := Lib.hid hb1; clear hb1
        go_wp2_with fail
        refine ((QT.out w1 (HT.out.below B1.out HT.out.lt))).mono ?_
        rintro e w2 ⟨rfl, rfl⟩
        go_wp2_with fail
        refine ((QI.out w1 (HT.out.below B1.out HT.out.lt))).mono ?_
        rintro e w2 ⟨rfl, rfl⟩
        go_wp2_with fail
        refine (QR.out w1).mono ?_
        rintro e w2 ⟨rfl, rfl⟩
        go_wp2_with fail
        refine (refText_any n0 w1 hn0.1 hn0.2).mono ?_
        rintro e w2 ⟨rfl, rfl⟩
        go_wp2_with fail
        refine (awake_any _ (HT.out.below B1.out HT.out.lt)).mono ?_
        rintro e w2 ⟨rfl, hb2⟩
        have B2 := Lib.hid (B1.out.trans (hb2.mono B1.out.size)); clear hb2
        go_wp2_with fail
        go_ret
        exact ⟨rfl, B2.out⟩
      · have hd0 : decide ((0 : Int) ≤ n0) = false := by simpa using h0
        clear hr
        go_enter Tryd.func8, Tryd.ntmps8
        go_wp2_with fail
        refine (Text_any n0 w hn0.1 hn0.2 HT.out).mono ?_
        rintro e w1 ⟨rfl, hb1⟩
        have B1 := Lib.hid hb1; clear hb1
        go_wp2_with fail
        refine ((QT.out w1 (HT.out.below B1.out HT.out.lt))).mono ?_
        rintro e w2 ⟨rfl, rfl⟩
        go_wp2_with fail
        refine ((QI.out w1 (HT.out.below B1.out HT.out.lt))).mono ?_
        rintro e w2 ⟨rfl, rfl⟩
        go_wp2_with fail
        refine (QR.out w1).mono ?_
        rintro e w2 ⟨rfl, rfl⟩
        go_wp2_with fail
        refine (refText_any n0 w1 hn0.1 hn0.2).mono ?_
        rintro e w2 ⟨rfl, rfl⟩
        go_wp2_with fail
        refine (awake_any _ (HT.out.below B1.out HT.out.lt)).mono ?_
        rintro e w2 ⟨rfl, hb2⟩
        have B2 := Lib.hid (B1.out.trans (hb2.mono B1.out.size)); clear hb2
        go_wp2_with fail
        go_ret
        exact ⟨rfl, B2.out⟩

theorem contract (H : Type) (enc : TypeId × Value → H) (W : World) (base : Nat) (args : Array Value) (ds gs : List (DataW H)) (before : List MemPlace)
    (hval : ∀ (j : Nat) t v, Tryd.f8.params[j]? = some t → args[j]? = some v → Value.okWide Tryd.prog W .any base t v)
    (hW : DataW.Whole enc Tryd.prog Tryd.f8.params.toList Rows.octetDigitsSpec.vars false W args.toList ds gs before)
    (hL : laidMetH Tryd.prog Rows.octetDigitsRow.laid W) :
    Calls Tryd.prog 8 args W fun e W' => ∃ v, e = .returned v ∧ Rows.octetDigitsSpec.post enc Tryd.prog Tryd.f8 false true false false W args v W' := by
  have hW' := hW
  obtain ⟨p, q, hA0, hV, rfl, hfz, hnd⟩ := hW
  have hA : DataW.TrodAll enc Tryd.prog W 0 (fun _ => true) true Tryd.f8.params.toList args.toList ds p := hA0
  rw [Tryd.params8] at hA hval
  obtain ⟨v0, vs0, d0, ds0, p0, q0, hargs, rfl, rfl, h0, r0⟩ := trodAll_cons hA
  obtain ⟨v1, vs1, d1, ds1, p1, q1, rfl, rfl, rfl, h1, r1⟩ := trodAll_cons r0
  obtain ⟨rfl, rfl, rfl⟩ := trodAll_nil r1
  obtain rfl : args = #[v0, v1] := by cases args; simp_all
  obtain ⟨rfl, rfl⟩ := trodVars_none hV
  obtain ⟨x0, rfl, rfl, rfl, w0⟩ := open_int Tryd.underlying3 (hval 0 3 v0 rfl rfl) h0
  obtain ⟨b1, rfl, rfl, rfl, hb1⟩ := open_string Tryd.underlying9 (hval 1 9 v1 rfl rfl) h1
  obtain ⟨s1, rfl⟩ : ∃ s : List UInt8, b1 = ⟨s.toArray⟩ := ⟨b1.data.toList, by simp⟩
  have hs1 : s1.length ≤ maxLen := by simpa [ByteArray.size] using hb1
  clear hA0
  refine (walk x0 s1 W (bounds_i64 w0) hs1 (tab_of_laid hL)).mono fun e W' ⟨he, bel⟩ => ?_
  subst he
  exact ⟨_, rfl, _, _, _, [], _, [], hW', trodAll_mk1 (shut_bool Tryd.underlying4 _), (trodAll_cons_mk (shut_int Tryd.underlying3 w0) (trodAll_cons_mk (shut_string Tryd.underlying9 hb1) trodAll_mk0)), rfl, bel.frame _, fun h => by cases h⟩

noncomputable def laidWorld (os : Os) : World :=
  { World.holding Tryd.prog os ⟨#[], #[], []⟩ with heap := (World.holding Tryd.prog os ⟨#[], #[], []⟩).heap.modify 0 fun
      | .cells _ t frozen => .cells tabCells t frozen
      | o => o }
theorem laid_met (os : Os) : laidMet Tryd.prog Rows.octetDigitsRow.laid ((laidWorld os).forCall (fun _ _ => 0) ⟨#[], #[.int .i64 0, .string ByteArray.empty], []⟩).memory :=
  laidMet_of_run' 8 (by kernel_rfl) (by kernel_rfl)
theorem reads (os : Os) {H : Type} (enc : TypeId × Value → H) : ∃ places, DataW.whole enc Tryd.prog ((laidWorld os).forCall (fun _ _ => 0) ⟨#[], #[.int .i64 0, .string ByteArray.empty], []⟩).memory Tryd.f8.params.toList Rows.octetDigitsSpec.vars false (#[.int .i64 0, .string ByteArray.empty] : Array Value).toList 8 = some ([.lit (.int .i64 0), .lit (.string [])], [], places) :=
  ⟨[], by kernel_rfl⟩

set_option maxRecDepth 100000 in
theorem lifted (os : Os) (started : os.Started) (H : Type) (enc : TypeId × Value → H) (F : Stop.Interp) :
    ReturnsInHanded {} Tryd.checked os 8 .any ((OpenSpec.ofChange Rows.octetDigitsSpec).preRow enc Tryd.prog Tryd.f8 Rows.octetDigitsRow.domain false Rows.octetDigitsRow.laid) (((OpenSpec.ofChange Rows.octetDigitsSpec).at F).post enc Tryd.prog Tryd.f8 false true false false) := by
  obtain ⟨places, hx⟩ := reads os enc
  refine returnsInHanded_of_row (C := Tryd.checked) (s := OpenSpec.ofChange Rows.octetDigitsSpec) own started (by kernel_rfl) Tryd.func8
    (witness_row_at (enc := enc) (C := Tryd.checked) false (laidWorld os) #[.int .i64 0, .string ByteArray.empty] rfl (by kernel_rfl) (by kernel_rfl) (by kernel_rfl)
      (OpenSpec.preRow_of_cond 8 hx (by kernel_rfl) (fun k hk => by cases hk) (by kernel_rfl) (laid_met os))) ?_
  intro W base args ds gs before hval hW _ _ _ hL _ _
  exact contract H enc W base args ds gs before hval hW hL

theorem said : Rows.OctetDigitsSaid :=
  OpenClaim.holds_of_cond 8 Tryd.f8 rfl rfl rfl rfl rfl rfl rfl ⟨rfl, rfl, rfl, rfl, rfl⟩ rfl rfl rfl rfl rfl (by kernel_rfl) Tryd.func8 (by kernel_rfl)
    (of_decide_eq_true (by kernel_rfl)) (by unfold Func.isWrapper; first | (rw [if_pos (by decide +kernel)]; kernel_rfl) | (rw [if_neg (by decide +kernel)]; exact ⟨rfl, rfl⟩))
    (fun os started H enc _ F => by rw [OpenClaim.pre_eq_preRow]; exact lifted os started H enc F)

/-- No parameter wants a stand-in; the program's own looks are off: what the card asks. -/
theorem plain (f : FuncId) (fn : Func) (hf : Tryd.pinned.checked.prog.funcNamed "speculum/speculumlaw01.OctetDigits" = some f) (hfn : Tryd.pinned.checked.prog.funcs[f]? = some fn) :
    false = Tryd.pinned.checked.prog.looks [] ∧ ∀ (j : Nat) t, fn.params[j]? = some t → Tryd.pinned.checked.prog.wantsStandIn t = false := by
  obtain rfl : f = 8 := Option.some.inj ((show Tryd.prog.funcNamed "speculum/speculumlaw01.OctetDigits" = some 8 by kernel_rfl).symm.trans hf) |>.symm
  obtain rfl : fn = Tryd.f8 := (Option.some.inj (Tryd.func8.symm.trans hfn)).symm
  refine ⟨by kernel_rfl, fun j t ht => ?_⟩
  rw [Tryd.params8] at ht
  have hm : t ∈ [3, 9] := by simpa using Array.mem_of_getElem? ht
  have hall : ([3, 9].all fun u => !Tryd.prog.wantsStandIn u) = true := by kernel_rfl
  exact (show Tryd.prog.wantsStandIn t = false by simpa using List.all_eq_true.1 hall t hm)

/-- ████ THE CARD ████ -/
theorem card : Rows.OctetDigitsCardSaid :=
  Claim7.holds_tied_plain_at .later [] _ _ _ _ said (fun _ h => by cases h) (by kernel_rfl) (fun _ h => by cases h) octetDigits_row_tie rfl ⟨rfl, rfl⟩ (by kernel_rfl) rfl plain (by kernel_rfl)
end Go.Proofs.YtjfbfboecpbgbaaDoor.OctetDigits

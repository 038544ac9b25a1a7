/-
  OctetHex: any bytes in digits, and which bytes any text says, are as the document says.
-/
import Derived.Test.YtjfbfboecpbgbaaDoorFrame
import Derived.Test.YtjfbfboecpbgbaaDoorUnhex
namespace Go.Proofs.YtjfbfboecpbgbaaDoor.OctetHex
open Go.ChangeShapes Go.WideShapes Go.ChangeAt Go.RowKit
open Go.ChangeMaps (open_string shut_string)
set_option linter.unusedVariables false

/-! THE WALK. -/
theorem unhex_is {f : Nat} {args : Array Value} {w : World} {r : Option (List UInt8)} {m : List UInt8} {b : Bool} (h : Calls Tryd.prog f args w (RetUnhex w r)) (hm : m = r.getD []) (hb : b = r.isSome) :
    Calls Tryd.prog f args w fun e w' => ∃ A c, e = .returned (.tuple #[.slice A m.length c, .bool b]) ∧ Bytes w' A m ∧ Below w.heap.size w w' := by
  subst hm; subst hb
  exact h

set_option maxRecDepth 100000 in
set_option maxHeartbeats 3200000 in
theorem walk (A0 : Option Addr) (c0 : Nat) (l0 : List UInt8) (s1 : List UInt8) (w : World) (hc0 : l0.length ≤ c0) (hm0 : c0 ≤ maxLen) (hb0 : Bytes w A0 l0) (hs1 : s1.length ≤ maxLen) (ht : Tab w) :
    Calls Tryd.prog 7 #[.slice A0 l0.length c0, .string ⟨s1.toArray⟩] w fun e w' => e = .returned (.bool true) ∧ Below w.heap.size w w' := by
  have HT := Lib.hid ht; have HB := Lib.hid hb0; clear ht hb0
  unfold maxLen at hs1
  by_cases hl : 300 < l0.length
  · have hd : decide ((300 : Int) < (l0.length : Int)) = true := by simp; omega
    go_enter Tryd.func7, Tryd.ntmps7
    go_wp2_with fail
    refine (awake_any _ HT.out).mono ?_
    rintro e w1 ⟨rfl, hb1⟩
    have H1 := Lib.hid hb1; clear hb1
    go_wp2_with fail
    go_ret
    exact ⟨rfl, H1.out⟩
  · by_cases hz : 300 < s1.length
    · have hl2 : l0.length ≤ 300 := by omega
      go_enter Tryd.func7, Tryd.ntmps7
      go_wp2_with fail
      refine (awake_any _ HT.out).mono ?_
      rintro e w1 ⟨rfl, hb1⟩
      have H1 := Lib.hid hb1; clear hb1
      go_wp2_with fail
      go_ret
      exact ⟨rfl, H1.out⟩
    · have hl2 : l0.length ≤ 300 := by omega
      have hz2 : s1.length ≤ 300 := by omega
      obtain ⟨m, hm⟩ : ∃ m, m = (unhexL s1).getD [] := ⟨_, rfl⟩
      obtain ⟨b, hb⟩ : ∃ b, b = (unhexL s1).isSome := ⟨_, rfl⟩
      have hlen : (hexL l0).length ≤ 1000000 := by rw [hexL_len]; omega
      have Q1 := Lib.hid (fun w1 h => unhex_is (m := l0) (b := true) (Unhex_any (hexL l0) w1 hlen h) (by rw [unhexL_hexL]; rfl) (by rw [unhexL_hexL]; rfl))
      have Q2 := Lib.hid (fun w1 h => unhex_is (Unhex_any s1 w1 (by omega) h) hm hb)
      have Q3 := Lib.hid (fun w1 => unhex_is (refUnhex_any s1 w1 (by omega)) hm hb)
      clear hm hb hlen
      go_enter Tryd.func7, Tryd.ntmps7
      go_wp2_with fail
      refine (Hex_any A0 _ c0 l0 rfl w (by omega) HB.out HT.out).mono ?_
      rintro e w1 ⟨rfl, hb1⟩
      have B1 := Lib.hid hb1; clear hb1
      go_wp2_with fail
      refine (Q1.out w1 (HT.out.below B1.out HT.out.lt)).mono ?_
      rintro e w2 ⟨P2, d2, rfl, ho2, hb2⟩
      have O2 := Lib.hid ho2; have B2 := Lib.hid (B1.out.trans (hb2.mono B1.out.size)); clear ho2 hb2
      go_wp2_with fail
      refine (Q2.out w2 (HT.out.below B2.out HT.out.lt)).mono ?_
      rintro e w3 ⟨P3, d3, rfl, ho3, hb3⟩
      have O3 := Lib.hid ho3; have O23 := Lib.hid (O2.out.below hb3); have B3 := Lib.hid (B2.out.trans (hb3.mono B2.out.size)); clear ho3 hb3
      go_wp2_with fail
      refine (Q3.out w3).mono ?_
      rintro e w4 ⟨P4, d4, rfl, ho4, hb4⟩
      have O4 := Lib.hid ho4; have O24 := Lib.hid (O23.out.below hb4); have O34 := Lib.hid (O3.out.below hb4); have B4 := Lib.hid (B3.out.trans (hb4.mono B3.out.size)); clear ho4 hb4
      go_wp2_with fail
      refine (refHex_any A0 _ c0 l0 rfl w4 (by omega) (HB.out.below B4.out)).mono ?_
      rintro e w5 ⟨rfl, k5, rfl⟩
      go_wp2_with fail
      refine (Same_any P2 A0 _ _ d2 c0 l0 l0 rfl rfl _ (O24.out.drewN k5) ((HB.out.below B4.out).drewN k5)).mono ?_
      rintro e w5 ⟨rfl, rfl⟩
      go_wp2_with fail
      refine (Same_any P3 P4 _ _ d3 d4 m m rfl rfl _ (O34.out.drewN k5) (O4.out.drewN k5)).mono ?_
      rintro e w5 ⟨rfl, rfl⟩
      go_wp2_with fail
      refine (awake_any _ (HT.out.below (below_drewN B4.out k5) HT.out.lt)).mono ?_
      rintro e w5 ⟨rfl, hb5⟩
      have B5 := Lib.hid ((below_drewN B4.out k5).trans (hb5.mono (below_drewN B4.out k5).size)); clear hb5
      go_wp2_with fail
      go_ret
      exact ⟨rfl, B5.out⟩

theorem contract (H : Type) (enc : TypeId × Value → H) (W : World) (base : Nat) (args : Array Value) (ds gs : List (DataW H)) (before : List MemPlace)
    (hval : ∀ (j : Nat) t v, Tryd.f7.params[j]? = some t → args[j]? = some v → Value.okWide Tryd.prog W .any base t v)
    (hW : DataW.Whole enc Tryd.prog Tryd.f7.params.toList Rows.octetHexSpec.vars false W args.toList ds gs before)
    (hL : laidMetH Tryd.prog Rows.octetHexRow.laid W) :
    Calls Tryd.prog 7 args W fun e W' => ∃ v, e = .returned v ∧ Rows.octetHexSpec.post enc Tryd.prog Tryd.f7 false true false false W args v W' := by
  have hW' := hW
  obtain ⟨p, q, hA0, hV, rfl, hfz, hnd⟩ := hW
  have hA : DataW.TrodAll enc Tryd.prog W 0 (fun _ => true) true Tryd.f7.params.toList args.toList ds p := hA0
  rw [Tryd.params7] at hA hval
  obtain ⟨v0, vs0, d0, ds0, p0, q0, hargs, rfl, rfl, h0, r0⟩ := trodAll_cons hA
  obtain ⟨v1, vs1, d1, ds1, p1, q1, rfl, rfl, rfl, h1, r1⟩ := trodAll_cons r0
  obtain ⟨rfl, rfl, rfl⟩ := trodAll_nil r1
  obtain rfl : args = #[v0, v1] := by cases args; simp_all
  obtain ⟨rfl, rfl⟩ := trodVars_none hV
  obtain ⟨a0, len0, cap0, rfl⟩ := okWide_slice Tryd.underlying22 (hval 0 22 v0 rfl rfl)
  have k0 := h0
  have lt0 : ∀ x ∈ p0, x.block < W.heap.size := by obtain ⟨m, hm⟩ := k0; exact DataW.trod_lt m _ _ _ hm
  obtain ⟨l0, hl0, w0, hcap0, hmax0⟩ : ∃ l : List UInt8, l.length = len0 ∧ Bytes W a0 l ∧ len0 ≤ cap0 ∧ cap0 ≤ maxLen := by
    obtain ⟨fuel, hf⟩ := h0
    rcases open_ints Tryd.underlying22 Tryd.underlying5 (by kernel_rfl) hf with ⟨hcs, _⟩ | ⟨x, l, c, zs, hcs, _, hl, hm, hz, _, hcell, hwz⟩
    · simp [Value.cells] at hcs
      obtain ⟨rfl, rfl, rfl⟩ := hcs
      exact ⟨[], rfl, Bytes.nil _ _, Nat.le_refl _, Nat.zero_le _⟩
    · simp [Value.cells] at hcs
      obtain ⟨rfl, rfl, rfl⟩ := hcs
      obtain ⟨l, h1, h2⟩ := bytes_in hl hz hcell hwz
      exact ⟨l, h1, h2, hl, hm⟩
  subst hl0
  obtain ⟨b1, rfl, rfl, rfl, hb1⟩ := open_string Tryd.underlying9 (hval 1 9 v1 rfl rfl) h1
  obtain ⟨s1, rfl⟩ : ∃ s : List UInt8, b1 = ⟨s.toArray⟩ := ⟨b1.data.toList, by simp⟩
  have hs1 : s1.length ≤ maxLen := by simpa [ByteArray.size] using hb1
  clear hA0
  refine (walk a0 cap0 l0 s1 W hcap0 hmax0 w0 hs1 (tab_of_laid hL)).mono fun e W' ⟨he, bel⟩ => ?_
  subst he
  exact ⟨_, rfl, _, _, _, [], _, [], hW', trodAll_mk1 (shut_bool Tryd.underlying4 _), (trodAll_cons_mk (Below.trod laidOut (by kernel_rfl) (of_decide_eq_true (by kernel_rfl)) k0 bel lt0) (trodAll_cons_mk (shut_string Tryd.underlying9 hb1) trodAll_mk0)), rfl, bel.frame _, fun h => by cases h⟩

noncomputable def laidWorld (os : Os) : World :=
  { World.holding Tryd.prog os ⟨#[], #[], []⟩ with heap := (World.holding Tryd.prog os ⟨#[], #[], []⟩).heap.modify 0 fun
      | .cells _ t frozen => .cells tabCells t frozen
      | o => o }
theorem laid_met (os : Os) : laidMet Tryd.prog Rows.octetHexRow.laid ((laidWorld os).forCall (fun _ _ => 0) ⟨#[], #[.slice none 0 0, .string ByteArray.empty], []⟩).memory :=
  laidMet_of_run' 8 (by kernel_rfl) (by kernel_rfl)
theorem reads (os : Os) {H : Type} (enc : TypeId × Value → H) : ∃ places, DataW.whole enc Tryd.prog ((laidWorld os).forCall (fun _ _ => 0) ⟨#[], #[.slice none 0 0, .string ByteArray.empty], []⟩).memory Tryd.f7.params.toList Rows.octetHexSpec.vars false (#[.slice none 0 0, .string ByteArray.empty] : Array Value).toList 8 = some ([.nil, .lit (.string [])], [], places) :=
  ⟨[], by kernel_rfl⟩

set_option maxRecDepth 100000 in
theorem lifted (os : Os) (started : os.Started) (H : Type) (enc : TypeId × Value → H) (F : Stop.Interp) :
    ReturnsInHanded {} Tryd.checked os 7 .any ((OpenSpec.ofChange Rows.octetHexSpec).preRow enc Tryd.prog Tryd.f7 Rows.octetHexRow.domain false Rows.octetHexRow.laid) (((OpenSpec.ofChange Rows.octetHexSpec).at F).post enc Tryd.prog Tryd.f7 false true false false) := by
  obtain ⟨places, hx⟩ := reads os enc
  refine returnsInHanded_of_row (C := Tryd.checked) (s := OpenSpec.ofChange Rows.octetHexSpec) own started (by kernel_rfl) Tryd.func7
    (witness_row_at (enc := enc) (C := Tryd.checked) false (laidWorld os) #[.slice none 0 0, .string ByteArray.empty] rfl (by kernel_rfl) (by kernel_rfl) (by kernel_rfl)
      (OpenSpec.preRow_of_cond 8 hx (by kernel_rfl) (fun k hk => by cases hk) (by kernel_rfl) (laid_met os))) ?_
  intro W base args ds gs before hval hW _ _ _ hL _ _
  exact contract H enc W base args ds gs before hval hW hL

theorem said : Rows.OctetHexSaid :=
  OpenClaim.holds_of_cond 7 Tryd.f7 rfl rfl rfl rfl rfl rfl rfl ⟨rfl, rfl, rfl, rfl, rfl⟩ rfl rfl rfl rfl rfl (by kernel_rfl) Tryd.func7 (by kernel_rfl)
    (of_decide_eq_true (by kernel_rfl)) (by unfold Func.isWrapper; first | (rw [if_pos (by decide +kernel)]; kernel_rfl) | (rw [if_neg (by decide +kernel)]; exact ⟨rfl, rfl⟩))
    (fun os started H enc _ F => by rw [OpenClaim.pre_eq_preRow]; exact lifted os started H enc F)

/-- No parameter wants a stand-in; the program's own looks are off: what the card asks. -/
theorem plain (f : FuncId) (fn : Func) (hf : Tryd.pinned.checked.prog.funcNamed "speculum/speculumlaw01.OctetHex" = some f) (hfn : Tryd.pinned.checked.prog.funcs[f]? = some fn) :
    false = Tryd.pinned.checked.prog.looks [] ∧ ∀ (j : Nat) t, fn.params[j]? = some t → Tryd.pinned.checked.prog.wantsStandIn t = false := by
  obtain rfl : f = 7 := Option.some.inj ((show Tryd.prog.funcNamed "speculum/speculumlaw01.OctetHex" = some 7 by kernel_rfl).symm.trans hf) |>.symm
  obtain rfl : fn = Tryd.f7 := (Option.some.inj (Tryd.func7.symm.trans hfn)).symm
  refine ⟨by kernel_rfl, fun j t ht => ?_⟩
  rw [Tryd.params7] at ht
  have hm : t ∈ [22, 9] := by simpa using Array.mem_of_getElem? ht
  have hall : ([22, 9].all fun u => !Tryd.prog.wantsStandIn u) = true := by kernel_rfl
  exact (show Tryd.prog.wantsStandIn t = false by simpa using List.all_eq_true.1 hall t hm)

/-- ████ THE CARD ████ -/
theorem card : Rows.OctetHexCardSaid :=
  Claim7.holds_tied_plain_at .later [] _ _ _ _ said (fun _ h => by cases h) (by kernel_rfl) (fun _ h => by cases h) octetHex_row_tie rfl ⟨rfl, rfl⟩ (by kernel_rfl) rfl plain (by kernel_rfl)
end Go.Proofs.YtjfbfboecpbgbaaDoor.OctetHex

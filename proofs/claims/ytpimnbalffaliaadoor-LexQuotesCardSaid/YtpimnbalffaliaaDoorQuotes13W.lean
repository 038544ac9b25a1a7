/-
  P13.3, P13.4: any text in quotes, or that it has none; scanned it is as it was, if the line is not too long.
-/
import Derived.Test.YtpimnbalffaliaaDoorAwake13
import Derived.Test.YtpimnbalffaliaaDoorQuote13
namespace Go.Proofs.YtpimnbalffaliaaDoor
set_option linter.unusedVariables false
set_option linter.unusedSimpArgs false
open Go.RowKit Go.Lib

section
variable (l : List UInt8) (w : World)
set_option maxHeartbeats 1600000 in
theorem quotes_long (hl : 500 < l.length) (hu : UTab w) (ht : Tab w) :
    Calls Tryd.prog 4 #[.string ⟨l.toArray⟩] w fun e w' => e = .returned (.bool true) ∧ Below w.heap.size w w' := by
  have hl2 : (500 : Int) < (l.length : Int) := by omega
  have Q := Lib.hid (awake13_any w hu ht)
  clear hl hu ht
  go_enter Tryd.func4, Tryd.ntmps4
  go_wp2_with fail
  refine Q.out.mono ?_
  rintro e w1 ⟨rfl, hb⟩
  go_wp2_with fail
  go_ret
  exact ⟨rfl, hb⟩
set_option maxHeartbeats 3200000 in
theorem quotes_no (hl : ¬ 500 < l.length) (hr : rightB l = false) (hu : UTab w) (ht : Tab w) (hx : MaxC w) :
    Calls Tryd.prog 4 #[.string ⟨l.toArray⟩] w fun e w' => e = .returned (.bool true) ∧ Below w.heap.size w w' := by
  have hl2 : ¬ (500 : Int) < (l.length : Int) := by omega
  have Q1 := Lib.hid (Quote_any l w (by omega) hu hx)
  have Q2 := fun w => Lib.hid (RefQuote_any l w (by omega))
  have e : retQ l = .tuple #[.string ⟨#[]⟩, .bool false] := by unfold retQ; rw [hr]; rfl
  rw [e] at Q1 Q2
  have HU := Lib.hid (fun (w' : World) (hb : Below w.heap.size w w') => hu.below hb)
  have HT := Lib.hid (fun (w' : World) (hb : Below w.heap.size w w') => ht.below hb ht.lt)
  clear hl hu ht hx e hr
  go_enter Tryd.func4, Tryd.ntmps4
  go_wp2_with fail
  refine Q1.out.mono ?_
  rintro e w1 ⟨rfl, hb⟩
  go_wp2_with fail
  refine (Q2 _).out.mono ?_
  rintro e w2 ⟨rfl, hb2⟩
  replace hb := hb.trans (hb2.mono hb.size)
  clear hb2
  have Q3 := Lib.hid (awake13_any w2 (HU.out _ hb) (HT.out _ hb))
  go_wp2_with fail
  refine Q3.out.mono ?_
  rintro e w3 ⟨rfl, hb3⟩
  go_wp2_with fail
  go_ret
  exact ⟨rfl, hb.trans (hb3.mono hb.size)⟩
set_option maxHeartbeats 3200000 in
theorem quotes_far (hl : ¬ 500 < l.length) (hr : rightB l = true) (hq : 200 < (quoteL l).length) (hu : UTab w) (ht : Tab w) (hx : MaxC w) :
    Calls Tryd.prog 4 #[.string ⟨l.toArray⟩] w fun e w' => e = .returned (.bool true) ∧ Below w.heap.size w w' := by
  have hl2 : ¬ (500 : Int) < (l.length : Int) := by omega
  have hq2 : (200 : Int) < ((quoteL l).length : Int) := by omega
  have Q1 := Lib.hid (Quote_any l w (by omega) hu hx)
  have Q2 := fun w => Lib.hid (RefQuote_any l w (by omega))
  have e : retQ l = .tuple #[.string ⟨(quoteL l).toArray⟩, .bool true] := by unfold retQ; rw [hr]; rfl
  have es := scan_quote l hr
  rw [if_pos hq] at es
  rw [e] at Q1 Q2
  have HU := Lib.hid (fun (w' : World) (hb : Below w.heap.size w w') => hu.below hb)
  have HT := Lib.hid (fun (w' : World) (hb : Below w.heap.size w w') => ht.below hb ht.lt)
  have QS := fun w hu ht => Lib.hid (Scan_any (quoteL l) w hu ht)
  rw [es] at QS
  generalize quoteL l = K at Q1 Q2 QS hq2 hq es e
  clear hl hu ht hx e hr es hq
  go_enter Tryd.func4, Tryd.ntmps4
  go_wp2_with fail
  refine Q1.out.mono ?_
  rintro e w1 ⟨rfl, hb⟩
  go_wp2_with fail
  refine (Q2 _).out.mono ?_
  rintro e w2 ⟨rfl, hb2⟩
  replace hb := hb.trans (hb2.mono hb.size)
  clear hb2
  have HB := Lib.hid hb
  go_wp2_with fail
  refine (QS _ (HU.out _ HB.out) (HT.out _ HB.out)).out.mono ?_
  rintro e w3 ⟨v, rfl, hv, hb3⟩
  have HB3 := Lib.hid (HB.out.trans (hb3.mono HB.out.size))
  obtain ⟨Av, cv, rfl, _⟩ := hv.form
  clear hv hb3 hb
  have Q3 := Lib.hid (awake13_any w3 (HU.out _ HB3.out) (HT.out _ HB3.out))
  go_wp2_with fail
  refine Q3.out.mono ?_
  rintro e w4 ⟨rfl, hb4⟩
  go_wp2_with fail
  go_ret
  exact ⟨rfl, HB3.out.trans (hb4.mono HB3.out.size)⟩
set_option maxHeartbeats 3200000 in
theorem quotes_near (hl : ¬ 500 < l.length) (hr : rightB l = true) (hq : ¬ 200 < (quoteL l).length) (hu : UTab w) (ht : Tab w) (hx : MaxC w) :
    Calls Tryd.prog 4 #[.string ⟨l.toArray⟩] w fun e w' => e = .returned (.bool true) ∧ Below w.heap.size w w' := by
  have hl2 : ¬ (500 : Int) < (l.length : Int) := by omega
  have hq2 : ¬ (200 : Int) < ((quoteL l).length : Int) := by omega
  have Q1 := Lib.hid (Quote_any l w (by omega) hu hx)
  have Q2 := fun w => Lib.hid (RefQuote_any l w (by omega))
  have e : retQ l = .tuple #[.string ⟨(quoteL l).toArray⟩, .bool true] := by unfold retQ; rw [hr]; rfl
  have es := scan_quote l hr
  rw [if_neg hq] at es
  rw [e] at Q1 Q2
  have HU := Lib.hid (fun (w' : World) (hb : Below w.heap.size w w') => hu.below hb)
  have HT := Lib.hid (fun (w' : World) (hb : Below w.heap.size w w') => ht.below hb ht.lt)
  have QS := fun w hu ht => Lib.hid (Scan_any (quoteL l) w hu ht)
  rw [es] at QS
  generalize quoteL l = K at Q1 Q2 QS hq2 hq es e
  have QA := fun w => Lib.hid (AsQuoted_any (.quoted l) w)
  simp only [Dyn.val, Dyn.asQuoted] at QA
  clear hl hu ht hx e hr es hq
  go_enter Tryd.func4, Tryd.ntmps4
  go_wp2_with fail
  refine Q1.out.mono ?_
  rintro e w1 ⟨rfl, hb⟩
  go_wp2_with fail
  refine (Q2 _).out.mono ?_
  rintro e w2 ⟨rfl, hb2⟩
  replace hb := hb.trans (hb2.mono hb.size)
  clear hb2
  have HB := Lib.hid hb
  go_wp2_with fail
  refine (QS _ (HU.out _ HB.out) (HT.out _ HB.out)).out.mono ?_
  rintro e w3 ⟨v, rfl, hv, hb3⟩
  have HB3 := Lib.hid (HB.out.trans (hb3.mono HB.out.size))
  obtain ⟨g, off, c, rfl, h1, h2, h3, h4, hc0, hf⟩ := hv.cell (k := 0) rfl
  simp only [dyns, List.map, Tok.dyn, Dyn.val, List.length_cons, List.length_nil, if_true, Nat.add_zero, show ¬ (3 : Nat) = 1 by decide, show ¬ (3 : Nat) = 2 by decide, if_false] at hc0 ⊢
  clear hv hb3 hb hf h1 h2 h3
  go_wp2_with fail
  refine (QA _).out.mono ?_
  rintro e w5 ⟨rfl, rfl⟩
  have Q3 := Lib.hid (awake13_any w3 (HU.out _ HB3.out) (HT.out _ HB3.out))
  go_wp2_with fail
  refine Q3.out.mono ?_
  rintro e w4 ⟨rfl, hb4⟩
  go_wp2_with fail
  go_ret
  exact ⟨rfl, HB3.out.trans (hb4.mono HB3.out.size)⟩
theorem quotes_walk (hm : l.length ≤ maxLen) (hu : UTab w) (ht : Tab w) (hx : MaxC w) :
    Calls Tryd.prog 4 #[.string ⟨l.toArray⟩] w fun e w' => e = .returned (.bool true) ∧ Below w.heap.size w w' := by
  by_cases hl : 500 < l.length
  · exact quotes_long l w hl hu ht
  · cases hr : rightB l with
    | false => exact quotes_no l w hl hr hu ht hx
    | true =>
      by_cases hq : 200 < (quoteL l).length
      · exact quotes_far l w hl hr hq hu ht hx
      · exact quotes_near l w hl hr hq hu ht hx
end
end Go.Proofs.YtpimnbalffaliaaDoor

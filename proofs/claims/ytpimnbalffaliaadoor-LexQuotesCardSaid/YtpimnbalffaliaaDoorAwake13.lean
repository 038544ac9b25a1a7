/-
  The example that each statement of this layer asks for.
-/
import Derived.Test.YtpimnbalffaliaaDoorScanP13
namespace Go.Proofs.YtpimnbalffaliaaDoor
set_option linter.unusedVariables false
set_option linter.unusedSimpArgs false
open Go.RowKit Go.Lib

/-- show 12 "a b" -/
def lineA : List UInt8 := [115, 104, 111, 119, 32, 49, 50, 32, 34, 97, 32, 98, 34]
theorem dec12' : dec 12 = [49, 50] := by rw [dec_step (by decide), dec_small (by decide)]; rfl
theorem plain12 : plainT [49, 50] = ⟨2, [], 12⟩ := by
  unfold plainT
  rw [intSpec_of dec12' (by decide)]
  rfl
theorem plainShow : plainT [115, 104, 111, 119] = ⟨1, [115, 104, 111, 119], 0⟩ := by
  unfold plainT
  rw [intSpec_none_dig (k := 0) (by decide) (by unfold isDig; decide)]
theorem rightA : rightB lineA = true := by decide
theorem scanA : scanL lineA = ([⟨1, [115, 104, 111, 119], 0⟩, ⟨2, [], 12⟩, ⟨3, [97, 32, 98], 0⟩], 0) := by
  have e : scanF lineA = ⟨[plainT [115, 104, 111, 119], plainT [49, 50], ⟨3, [97, 32, 98], 0⟩], [], 0⟩ := by rfl
  unfold scanL
  rw [rightA, e, plain12, plainShow]
  rfl
set_option maxHeartbeats 3200000 in
theorem awake13_any (w : World) (hu : UTab w) (ht : Tab w) :
    Calls Tryd.prog 7 #[] w fun e w' => e = .returned (.bool true) ∧ Below w.heap.size w w' := by
  have q := Scan_any lineA w hu ht
  rw [scanA] at q
  have Q := Lib.hid q
  clear q hu ht
  have QW := fun w => Lib.hid (MustWord_any [115, 104, 111, 119] w)
  have QN := fun w => Lib.hid (MustNum_any 12 w)
  have QK := fun w => Lib.hid (Kind_any (.quoted [97, 32, 98]) w)
  have QL := fun w => Lib.hid (Kind_any .nil w)
  simp only [Dyn.val, Dyn.tok] at QW QN QK QL
  go_enter Tryd.func7, Tryd.ntmps7
  go_wp2_with fail
  refine Q.out.mono ?_
  rintro e w1 ⟨v, rfl, hv, hb⟩
  obtain ⟨g, off, c, rfl, h1, h2, h3, h4, hc0, hf⟩ := hv.cell (k := 0) rfl
  obtain ⟨g', off', c', e1, _, _, _, _, hc1, _⟩ := hv.cell (k := 1) rfl
  cases e1
  obtain ⟨g', off', c', e1, _, _, _, _, hc2, _⟩ := hv.cell (k := 2) rfl
  cases e1
  simp only [dyns, List.map, Tok.dyn, Dyn.val, List.length_cons, List.length_nil, if_true, Nat.add_zero, show ¬ (2 : Nat) = 1 by decide, show ¬ (3 : Nat) = 1 by decide, show ¬ (3 : Nat) = 2 by decide, if_false] at hc0 hc1 hc2 ⊢
  clear hv hf h1 h2 h3
  go_wp2_with fail
  refine (QW _).out.mono ?_
  rintro e w2 ⟨rfl, rfl⟩
  go_wp2_with fail
  refine (QN _).out.mono ?_
  rintro e w2 ⟨rfl, rfl⟩
  go_wp2_with fail
  refine (QK _).out.mono ?_
  rintro e w2 ⟨rfl, hb2⟩
  replace hb := hb.trans (hb2.mono hb.size)
  clear hb2 hc0 hc1 hc2
  go_wp2_with fail
  refine (QL _).out.mono ?_
  rintro e w3 ⟨rfl, hb2⟩
  replace hb := hb.trans (hb2.mono hb.size)
  go_wp2_with fail
  go_ret
  exact ⟨rfl, hb⟩
end Go.Proofs.YtpimnbalffaliaaDoor

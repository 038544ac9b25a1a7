/-
  P13.1, P13.2: the words of any line, or why it has none.
-/
import Derived.Test.YtpimnbalffaliaaDoorAwake13
import Derived.Test.YtpimnbalffaliaaDoorRefScan13
import Derived.Test.YtpimnbalffaliaaDoorSame13
namespace Go.Proofs.YtpimnbalffaliaaDoor
set_option linter.unusedVariables false
set_option linter.unusedSimpArgs false
open Go.RowKit Go.Lib

/-- A word that is what it is told as. -/
def GoodT (t : Tok) : Prop := t.dyn.tok = t
theorem plain_good (t : List UInt8) : GoodT (plainT t) := by
  unfold GoodT plainT
  cases intSpec t <;> rfl
theorem step_good (s : Sc) (c : Nat) (b : List UInt8) (h : ∀ t ∈ s.words, GoodT t) : ∀ t ∈ (stepR s c b).words, GoodT t := by
  unfold stepR Sc.put Sc.to Sc.ends
  repeat' split
  all_goals first
    | exact h
    | (intro t ht
       rcases List.mem_append.1 ht with ht | ht
       · exact h t ht
       · simp at ht
         subst ht
         first | exact plain_good _ | rfl)
theorem fold_good : ∀ (l : List UInt8) (s : Sc), (∀ t ∈ s.words, GoodT t) → ∀ t ∈ (l.foldl stepB s).words, GoodT t
  | [], s, h => h
  | x :: l, s, h => fold_good l (stepB s x) (step_good s _ _ h)
theorem scan_good (l : List UInt8) : ∀ t ∈ (scanL l).1, GoodT t := by
  unfold scanL finS
  repeat' split
  · simp
  · exact fold_good _ _ (by simp)
  · simp
  · simp
theorem scan_toks (l : List UInt8) : ((scanL l).1.map Tok.dyn).map Dyn.tok = (scanL l).1 := by
  rw [List.map_map]
  conv => rhs; rw [← List.map_id (scanL l).1]
  exact List.map_congr_left fun t ht => scan_good l t ht
theorem dyns_map (L : List Tok) : dyns L = (L.map Tok.dyn).map Dyn.val := by unfold dyns; rw [List.map_map]; rfl
theorem scan_len (l : List UInt8) (h : l.length ≤ 500) : (scanL l).1.length ≤ 1000 := by
  unfold scanL finS
  repeat' split
  · simp
  · have h2 := (fold_len (l ++ [32]) ⟨[], [], 0⟩).2
    rw [List.length_append] at h2
    refine Nat.le_trans h2 ?_
    show 0 + (l.length + 1) ≤ 1000
    omega
  · simp
  · simp

set_option maxHeartbeats 6400000 in
theorem scans_walk (l : List UInt8) (w : World) (hm : l.length ≤ maxLen) (hu : UTab w) (ht : Tab w) :
    Calls Tryd.prog 3 #[.string ⟨l.toArray⟩] w fun e w' => e = .returned (.bool true) ∧ Below w.heap.size w w' := by
  unfold maxLen at hm
  have HU := Lib.hid (fun (w' : World) (hb : Below w.heap.size w w') => hu.below hb)
  have HT := Lib.hid (fun (w' : World) (hb : Below w.heap.size w w') => ht.below hb ht.lt)
  clear hu ht
  by_cases hl : 500 < l.length
  · have hl2 : (500 : Int) < (l.length : Int) := by omega
    have Q := Lib.hid (awake13_any w (HU.out _ (Below.refl _ _)) (HT.out _ (Below.refl _ _)))
    clear hl HU HT
    go_enter Tryd.func3, Tryd.ntmps3
    go_wp2_with fail
    refine Q.out.mono ?_
    rintro e w1 ⟨rfl, hb⟩
    go_wp2_with fail
    go_ret
    exact ⟨rfl, hb⟩
  · have hl2 : ¬ (500 : Int) < (l.length : Int) := by omega
    have Q1 := Lib.hid (Scan_any l w (HU.out _ (Below.refl _ _)) (HT.out _ (Below.refl _ _)))
    have Q2 := fun w => Lib.hid (RefScan_any l w)
    have HTK := Lib.hid (scan_toks l)
    have HLN := Lib.hid (scan_len l (by omega))
    generalize scanL l = r at Q1 Q2 HTK HLN
    clear hl
    obtain ⟨L, k⟩ := r
    dsimp only at HTK HLN
    go_enter Tryd.func3, Tryd.ntmps3
    go_wp2_with fail
    refine Q1.out.mono ?_
    rintro e w1 ⟨v, rfl, hv, hb1⟩
    have HV := Lib.hid hv; have HB1 := Lib.hid hb1
    clear hv hb1 Q1
    dsimp only
    go_wp2_with fail
    refine (Q2 _).out.mono ?_
    rintro e w2 ⟨A, c, rfl, ho, hb2⟩
    dsimp only at ho ⊢
    have HO := Lib.hid ho
    have HB2 := Lib.hid (HB1.out.trans (hb2.mono HB1.out.size))
    have hv2 := HV.out.below hb2
    rw [dyns_map] at hv2
    have q := Tokens_any v (L.map Tok.dyn) w2 w.heap.size hv2 (by rw [List.length_map]; exact HLN.out)
    rw [HTK.out, List.length_map] at q
    have Q3 := Lib.hid q
    have kk : ((k : Int) == (k : Int)) = true := by simp
    clear q ho hb2 hv2 Q2
    obtain ⟨Av, cv, rfl, _⟩ := HV.out.form
    go_wp2_with fail
    refine Q3.out.mono ?_
    rintro e w3 ⟨A3, c3, rfl, ho3, hb3⟩
    have HO2 := Lib.hid (HO.out.below hb3)
    have HB3 := Lib.hid (HB2.out.trans (hb3.mono HB2.out.size))
    have q := Same13_any A3 A c3 c L L w3 _ _ ho3 HO2.out HLN.out
    rw [decide_eq_true (rfl : L = L)] at q
    have Q4 := Lib.hid q
    clear q ho3 hb3 Q3
    go_wp2_with fail
    refine Q4.out.mono ?_
    rintro e w4 ⟨rfl, hb4⟩
    have HB4 := Lib.hid (HB3.out.trans (hb4.mono HB3.out.size))
    clear hb4 Q4
    have Q5 := Lib.hid (awake13_any w4 (HU.out _ HB4.out) (HT.out _ HB4.out))
    go_wp2_with fail
    refine Q5.out.mono ?_
    rintro e w5 ⟨rfl, hb5⟩
    go_wp2_with fail
    go_ret
    exact ⟨rfl, HB4.out.trans (hb5.mono HB4.out.size)⟩
end Go.Proofs.YtpimnbalffaliaaDoor

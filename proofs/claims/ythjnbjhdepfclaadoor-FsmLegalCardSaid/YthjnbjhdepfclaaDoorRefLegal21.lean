/-
  Whether a step is one of the table, by the document.
-/
import Derived.Test.YthjnbjhdepfclaaDoorLegal21
namespace Go.Proofs.YthjnbjhdepfclaaDoor
set_option linter.unusedVariables false
set_option linter.unusedSimpArgs false
open Go.RowKit

/-- At most one of the bits that send. -/
def oneB (e s : Nat) : Bool := decide ((deN e s &&& 4 = 0 ∧ deN e s &&& 8 = 0 ∧ deN e s &&& 16 = 0) ∨ (deN e s &&& 4 ≠ 0 ∧ deN e s &&& 8 = 0 ∧ deN e s &&& 16 = 0) ∨ (deN e s &&& 4 = 0 ∧ deN e s &&& 8 ≠ 0 ∧ deN e s &&& 16 = 0) ∨ (deN e s &&& 4 = 0 ∧ deN e s &&& 8 = 0 ∧ deN e s &&& 16 ≠ 0))
theorem ones_ok : ((List.range 16).all fun e => (List.range 6).all fun s => oneB e s) = true := by decide +kernel
theorem one_ok {e s : Nat} (he : e < 16) (hs : s < 6) : (deN e s &&& 4 = 0 ∧ deN e s &&& 8 = 0 ∧ deN e s &&& 16 = 0) ∨ (deN e s &&& 4 ≠ 0 ∧ deN e s &&& 8 = 0 ∧ deN e s &&& 16 = 0) ∨ (deN e s &&& 4 = 0 ∧ deN e s &&& 8 ≠ 0 ∧ deN e s &&& 16 = 0) ∨ (deN e s &&& 4 = 0 ∧ deN e s &&& 8 = 0 ∧ deN e s &&& 16 ≠ 0) := by
  have h := List.all_eq_true.1 (List.all_eq_true.1 ones_ok e (List.mem_range.2 he)) s (List.mem_range.2 hs)
  unfold oneB at h
  exact of_decide_eq_true h
def LegRel (w4 : World) (n : Nat) (p : Prop) (i : Value) (wr : World) : Prop := ∃ (j m : Nat), wr = w4.drewN m ∧ j ≤ n ∧ i = .int .i64 (j : Int) ∧ Hid (j = 1 → p)
set_option maxRecDepth 100000 in
set_option maxHeartbeats 3200000 in
theorem RefLegal_oa (E F : Int) (T C S : Int) (Z : Option Addr) (zp : Nat) (z : List Int) (A : Option Addr) (c : Nat) (l : List UInt8) (w : World) (h : F < 0) :
    Calls Tryd.prog 16 #[.agg #[.int .i64 E, .int .i64 F, .int .i64 T, .slice Z z.length zp, .int .i64 C, .int .i64 S, .slice A l.length c]] w fun r w' => r = .returned (.bool false) ∧ Below w.heap.size w w' := by
  have c0 := cells7 (Blk.new w 35 [.int .i64 E, .int .i64 F, .int .i64 T, .slice Z z.length zp, .int .i64 C, .int .i64 S, .slice A l.length c])
  have HB0 := Lib.hid (show Below w.heap.size w (w.alloc (.cells #[.int .i64 E, .int .i64 F, .int .i64 T, .slice Z z.length zp, .int .i64 C, .int .i64 S, .slice A l.length c] 35)) from (Below.refl _ _).alloc (Nat.le_refl _) _)
  go_enter Tryd.func16, Tryd.ntmps16
  go_wp2_with fail
  go_ret
  exact ⟨rfl, HB0.out⟩
set_option maxRecDepth 100000 in
set_option maxHeartbeats 3200000 in
theorem RefLegal_ob (E F : Int) (T C S : Int) (Z : Option Addr) (zp : Nat) (z : List Int) (A : Option Addr) (c : Nat) (l : List UInt8) (w : World) (h : 5 < F) :
    Calls Tryd.prog 16 #[.agg #[.int .i64 E, .int .i64 F, .int .i64 T, .slice Z z.length zp, .int .i64 C, .int .i64 S, .slice A l.length c]] w fun r w' => r = .returned (.bool false) ∧ Below w.heap.size w w' := by
  have c0 := cells7 (Blk.new w 35 [.int .i64 E, .int .i64 F, .int .i64 T, .slice Z z.length zp, .int .i64 C, .int .i64 S, .slice A l.length c])
  have HB0 := Lib.hid (show Below w.heap.size w (w.alloc (.cells #[.int .i64 E, .int .i64 F, .int .i64 T, .slice Z z.length zp, .int .i64 C, .int .i64 S, .slice A l.length c] 35)) from (Below.refl _ _).alloc (Nat.le_refl _) _)
  have h0 : ¬ F < 0 := by omega
  go_enter Tryd.func16, Tryd.ntmps16
  go_wp2_with fail
  go_ret
  exact ⟨rfl, HB0.out⟩
set_option maxRecDepth 100000 in
set_option maxHeartbeats 3200000 in
theorem RefLegal_oc (E F : Int) (T C S : Int) (Z : Option Addr) (zp : Nat) (z : List Int) (A : Option Addr) (c : Nat) (l : List UInt8) (w : World) (hf0 : ¬ F < 0) (hf5 : ¬ 5 < F) (h : E < 0) :
    Calls Tryd.prog 16 #[.agg #[.int .i64 E, .int .i64 F, .int .i64 T, .slice Z z.length zp, .int .i64 C, .int .i64 S, .slice A l.length c]] w fun r w' => r = .returned (.bool false) ∧ Below w.heap.size w w' := by
  have c0 := cells7 (Blk.new w 35 [.int .i64 E, .int .i64 F, .int .i64 T, .slice Z z.length zp, .int .i64 C, .int .i64 S, .slice A l.length c])
  have HB0 := Lib.hid (show Below w.heap.size w (w.alloc (.cells #[.int .i64 E, .int .i64 F, .int .i64 T, .slice Z z.length zp, .int .i64 C, .int .i64 S, .slice A l.length c] 35)) from (Below.refl _ _).alloc (Nat.le_refl _) _)
  have h0 : decide (F < 0) = false := by simpa using hf0
  have h1 : decide (5 < F) = false := by simpa using hf5
  go_enter Tryd.func16, Tryd.ntmps16
  go_wp2_with fail
  go_ret
  exact ⟨rfl, HB0.out⟩
set_option maxRecDepth 100000 in
set_option maxHeartbeats 3200000 in
theorem RefLegal_od (E F : Int) (T C S : Int) (Z : Option Addr) (zp : Nat) (z : List Int) (A : Option Addr) (c : Nat) (l : List UInt8) (w : World) (hf0 : ¬ F < 0) (hf5 : ¬ 5 < F) (h : 15 < E) :
    Calls Tryd.prog 16 #[.agg #[.int .i64 E, .int .i64 F, .int .i64 T, .slice Z z.length zp, .int .i64 C, .int .i64 S, .slice A l.length c]] w fun r w' => r = .returned (.bool false) ∧ Below w.heap.size w w' := by
  have c0 := cells7 (Blk.new w 35 [.int .i64 E, .int .i64 F, .int .i64 T, .slice Z z.length zp, .int .i64 C, .int .i64 S, .slice A l.length c])
  have HB0 := Lib.hid (show Below w.heap.size w (w.alloc (.cells #[.int .i64 E, .int .i64 F, .int .i64 T, .slice Z z.length zp, .int .i64 C, .int .i64 S, .slice A l.length c] 35)) from (Below.refl _ _).alloc (Nat.le_refl _) _)
  have h0 : decide (F < 0) = false := by simpa using hf0
  have h1 : decide (5 < F) = false := by simpa using hf5
  have h2 : ¬ E < 0 := by omega
  go_enter Tryd.func16, Tryd.ntmps16
  go_wp2_with fail
  go_ret
  exact ⟨rfl, HB0.out⟩
theorem RefLegal_out (E F : Int) (T C S : Int) (Z : Option Addr) (zp : Nat) (z : List Int) (A : Option Addr) (c : Nat) (l : List UInt8) (w : World) (h : F < 0 ∨ 6 ≤ F ∨ E < 0 ∨ 16 ≤ E) :
    Calls Tryd.prog 16 #[.agg #[.int .i64 E, .int .i64 F, .int .i64 T, .slice Z z.length zp, .int .i64 C, .int .i64 S, .slice A l.length c]] w fun r w' => r = .returned (.bool false) ∧ Below w.heap.size w w' := by
  by_cases h0 : F < 0
  · exact RefLegal_oa E F T C S Z zp z A c l w h0
  by_cases h5 : 5 < F
  · exact RefLegal_ob E F T C S Z zp z A c l w h5
  by_cases he : E < 0
  · exact RefLegal_oc E F T C S Z zp z A c l w h0 h5 he
  · exact RefLegal_od E F T C S Z zp z A c l w h0 h5 (by omega)
set_option maxRecDepth 100000 in
set_option maxHeartbeats 12800000 in
theorem RefLegal_0 (e f U0 : Nat) (T C S : Int) (Z : Option Addr) (zp : Nat) (z : List Int) (A : Option Addr) (c : Nat) (l : List UInt8) (w : World) (hy : Bytes w A l) (hl : l.length ≤ c) (hm : c ≤ maxLen) (hz : IntsAt w w.heap.size Z z) (hzl : z.length ≤ 10) (hl5 : l.length ≤ 500) (ht : TabF w) (he : e < 16) (hf : f < 6) (hU0 : U0 = deN e f) (h4 : U0 &&& 4 = 0) (h8 : U0 &&& 8 = 0) (h16 : U0 &&& 16 = 0) :
    Calls Tryd.prog 16 #[.agg #[.int .i64 (e : Int), .int .i64 (f : Int), .int .i64 T, .slice Z z.length zp, .int .i64 C, .int .i64 S, .slice A l.length c]] w fun r w' => r = .returned (.bool (legalIn e f T z C S l)) ∧ Below w.heap.size w w' := by
  have HSN := Lib.hid (show sentN (deN e f) 3 = [] by
    rw [← hU0]
    show (sent1 U0 4 1 ++ sent1 U0 8 4) ++ sent1 U0 16 3 = _
    unfold sent1
    rw [if_neg (fun q => q h4), if_neg (fun q => q h8), if_neg (fun q => q h16)]
    rfl)
  have k0 := Blk.new w 35 [.int .i64 (e : Int), .int .i64 (f : Int), .int .i64 T, .slice Z z.length zp, .int .i64 C, .int .i64 S, .slice A l.length c]
  obtain ⟨W1, hW1⟩ : ∃ W1, W1 = w.alloc (.cells #[.int .i64 (e : Int), .int .i64 (f : Int), .int .i64 T, .slice Z z.length zp, .int .i64 C, .int .i64 S, .slice A l.length c] 35) := ⟨_, rfl⟩
  have hb0 : Below w.heap.size w W1 := by rw [hW1]; exact (Below.refl _ _).alloc (Nat.le_refl _) _
  have hk : Blk W1 w.heap.size 35 [.int .i64 (e : Int), .int .i64 (f : Int), .int .i64 T, .slice Z z.length zp, .int .i64 C, .int .i64 S, .slice A l.length c] := by rw [hW1]; exact k0
  have HW := Lib.hid hW1
  have HB0 := Lib.hid hb0
  have HC := Lib.hid (fun W (q : Below W1.heap.size W1 W) => cells7 (hk.below q hk.lt))
  have c0 := cells7 k0
  have hf0 : ¬ (f : Int) < 0 := by omega
  have hf5 : ¬ 5 < (f : Int) := by omega
  have he0 : ¬ (e : Int) < 0 := by omega
  have he15 : ¬ 15 < (e : Int) := by omega
  have QT := Lib.hid (RefStep_in e f W1 he hf)
  have QH4 := Lib.hid (fun W => Has_4 U0 W (by rw [hU0]; exact de_lt he hf))
  have QH8 := Lib.hid (fun W => Has_8 U0 W (by rw [hU0]; exact de_lt he hf))
  have QH16 := Lib.hid (fun W => Has_16 U0 W (by rw [hU0]; exact de_lt he hf))
  rw [show decide (U0 &&& 4 ≠ 0) = false from decide_eq_false (fun q => q h4)] at QH4
  rw [show decide (U0 &&& 8 ≠ 0) = false from decide_eq_false (fun q => q h8)] at QH8
  rw [show decide (U0 &&& 16 ≠ 0) = false from decide_eq_false (fun q => q h16)] at QH16
  have HZ := Lib.hid (hz.go hb0)
  have HY := Lib.hid (show Bytes W1 A l from At.lift (At.below hy hb0 (Nat.le_refl _)) hb0.size)
  have HBW := Lib.hid (fun W (q : Below W1.heap.size W1 W) => hb0.trans (q.mono hb0.size))
  have HLT := Lib.hid (@legal_T e f T z C S l)
  have HLZ := Lib.hid (@legal_z e f T z C S l)
  have HL0 := Lib.hid (fun (h : T = (toN e f : Int)) (hz : z = sentN (deN e f) 3) => @legal_0 e f T z C S l h hz (by rw [← hU0]; exact h16))
  have HM := Lib.hid hm; have HLC := Lib.hid hl
  rw [HSN.out] at HLZ HL0
  obtain ⟨TT, hTT⟩ : ∃ n, n = toN e f := ⟨_, rfl⟩
  obtain ⟨B, hB⟩ : ∃ b, b = legalIn e f T z C S l := ⟨_, rfl⟩
  rw [← hTT, ← hU0] at QT
  rw [← hTT] at HLT HL0
  rw [← hB] at HLT HLZ HL0 ⊢
  rw [HW.out] at QT
  clear hTT hB hU0 hb0 hk k0 hW1 hy hz ht hzl hl5 hm hl h4 h8 h16
  go_enter Tryd.func16, Tryd.ntmps16
  go_wp2_with fail
  refine QT.out.mono ?_
  rintro r w2 ⟨rfl, hb2⟩
  rw [← HW.out] at hb2 c0
  have HBC := Lib.hid hb2
  clear hb2
  have HCN := HC.out _ HBC.out
  clear c0
  go_wp2_with fail
  refine (QH4.out _).mono ?_
  rintro r w' ⟨rfl, rfl⟩
  go_wp2_with fail
  refine (QH8.out _).mono ?_
  rintro r w' ⟨rfl, rfl⟩
  go_wp2_with fail
  refine (QH16.out _).mono ?_
  rintro r w' ⟨rfl, rfl⟩
  obtain ⟨w4, hw4⟩ : ∃ W, W = w2 := ⟨_, rfl⟩
  rw [← hw4] at HCN HBC ⊢
  have HBC4 := HBC
  clear hw4
  by_cases hT : T = (TT : Int)
  · have d1 : (T != (TT : Int)) = false := by simpa using hT
    have HTT := Lib.hid hT
    clear hT
    by_cases hzn : z.length = 0
    · obtain rfl : z = [] := List.eq_nil_of_length_eq_zero hzn
      clear hzn
      go_wp2_with fail
      go_loopw [6] (fun i wr => LegRel w4 0 True i wr) (fun i _ => 0 - (intOf i).toNat)
      case atStart => exact ⟨0, 0, rfl, by omega, rfl, Lib.hid (fun q => by cases q)⟩
      case round =>
        obtain ⟨j, m, rfl, hj, rfl, HP⟩ := hrel
        obtain rfl : j = 0 := by omega
        have HZE := Lib.hid (show ([] : List Int) = [] from rfl)
        have HE := Lib.hid (HL0.out HTT.out (by first | exact HZE.out | exact True.intro))
        have HBD := Lib.hid (below_drewN HBC4.out m)
        go_wp2_with fail
        refine (QH16.out _).mono ?_
        rintro r w' ⟨rfl, rfl⟩
        go_wp2_with fail
        go_ret
        exact ⟨by rw [HE.out]; rfl, HBW.out _ HBD.out⟩
    · have HE := Lib.hid (HLZ.out (fun q => hzn (by rw [q]; rfl)))
      have d2 : ((0 : Int) != (z.length : Int)) = true := by simpa using (show ¬ (0 : Int) = (z.length : Int) by omega)
      clear hzn
      go_wp2_with fail
      go_ret
      exact ⟨by rw [HE.out]; rfl, HBW.out _ HBC4.out⟩
  · have d1 : (T != (TT : Int)) = true := by simpa using hT
    have HE := Lib.hid (HLT.out hT)
    clear hT
    go_wp2_with fail
    go_ret
    exact ⟨by rw [HE.out]; rfl, HBW.out _ HBC4.out⟩
set_option maxRecDepth 100000 in
set_option maxHeartbeats 12800000 in
theorem RefLegal_4 (e f U0 : Nat) (T C S : Int) (Z : Option Addr) (zp : Nat) (z : List Int) (A : Option Addr) (c : Nat) (l : List UInt8) (w : World) (hy : Bytes w A l) (hl : l.length ≤ c) (hm : c ≤ maxLen) (hz : IntsAt w w.heap.size Z z) (hzl : z.length ≤ 10) (hl5 : l.length ≤ 500) (ht : TabF w) (he : e < 16) (hf : f < 6) (hU0 : U0 = deN e f) (h4 : U0 &&& 4 ≠ 0) (h8 : U0 &&& 8 = 0) (h16 : U0 &&& 16 = 0) :
    Calls Tryd.prog 16 #[.agg #[.int .i64 (e : Int), .int .i64 (f : Int), .int .i64 T, .slice Z z.length zp, .int .i64 C, .int .i64 S, .slice A l.length c]] w fun r w' => r = .returned (.bool (legalIn e f T z C S l)) ∧ Below w.heap.size w w' := by
  have HSN := Lib.hid (show sentN (deN e f) 3 = [1] by
    rw [← hU0]
    show (sent1 U0 4 1 ++ sent1 U0 8 4) ++ sent1 U0 16 3 = _
    unfold sent1
    rw [if_pos h4, if_neg (fun q => q h8), if_neg (fun q => q h16)]
    rfl)
  have k0 := Blk.new w 35 [.int .i64 (e : Int), .int .i64 (f : Int), .int .i64 T, .slice Z z.length zp, .int .i64 C, .int .i64 S, .slice A l.length c]
  obtain ⟨W1, hW1⟩ : ∃ W1, W1 = w.alloc (.cells #[.int .i64 (e : Int), .int .i64 (f : Int), .int .i64 T, .slice Z z.length zp, .int .i64 C, .int .i64 S, .slice A l.length c] 35) := ⟨_, rfl⟩
  have hb0 : Below w.heap.size w W1 := by rw [hW1]; exact (Below.refl _ _).alloc (Nat.le_refl _) _
  have hk : Blk W1 w.heap.size 35 [.int .i64 (e : Int), .int .i64 (f : Int), .int .i64 T, .slice Z z.length zp, .int .i64 C, .int .i64 S, .slice A l.length c] := by rw [hW1]; exact k0
  have HW := Lib.hid hW1
  have HB0 := Lib.hid hb0
  have HC := Lib.hid (fun W (q : Below W1.heap.size W1 W) => cells7 (hk.below q hk.lt))
  have c0 := cells7 k0
  have hf0 : ¬ (f : Int) < 0 := by omega
  have hf5 : ¬ 5 < (f : Int) := by omega
  have he0 : ¬ (e : Int) < 0 := by omega
  have he15 : ¬ 15 < (e : Int) := by omega
  have QT := Lib.hid (RefStep_in e f W1 he hf)
  have QH4 := Lib.hid (fun W => Has_4 U0 W (by rw [hU0]; exact de_lt he hf))
  have QH8 := Lib.hid (fun W => Has_8 U0 W (by rw [hU0]; exact de_lt he hf))
  have QH16 := Lib.hid (fun W => Has_16 U0 W (by rw [hU0]; exact de_lt he hf))
  rw [show decide (U0 &&& 4 ≠ 0) = true from decide_eq_true h4] at QH4
  rw [show decide (U0 &&& 8 ≠ 0) = false from decide_eq_false (fun q => q h8)] at QH8
  rw [show decide (U0 &&& 16 ≠ 0) = false from decide_eq_false (fun q => q h16)] at QH16
  have HZ := Lib.hid (hz.go hb0)
  have HY := Lib.hid (show Bytes W1 A l from At.lift (At.below hy hb0 (Nat.le_refl _)) hb0.size)
  have HBW := Lib.hid (fun W (q : Below W1.heap.size W1 W) => hb0.trans (q.mono hb0.size))
  have HLT := Lib.hid (@legal_T e f T z C S l)
  have HLZ := Lib.hid (@legal_z e f T z C S l)
  have HL0 := Lib.hid (fun (h : T = (toN e f : Int)) (hz : z = sentN (deN e f) 3) => @legal_0 e f T z C S l h hz (by rw [← hU0]; exact h16))
  have HM := Lib.hid hm; have HLC := Lib.hid hl
  rw [HSN.out] at HLZ HL0
  obtain ⟨TT, hTT⟩ : ∃ n, n = toN e f := ⟨_, rfl⟩
  obtain ⟨B, hB⟩ : ∃ b, b = legalIn e f T z C S l := ⟨_, rfl⟩
  rw [← hTT, ← hU0] at QT
  rw [← hTT] at HLT HL0
  rw [← hB] at HLT HLZ HL0 ⊢
  rw [HW.out] at QT
  clear hTT hB hU0 hb0 hk k0 hW1 hy hz ht hzl hl5 hm hl h4 h8 h16
  go_enter Tryd.func16, Tryd.ntmps16
  go_wp2_with fail
  refine QT.out.mono ?_
  rintro r w2 ⟨rfl, hb2⟩
  rw [← HW.out] at hb2 c0
  have HBC := Lib.hid hb2
  clear hb2
  have HCN := HC.out _ HBC.out
  clear c0
  go_wp2_with fail
  refine (QH4.out _).mono ?_
  rintro r w' ⟨rfl, rfl⟩
  go_wp2_with (at_builtin; refine wpList_appI _ w2 1 rfl rfl (.tmp 35) (.tmp 36) rfl w2.heap.size (.slice none 0 0) [] rfl (OwnI.nil _ _) (Nat.le_refl _) (by rfl) (by simp) ?_)
  intro v4 w4 ho4 hg4 hb4 _
  replace ho4 : OwnI w4 w2.heap.size v4 [1] := ho4
  obtain ⟨A1, c1, rfl, f1, f2⟩ := ho4.form
  have HI := Lib.hid ho4.at
  have HBC4 := Lib.hid (HBC.out.trans (hb4.mono HBC.out.size))
  clear ho4 hg4 hb4 f1 f2 HCN
  have HCN := HC.out _ HBC4.out
  go_wp2_with fail
  refine (QH8.out _).mono ?_
  rintro r w' ⟨rfl, rfl⟩
  go_wp2_with fail
  refine (QH16.out _).mono ?_
  rintro r w' ⟨rfl, rfl⟩
  by_cases hT : T = (TT : Int)
  · have d1 : (T != (TT : Int)) = false := by simpa using hT
    have HTT := Lib.hid hT
    clear hT
    by_cases hzn : z.length = 1
    · obtain ⟨u, rfl⟩ : ∃ u, z = [u] := List.length_eq_one_iff.1 hzn
      clear hzn
      go_wp2_with fail
      go_loopw [6] (fun i wr => LegRel w4 1 (u = 1) i wr) (fun i _ => 1 - (intOf i).toNat)
      case atStart => exact ⟨0, 0, rfl, by omega, rfl, Lib.hid (fun q => by cases q)⟩
      case round =>
        obtain ⟨j, m, rfl, hj, rfl, HP⟩ := hrel
        rcases (show j = 0 ∨ j = 1 by omega) with rfl | rfl
        · obtain ⟨b1, o1, rfl, hb1, k1⟩ := HI.out.at (j := 0) (u := 1) rfl
          obtain ⟨b2, o2, rfl, hb2, k2⟩ := (HZ.out.go HBC4.out).at (j := 0) (u := u) rfl
          replace k1 : w4.cell? ⟨b1, o1, none⟩ = some (.int .i64 1) := k1 0 _ rfl
          replace k2 : w4.cell? ⟨b2, o2, none⟩ = some (.int .i64 u) := k2 0 _ rfl
          clear hb1 hb2
          by_cases hu : u = 1
          · have HU := Lib.hid hu
            have d2 : ((1 : Int) != u) = false := by simpa using hu.symm
            clear hu
            go_wp2_with fail
            go_quiet (fail)
            go_wp2_with fail
            go_roundw
            case rel => exact ⟨1, _, rfl, by omega, by go_num, Lib.hid (fun _ => HU.out)⟩
            case measure => simp [intOf]
          · have HE := Lib.hid (HLZ.out (fun q => hu (by injection q)))
            have d2 : ((1 : Int) != u) = true := by simpa using (fun q => hu q.symm)
            clear hu
            go_wp2_with fail
            go_quiet (fail)
            go_wp2_with fail
            go_ret
            exact ⟨by rw [HE.out]; rfl, HBW.out _ (below_drewN (below_drewN HBC4.out _) _)⟩
        · have HZE := Lib.hid (show [u] = [1] by rw [HP.out rfl])
          have HE := Lib.hid (HL0.out HTT.out (by first | exact HZE.out | exact True.intro))
          have HBD := Lib.hid (below_drewN HBC4.out m)
          go_wp2_with fail
          refine (QH16.out _).mono ?_
          rintro r w' ⟨rfl, rfl⟩
          go_wp2_with fail
          go_ret
          exact ⟨by rw [HE.out]; rfl, HBW.out _ HBD.out⟩
    · have HE := Lib.hid (HLZ.out (fun q => hzn (by rw [q]; rfl)))
      have d2 : ((1 : Int) != (z.length : Int)) = true := by simpa using (show ¬ (1 : Int) = (z.length : Int) by omega)
      clear hzn
      go_wp2_with fail
      go_ret
      exact ⟨by rw [HE.out]; rfl, HBW.out _ HBC4.out⟩
  · have d1 : (T != (TT : Int)) = true := by simpa using hT
    have HE := Lib.hid (HLT.out hT)
    clear hT
    go_wp2_with fail
    go_ret
    exact ⟨by rw [HE.out]; rfl, HBW.out _ HBC4.out⟩
set_option maxRecDepth 100000 in
set_option maxHeartbeats 12800000 in
theorem RefLegal_8 (e f U0 : Nat) (T C S : Int) (Z : Option Addr) (zp : Nat) (z : List Int) (A : Option Addr) (c : Nat) (l : List UInt8) (w : World) (hy : Bytes w A l) (hl : l.length ≤ c) (hm : c ≤ maxLen) (hz : IntsAt w w.heap.size Z z) (hzl : z.length ≤ 10) (hl5 : l.length ≤ 500) (ht : TabF w) (he : e < 16) (hf : f < 6) (hU0 : U0 = deN e f) (h4 : U0 &&& 4 = 0) (h8 : U0 &&& 8 ≠ 0) (h16 : U0 &&& 16 = 0) :
    Calls Tryd.prog 16 #[.agg #[.int .i64 (e : Int), .int .i64 (f : Int), .int .i64 T, .slice Z z.length zp, .int .i64 C, .int .i64 S, .slice A l.length c]] w fun r w' => r = .returned (.bool (legalIn e f T z C S l)) ∧ Below w.heap.size w w' := by
  have HSN := Lib.hid (show sentN (deN e f) 3 = [4] by
    rw [← hU0]
    show (sent1 U0 4 1 ++ sent1 U0 8 4) ++ sent1 U0 16 3 = _
    unfold sent1
    rw [if_neg (fun q => q h4), if_pos h8, if_neg (fun q => q h16)]
    rfl)
  have k0 := Blk.new w 35 [.int .i64 (e : Int), .int .i64 (f : Int), .int .i64 T, .slice Z z.length zp, .int .i64 C, .int .i64 S, .slice A l.length c]
  obtain ⟨W1, hW1⟩ : ∃ W1, W1 = w.alloc (.cells #[.int .i64 (e : Int), .int .i64 (f : Int), .int .i64 T, .slice Z z.length zp, .int .i64 C, .int .i64 S, .slice A l.length c] 35) := ⟨_, rfl⟩
  have hb0 : Below w.heap.size w W1 := by rw [hW1]; exact (Below.refl _ _).alloc (Nat.le_refl _) _
  have hk : Blk W1 w.heap.size 35 [.int .i64 (e : Int), .int .i64 (f : Int), .int .i64 T, .slice Z z.length zp, .int .i64 C, .int .i64 S, .slice A l.length c] := by rw [hW1]; exact k0
  have HW := Lib.hid hW1
  have HB0 := Lib.hid hb0
  have HC := Lib.hid (fun W (q : Below W1.heap.size W1 W) => cells7 (hk.below q hk.lt))
  have c0 := cells7 k0
  have hf0 : ¬ (f : Int) < 0 := by omega
  have hf5 : ¬ 5 < (f : Int) := by omega
  have he0 : ¬ (e : Int) < 0 := by omega
  have he15 : ¬ 15 < (e : Int) := by omega
  have QT := Lib.hid (RefStep_in e f W1 he hf)
  have QH4 := Lib.hid (fun W => Has_4 U0 W (by rw [hU0]; exact de_lt he hf))
  have QH8 := Lib.hid (fun W => Has_8 U0 W (by rw [hU0]; exact de_lt he hf))
  have QH16 := Lib.hid (fun W => Has_16 U0 W (by rw [hU0]; exact de_lt he hf))
  rw [show decide (U0 &&& 4 ≠ 0) = false from decide_eq_false (fun q => q h4)] at QH4
  rw [show decide (U0 &&& 8 ≠ 0) = true from decide_eq_true h8] at QH8
  rw [show decide (U0 &&& 16 ≠ 0) = false from decide_eq_false (fun q => q h16)] at QH16
  have HZ := Lib.hid (hz.go hb0)
  have HY := Lib.hid (show Bytes W1 A l from At.lift (At.below hy hb0 (Nat.le_refl _)) hb0.size)
  have HBW := Lib.hid (fun W (q : Below W1.heap.size W1 W) => hb0.trans (q.mono hb0.size))
  have HLT := Lib.hid (@legal_T e f T z C S l)
  have HLZ := Lib.hid (@legal_z e f T z C S l)
  have HL0 := Lib.hid (fun (h : T = (toN e f : Int)) (hz : z = sentN (deN e f) 3) => @legal_0 e f T z C S l h hz (by rw [← hU0]; exact h16))
  have HM := Lib.hid hm; have HLC := Lib.hid hl
  rw [HSN.out] at HLZ HL0
  obtain ⟨TT, hTT⟩ : ∃ n, n = toN e f := ⟨_, rfl⟩
  obtain ⟨B, hB⟩ : ∃ b, b = legalIn e f T z C S l := ⟨_, rfl⟩
  rw [← hTT, ← hU0] at QT
  rw [← hTT] at HLT HL0
  rw [← hB] at HLT HLZ HL0 ⊢
  rw [HW.out] at QT
  clear hTT hB hU0 hb0 hk k0 hW1 hy hz ht hzl hl5 hm hl h4 h8 h16
  go_enter Tryd.func16, Tryd.ntmps16
  go_wp2_with fail
  refine QT.out.mono ?_
  rintro r w2 ⟨rfl, hb2⟩
  rw [← HW.out] at hb2 c0
  have HBC := Lib.hid hb2
  clear hb2
  have HCN := HC.out _ HBC.out
  clear c0
  go_wp2_with fail
  refine (QH4.out _).mono ?_
  rintro r w' ⟨rfl, rfl⟩
  go_wp2_with fail
  refine (QH8.out _).mono ?_
  rintro r w' ⟨rfl, rfl⟩
  go_wp2_with (at_builtin; refine wpList_appI _ w2 4 rfl rfl (.tmp 40) (.tmp 41) rfl w2.heap.size (.slice none 0 0) [] rfl (OwnI.nil _ _) (Nat.le_refl _) (by rfl) (by simp) ?_)
  intro v4 w4 ho4 hg4 hb4 _
  replace ho4 : OwnI w4 w2.heap.size v4 [4] := ho4
  obtain ⟨A1, c1, rfl, f1, f2⟩ := ho4.form
  have HI := Lib.hid ho4.at
  have HBC4 := Lib.hid (HBC.out.trans (hb4.mono HBC.out.size))
  clear ho4 hg4 hb4 f1 f2 HCN
  have HCN := HC.out _ HBC4.out
  go_wp2_with fail
  refine (QH16.out _).mono ?_
  rintro r w' ⟨rfl, rfl⟩
  by_cases hT : T = (TT : Int)
  · have d1 : (T != (TT : Int)) = false := by simpa using hT
    have HTT := Lib.hid hT
    clear hT
    by_cases hzn : z.length = 1
    · obtain ⟨u, rfl⟩ : ∃ u, z = [u] := List.length_eq_one_iff.1 hzn
      clear hzn
      go_wp2_with fail
      go_loopw [6] (fun i wr => LegRel w4 1 (u = 4) i wr) (fun i _ => 1 - (intOf i).toNat)
      case atStart => exact ⟨0, 0, rfl, by omega, rfl, Lib.hid (fun q => by cases q)⟩
      case round =>
        obtain ⟨j, m, rfl, hj, rfl, HP⟩ := hrel
        rcases (show j = 0 ∨ j = 1 by omega) with rfl | rfl
        · obtain ⟨b1, o1, rfl, hb1, k1⟩ := HI.out.at (j := 0) (u := 4) rfl
          obtain ⟨b2, o2, rfl, hb2, k2⟩ := (HZ.out.go HBC4.out).at (j := 0) (u := u) rfl
          replace k1 : w4.cell? ⟨b1, o1, none⟩ = some (.int .i64 4) := k1 0 _ rfl
          replace k2 : w4.cell? ⟨b2, o2, none⟩ = some (.int .i64 u) := k2 0 _ rfl
          clear hb1 hb2
          by_cases hu : u = 4
          · have HU := Lib.hid hu
            have d2 : ((4 : Int) != u) = false := by simpa using hu.symm
            clear hu
            go_wp2_with fail
            go_quiet (fail)
            go_wp2_with fail
            go_roundw
            case rel => exact ⟨1, _, rfl, by omega, by go_num, Lib.hid (fun _ => HU.out)⟩
            case measure => simp [intOf]
          · have HE := Lib.hid (HLZ.out (fun q => hu (by injection q)))
            have d2 : ((4 : Int) != u) = true := by simpa using (fun q => hu q.symm)
            clear hu
            go_wp2_with fail
            go_quiet (fail)
            go_wp2_with fail
            go_ret
            exact ⟨by rw [HE.out]; rfl, HBW.out _ (below_drewN (below_drewN HBC4.out _) _)⟩
        · have HZE := Lib.hid (show [u] = [4] by rw [HP.out rfl])
          have HE := Lib.hid (HL0.out HTT.out (by first | exact HZE.out | exact True.intro))
          have HBD := Lib.hid (below_drewN HBC4.out m)
          go_wp2_with fail
          refine (QH16.out _).mono ?_
          rintro r w' ⟨rfl, rfl⟩
          go_wp2_with fail
          go_ret
          exact ⟨by rw [HE.out]; rfl, HBW.out _ HBD.out⟩
    · have HE := Lib.hid (HLZ.out (fun q => hzn (by rw [q]; rfl)))
      have d2 : ((1 : Int) != (z.length : Int)) = true := by simpa using (show ¬ (1 : Int) = (z.length : Int) by omega)
      clear hzn
      go_wp2_with fail
      go_ret
      exact ⟨by rw [HE.out]; rfl, HBW.out _ HBC4.out⟩
  · have d1 : (T != (TT : Int)) = true := by simpa using hT
    have HE := Lib.hid (HLT.out hT)
    clear hT
    go_wp2_with fail
    go_ret
    exact ⟨by rw [HE.out]; rfl, HBW.out _ HBC4.out⟩
set_option maxRecDepth 100000 in
set_option maxHeartbeats 12800000 in
theorem RefLegal_16 (e f U0 : Nat) (T C S : Int) (Z : Option Addr) (zp : Nat) (z : List Int) (A : Option Addr) (c : Nat) (l : List UInt8) (w : World) (hy : Bytes w A l) (hl : l.length ≤ c) (hm : c ≤ maxLen) (hz : IntsAt w w.heap.size Z z) (hzl : z.length ≤ 10) (hl5 : l.length ≤ 500) (ht : TabF w) (he : e < 16) (hf : f < 6) (hU0 : U0 = deN e f) (h4 : U0 &&& 4 = 0) (h8 : U0 &&& 8 = 0) (h16 : U0 &&& 16 ≠ 0) :
    Calls Tryd.prog 16 #[.agg #[.int .i64 (e : Int), .int .i64 (f : Int), .int .i64 T, .slice Z z.length zp, .int .i64 C, .int .i64 S, .slice A l.length c]] w fun r w' => r = .returned (.bool (legalIn e f T z C S l)) ∧ Below w.heap.size w w' := by
  have HSN := Lib.hid (show sentN (deN e f) 3 = [3] by
    rw [← hU0]
    show (sent1 U0 4 1 ++ sent1 U0 8 4) ++ sent1 U0 16 3 = _
    unfold sent1
    rw [if_neg (fun q => q h4), if_neg (fun q => q h8), if_pos h16]
    rfl)
  have k0 := Blk.new w 35 [.int .i64 (e : Int), .int .i64 (f : Int), .int .i64 T, .slice Z z.length zp, .int .i64 C, .int .i64 S, .slice A l.length c]
  obtain ⟨W1, hW1⟩ : ∃ W1, W1 = w.alloc (.cells #[.int .i64 (e : Int), .int .i64 (f : Int), .int .i64 T, .slice Z z.length zp, .int .i64 C, .int .i64 S, .slice A l.length c] 35) := ⟨_, rfl⟩
  have hb0 : Below w.heap.size w W1 := by rw [hW1]; exact (Below.refl _ _).alloc (Nat.le_refl _) _
  have hk : Blk W1 w.heap.size 35 [.int .i64 (e : Int), .int .i64 (f : Int), .int .i64 T, .slice Z z.length zp, .int .i64 C, .int .i64 S, .slice A l.length c] := by rw [hW1]; exact k0
  have HW := Lib.hid hW1
  have HB0 := Lib.hid hb0
  have HC := Lib.hid (fun W (q : Below W1.heap.size W1 W) => cells7 (hk.below q hk.lt))
  have c0 := cells7 k0
  have hf0 : ¬ (f : Int) < 0 := by omega
  have hf5 : ¬ 5 < (f : Int) := by omega
  have he0 : ¬ (e : Int) < 0 := by omega
  have he15 : ¬ 15 < (e : Int) := by omega
  have QT := Lib.hid (RefStep_in e f W1 he hf)
  have QH4 := Lib.hid (fun W => Has_4 U0 W (by rw [hU0]; exact de_lt he hf))
  have QH8 := Lib.hid (fun W => Has_8 U0 W (by rw [hU0]; exact de_lt he hf))
  have QH16 := Lib.hid (fun W => Has_16 U0 W (by rw [hU0]; exact de_lt he hf))
  rw [show decide (U0 &&& 4 ≠ 0) = false from decide_eq_false (fun q => q h4)] at QH4
  rw [show decide (U0 &&& 8 ≠ 0) = false from decide_eq_false (fun q => q h8)] at QH8
  rw [show decide (U0 &&& 16 ≠ 0) = true from decide_eq_true h16] at QH16
  have HZ := Lib.hid (hz.go hb0)
  have HY := Lib.hid (show Bytes W1 A l from At.lift (At.below hy hb0 (Nat.le_refl _)) hb0.size)
  have HBW := Lib.hid (fun W (q : Below W1.heap.size W1 W) => hb0.trans (q.mono hb0.size))
  have HLT := Lib.hid (@legal_T e f T z C S l)
  have HLZ := Lib.hid (@legal_z e f T z C S l)
  have HL16 := Lib.hid (fun (h : T = (toN e f : Int)) (hz : z = sentN (deN e f) 3) => @legal_16 e f T z C S l h hz (by rw [← hU0]; exact h16))
  have HM := Lib.hid hm; have HLC := Lib.hid hl
  rw [HSN.out] at HLZ HL16
  obtain ⟨TT, hTT⟩ : ∃ n, n = toN e f := ⟨_, rfl⟩
  obtain ⟨B, hB⟩ : ∃ b, b = legalIn e f T z C S l := ⟨_, rfl⟩
  rw [← hTT, ← hU0] at QT
  rw [← hTT] at HLT HL16
  rw [← hB] at HLT HLZ HL16 ⊢
  rw [HW.out] at QT
  clear hTT hB hU0 hb0 hk k0 hW1 hy hz ht hzl hl5 hm hl h4 h8 h16
  go_enter Tryd.func16, Tryd.ntmps16
  go_wp2_with fail
  refine QT.out.mono ?_
  rintro r w2 ⟨rfl, hb2⟩
  rw [← HW.out] at hb2 c0
  have HBC := Lib.hid hb2
  clear hb2
  have HCN := HC.out _ HBC.out
  clear c0
  go_wp2_with fail
  refine (QH4.out _).mono ?_
  rintro r w' ⟨rfl, rfl⟩
  go_wp2_with fail
  refine (QH8.out _).mono ?_
  rintro r w' ⟨rfl, rfl⟩
  go_wp2_with fail
  refine (QH16.out _).mono ?_
  rintro r w' ⟨rfl, rfl⟩
  go_wp2_with (at_builtin; refine wpList_appI _ w2 3 rfl rfl (.tmp 45) (.tmp 46) rfl w2.heap.size (.slice none 0 0) [] rfl (OwnI.nil _ _) (Nat.le_refl _) (by rfl) (by simp) ?_)
  intro v4 w4 ho4 hg4 hb4 _
  replace ho4 : OwnI w4 w2.heap.size v4 [3] := ho4
  obtain ⟨A1, c1, rfl, f1, f2⟩ := ho4.form
  have HI := Lib.hid ho4.at
  have HBC4 := Lib.hid (HBC.out.trans (hb4.mono HBC.out.size))
  clear ho4 hg4 hb4 f1 f2 HCN
  have HCN := HC.out _ HBC4.out
  by_cases hT : T = (TT : Int)
  · have d1 : (T != (TT : Int)) = false := by simpa using hT
    have HTT := Lib.hid hT
    clear hT
    by_cases hzn : z.length = 1
    · obtain ⟨u, rfl⟩ : ∃ u, z = [u] := List.length_eq_one_iff.1 hzn
      clear hzn
      go_wp2_with fail
      go_loopw [6] (fun i wr => LegRel w4 1 (u = 3) i wr) (fun i _ => 1 - (intOf i).toNat)
      case atStart => exact ⟨0, 0, rfl, by omega, rfl, Lib.hid (fun q => by cases q)⟩
      case round =>
        obtain ⟨j, m, rfl, hj, rfl, HP⟩ := hrel
        rcases (show j = 0 ∨ j = 1 by omega) with rfl | rfl
        · obtain ⟨b1, o1, rfl, hb1, k1⟩ := HI.out.at (j := 0) (u := 3) rfl
          obtain ⟨b2, o2, rfl, hb2, k2⟩ := (HZ.out.go HBC4.out).at (j := 0) (u := u) rfl
          replace k1 : w4.cell? ⟨b1, o1, none⟩ = some (.int .i64 3) := k1 0 _ rfl
          replace k2 : w4.cell? ⟨b2, o2, none⟩ = some (.int .i64 u) := k2 0 _ rfl
          clear hb1 hb2
          by_cases hu : u = 3
          · have HU := Lib.hid hu
            have d2 : ((3 : Int) != u) = false := by simpa using hu.symm
            clear hu
            go_wp2_with fail
            go_quiet (fail)
            go_wp2_with fail
            go_roundw
            case rel => exact ⟨1, _, rfl, by omega, by go_num, Lib.hid (fun _ => HU.out)⟩
            case measure => simp [intOf]
          · have HE := Lib.hid (HLZ.out (fun q => hu (by injection q)))
            have d2 : ((3 : Int) != u) = true := by simpa using (fun q => hu q.symm)
            clear hu
            go_wp2_with fail
            go_quiet (fail)
            go_wp2_with fail
            go_ret
            exact ⟨by rw [HE.out]; rfl, HBW.out _ (below_drewN (below_drewN HBC4.out _) _)⟩
        · have HZE := Lib.hid (show [u] = [3] by rw [HP.out rfl])
          have HE := Lib.hid (HL16.out HTT.out HZE.out)
          have hbd : Below W1.heap.size W1 (w4.drewN m).drew := (below_drewN HBC4.out m).drew
          obtain ⟨W5, hW5⟩ : ∃ W, W = w4.drewN m := ⟨_, rfl⟩
          rw [← hW5] at hbd ⊢
          have HCN : _ ∧ _ := HC.out W5 (by rw [hW5]; exact below_drewN HBC4.out m)
          have QF := Lib.hid (fun W (q : Below W1.heap.size W1 W) => RefFault_any (e : Int) C S A c l W (HY.out.below q) HLC.out HM.out)
          obtain ⟨C1, hC1⟩ : ∃ n, n = fC e C := ⟨_, rfl⟩
          obtain ⟨S1, hS1⟩ : ∃ n, n = fS e S := ⟨_, rfl⟩
          obtain ⟨l1, hl1⟩ : ∃ n, n = fL e l := ⟨_, rfl⟩
          rw [← hC1, ← hS1, ← hl1] at QF HE
          obtain ⟨R, hR⟩ : ∃ b, b = sameF C S l C1 S1 l1 := ⟨_, rfl⟩
          have HR := Lib.hid hR
          rw [← hR] at HE
          clear hC1 hS1 hl1 hR hW5
          go_wp2_with fail
          refine (QH16.out _).mono ?_
          rintro r w' ⟨rfl, rfl⟩
          go_wp2_with fail
          go_region_held3 (fun w' => w'.cell? ⟨w.heap.size, 0, none⟩ = some (.int .i64 (e : Int)) ∧ w'.cell? ⟨w.heap.size, 1, none⟩ = some (.int .i64 (f : Int)) ∧ w'.cell? ⟨w.heap.size, 2, none⟩ = some (.int .i64 T) ∧ w'.cell? ⟨w.heap.size, 3, none⟩ = some (.slice Z 1 zp) ∧ w'.cell? ⟨w.heap.size, 4, none⟩ = some (.int .i64 C) ∧ w'.cell? ⟨w.heap.size, 5, none⟩ = some (.int .i64 S) ∧ w'.cell? ⟨w.heap.size, 6, none⟩ = some (.slice A l.length c)) (exact HC.out _ hbd) ((first
            | (go_at_call 14; refine (QF.out _ hbd).mono ?_; rintro r wy ⟨hg, A2, c2, rfl, f1, g1, hy⟩; have HY2 := Lib.hid hy; replace hbd := hbd.trans (hg.mono hbd.size); clear hg f1 g1 hy)
            | (go_at_call 12; refine (RSame_any C S C1 S1 A A2 c c2 l l1 _ (HY.out.below hbd) HY2.out).mono ?_; rintro r wy ⟨rfl, hg⟩; rw [← HR.out]; replace hbd := hbd.trans (hg.mono hbd.size); clear hg)))
          go_wp2_with fail
          go_ret
          exact ⟨by rw [HE.out]; rfl, HBW.out _ hbd⟩
    · have HE := Lib.hid (HLZ.out (fun q => hzn (by rw [q]; rfl)))
      have d2 : ((1 : Int) != (z.length : Int)) = true := by simpa using (show ¬ (1 : Int) = (z.length : Int) by omega)
      clear hzn
      go_wp2_with fail
      go_ret
      exact ⟨by rw [HE.out]; rfl, HBW.out _ HBC4.out⟩
  · have d1 : (T != (TT : Int)) = true := by simpa using hT
    have HE := Lib.hid (HLT.out hT)
    clear hT
    go_wp2_with fail
    go_ret
    exact ⟨by rw [HE.out]; rfl, HBW.out _ HBC4.out⟩
theorem RefLegal_in (e f : Nat) (T C S : Int) (Z : Option Addr) (zp : Nat) (z : List Int) (A : Option Addr) (c : Nat) (l : List UInt8) (w : World) (hy : Bytes w A l) (hl : l.length ≤ c) (hm : c ≤ maxLen) (hz : IntsAt w w.heap.size Z z) (hzl : z.length ≤ 10) (hl5 : l.length ≤ 500) (ht : TabF w) (he : e < 16) (hf : f < 6) :
    Calls Tryd.prog 16 #[.agg #[.int .i64 (e : Int), .int .i64 (f : Int), .int .i64 T, .slice Z z.length zp, .int .i64 C, .int .i64 S, .slice A l.length c]] w fun r w' => r = .returned (.bool (legalIn e f T z C S l)) ∧ Below w.heap.size w w' := by
  rcases one_ok he hf with ⟨h4, h8, h16⟩ | ⟨h4, h8, h16⟩ | ⟨h4, h8, h16⟩ | ⟨h4, h8, h16⟩
  · exact RefLegal_0 e f _ T C S Z zp z A c l w hy hl hm hz hzl hl5 ht he hf rfl h4 h8 h16
  · exact RefLegal_4 e f _ T C S Z zp z A c l w hy hl hm hz hzl hl5 ht he hf rfl h4 h8 h16
  · exact RefLegal_8 e f _ T C S Z zp z A c l w hy hl hm hz hzl hl5 ht he hf rfl h4 h8 h16
  · exact RefLegal_16 e f _ T C S Z zp z A c l w hy hl hm hz hzl hl5 ht he hf rfl h4 h8 h16
end Go.Proofs.YthjnbjhdepfclaaDoor

/-
  Whether a step is one of the table, by the program.
-/
import Derived.Test.YthjnbjhdepfclaaDoorSent21
import Derived.Deep.RegionHeld3
namespace Go.Proofs.YthjnbjhdepfclaaDoor
set_option linter.unusedVariables false
set_option linter.unusedSimpArgs false
open Go.RowKit

/-- Is a step one of the table? -/
def legalIn (e f : Nat) (T : Int) (z : List Int) (C S : Int) (l : List UInt8) : Bool :=
  if T = (toN e f : Int) then if z = sentN (deN e f) 3 then if deN e f &&& 16 ≠ 0 then sameF C S l (fC e C) (fS e S) (fL e l) else decide (C = 0) else false else false
theorem legal_T {e f : Nat} {T : Int} {z : List Int} {C S : Int} {l : List UInt8} (h : ¬ T = (toN e f : Int)) : legalIn e f T z C S l = false := by unfold legalIn; rw [if_neg h]
theorem legal_z {e f : Nat} {T : Int} {z : List Int} {C S : Int} {l : List UInt8} (h : ¬ z = sentN (deN e f) 3) : legalIn e f T z C S l = false := by unfold legalIn; rw [if_neg h]; split <;> rfl
theorem legal_16 {e f : Nat} {T : Int} {z : List Int} {C S : Int} {l : List UInt8} (h : T = (toN e f : Int)) (hz : z = sentN (deN e f) 3) (h16 : deN e f &&& 16 ≠ 0) : legalIn e f T z C S l = sameF C S l (fC e C) (fS e S) (fL e l) := by unfold legalIn; rw [if_pos h, if_pos hz, if_pos h16]
theorem legal_0 {e f : Nat} {T : Int} {z : List Int} {C S : Int} {l : List UInt8} (h : T = (toN e f : Int)) (hz : z = sentN (deN e f) 3) (h16 : deN e f &&& 16 = 0) : legalIn e f T z C S l = decide (C = 0) := by unfold legalIn; rw [if_pos h, if_pos hz, if_neg (fun q => q h16)]
theorem cells7 {w : World} {g T : Nat} {a b c d e f h : Value} (k : Blk w g T [a, b, c, d, e, f, h]) : w.cell? ⟨g, 0, none⟩ = some a ∧ w.cell? ⟨g, 1, none⟩ = some b ∧ w.cell? ⟨g, 2, none⟩ = some c ∧ w.cell? ⟨g, 3, none⟩ = some d ∧ w.cell? ⟨g, 4, none⟩ = some e ∧ w.cell? ⟨g, 5, none⟩ = some f ∧ w.cell? ⟨g, 6, none⟩ = some h := ⟨k.cell 0, k.cell 1, k.cell 2, k.cell 3, k.cell 4, k.cell 5, k.cell 6⟩
theorem de_lt {e s : Nat} (he : e < 16) (hs : s < 6) : deN e s < 4096 := Nat.mod_lt _ (by decide)
set_option maxRecDepth 100000 in
set_option maxHeartbeats 3200000 in
theorem Legal_out (E F : Int) (T C S : Int) (Z : Option Addr) (zp : Nat) (z : List Int) (A : Option Addr) (c : Nat) (l : List UInt8) (w : World) (h : F < 0 ∨ 6 ≤ F ∨ E < 0 ∨ 16 ≤ E) :
    Calls Tryd.prog 15 #[.agg #[.int .i64 E, .int .i64 F, .int .i64 T, .slice Z z.length zp, .int .i64 C, .int .i64 S, .slice A l.length c]] w fun r w' => r = .returned (.bool false) ∧ Below w.heap.size w w' := by
  have c0 := cells7 (Blk.new w 35 [.int .i64 E, .int .i64 F, .int .i64 T, .slice Z z.length zp, .int .i64 C, .int .i64 S, .slice A l.length c])
  have HB0 := Lib.hid (show Below w.heap.size w (w.alloc (.cells #[.int .i64 E, .int .i64 F, .int .i64 T, .slice Z z.length zp, .int .i64 C, .int .i64 S, .slice A l.length c] 35)) from (Below.refl _ _).alloc (Nat.le_refl _) _)
  by_cases hf : F < 0 ∨ 6 ≤ F
  · have Q := Lib.hid (fun W => isState_no F W hf)
    clear h hf
    go_enter Tryd.func15, Tryd.ntmps15
    go_wp2_with fail
    refine (Q.out _).mono ?_
    rintro r w' ⟨rfl, rfl⟩
    go_wp2_with fail
    go_ret
    exact ⟨rfl, HB0.out⟩
  · have Q := Lib.hid (fun W => isState_yes F W (by omega) (by omega))
    have Q2 := Lib.hid (fun W => isEvent_no E W (by omega))
    clear h hf
    go_enter Tryd.func15, Tryd.ntmps15
    go_wp2_with fail
    refine (Q.out _).mono ?_
    rintro r w' ⟨rfl, rfl⟩
    go_wp2_with fail
    refine (Q2.out _).mono ?_
    rintro r w' ⟨rfl, rfl⟩
    go_wp2_with fail
    go_ret
    exact ⟨rfl, HB0.out⟩
set_option maxRecDepth 100000 in
set_option maxHeartbeats 12800000 in
theorem Legal_in (e f : Nat) (T C S : Int) (Z : Option Addr) (zp : Nat) (z : List Int) (A : Option Addr) (c : Nat) (l : List UInt8) (w : World) (hy : Bytes w A l) (hl : l.length ≤ c) (hm : c ≤ maxLen) (hz : IntsAt w w.heap.size Z z) (hzl : z.length ≤ 10) (hl5 : l.length ≤ 500) (ht : TabF w) (he : e < 16) (hf : f < 6) :
    Calls Tryd.prog 15 #[.agg #[.int .i64 (e : Int), .int .i64 (f : Int), .int .i64 T, .slice Z z.length zp, .int .i64 C, .int .i64 S, .slice A l.length c]] w fun r w' => r = .returned (.bool (legalIn e f T z C S l)) ∧ Below w.heap.size w w' := by
  have k0 := Blk.new w 35 [.int .i64 (e : Int), .int .i64 (f : Int), .int .i64 T, .slice Z z.length zp, .int .i64 C, .int .i64 S, .slice A l.length c]
  obtain ⟨W1, hW1⟩ : ∃ W1, W1 = w.alloc (.cells #[.int .i64 (e : Int), .int .i64 (f : Int), .int .i64 T, .slice Z z.length zp, .int .i64 C, .int .i64 S, .slice A l.length c] 35) := ⟨_, rfl⟩
  have hb0 : Below w.heap.size w W1 := by rw [hW1]; exact (Below.refl _ _).alloc (Nat.le_refl _) _
  have hk : Blk W1 w.heap.size 35 [.int .i64 (e : Int), .int .i64 (f : Int), .int .i64 T, .slice Z z.length zp, .int .i64 C, .int .i64 S, .slice A l.length c] := by rw [hW1]; exact k0
  have HW := Lib.hid hW1
  have HB0 := Lib.hid hb0
  have HC := Lib.hid (fun W (q : Below W1.heap.size W1 W) => cells7 (hk.below q hk.lt))
  have c0 := cells7 k0
  have QS := Lib.hid (isState_yes (f : Int) W1 (by omega) (by omega))
  have QE := Lib.hid (isEvent_yes (e : Int) W1 (by omega) (by omega))
  have QT := Lib.hid (Step_in e f W1 he hf (ht.go hb0))
  have HZ := Lib.hid (hz.go hb0)
  have HY := Lib.hid (show Bytes W1 A l from At.lift (At.below hy hb0 (Nat.le_refl _)) hb0.size)
  have QSent := Lib.hid (fun W => sent_any (deN e f) W (de_lt he hf))
  have hbc : Below W1.heap.size W1 W1.drew := (Below.refl _ _).drew
  have HBW := Lib.hid (fun W (q : Below W1.heap.size W1 W) => hb0.trans (q.mono hb0.size))
  have q16 := Lib.hid (i64_and_small (deN e f) 16 (by have := de_lt he hf; omega) (by omega))
  have HLT := Lib.hid (@legal_T e f T z C S l)
  have HLZ := Lib.hid (@legal_z e f T z C S l)
  have HL16 := Lib.hid (@legal_16 e f T z C S l)
  have HL0 := Lib.hid (@legal_0 e f T z C S l)
  have HZL := Lib.hid hzl; have HLL := Lib.hid hl5; have HM := Lib.hid hm
  obtain ⟨TT, hTT⟩ : ∃ n, n = toN e f := ⟨_, rfl⟩
  obtain ⟨U, hU⟩ : ∃ n, n = deN e f := ⟨_, rfl⟩
  obtain ⟨B, hB⟩ : ∃ b, b = legalIn e f T z C S l := ⟨_, rfl⟩
  rw [← hTT, ← hU] at QT
  rw [← hTT] at HLT
  rw [← hU] at HLZ q16 QSent
  rw [← hTT, ← hU] at HL16 HL0
  rw [← hB] at HLT HLZ HL16 HL0 ⊢
  rw [HW.out] at QS QE QT
  clear hTT hU hB hb0 hk k0 hW1 hy hz ht hzl hl5 hm
  go_enter Tryd.func15, Tryd.ntmps15
  go_wp2_with fail
  refine QS.out.mono ?_
  rintro r w' ⟨rfl, rfl⟩
  go_wp2_with fail
  refine QE.out.mono ?_
  rintro r w' ⟨rfl, rfl⟩
  go_wp2_with fail
  refine QT.out.mono ?_
  rintro r w' ⟨rfl, rfl⟩
  rw [← HW.out]
  rw [← HW.out] at c0
  by_cases hT : T = (TT : Int)
  · have d1 : (T != (TT : Int)) = false := by simpa using hT
    have HTT := Lib.hid hT
    obtain ⟨zz, hzz⟩ : ∃ zz, zz = sentN U 3 := ⟨_, rfl⟩
    rw [← hzz] at HLZ HL16 HL0 QSent
    have hzz3 : zz.length ≤ 3 := by rw [hzz]; exact sentN_len U 3
    have HZ3 := Lib.hid hzz3
    clear hT hzz hzz3
    by_cases hq : z = zz
    · have HQ := Lib.hid (show sameI z zz = true from decide_eq_true hq)
      have HQZ := Lib.hid hq
      clear hq
      go_wp2_with fail
      go_region_held3 (fun w' => w'.cell? ⟨w.heap.size, 0, none⟩ = some (.int .i64 (e : Int)) ∧ w'.cell? ⟨w.heap.size, 1, none⟩ = some (.int .i64 (f : Int)) ∧ w'.cell? ⟨w.heap.size, 2, none⟩ = some (.int .i64 T) ∧ w'.cell? ⟨w.heap.size, 3, none⟩ = some (.slice Z z.length zp) ∧ w'.cell? ⟨w.heap.size, 4, none⟩ = some (.int .i64 C) ∧ w'.cell? ⟨w.heap.size, 5, none⟩ = some (.int .i64 S) ∧ w'.cell? ⟨w.heap.size, 6, none⟩ = some (.slice A l.length c)) (exact HC.out _ hbc) ((first
        | (go_at_call 25; refine (QSent.out _).mono ?_; rintro r wx ⟨A1, c1, rfl, f1, f2, ho, hg⟩; have HI := Lib.hid ho.at; replace hbc := hbc.trans (hg.mono hbc.size); clear hg f1 f2 ho)
        | (go_at_call 24; refine (EqualI_any Z A1 zp c1 z zz _ (HZ.out.go hbc) HI.out (by have := HZL.out; omega)).mono ?_; rintro r wx ⟨rfl, hg⟩; rw [HQ.out]; replace hbc := hbc.trans (hg.mono hbc.size); clear hg)))
      obtain ⟨a, ha⟩ : ∃ n, n = U &&& 16 := ⟨_, rfl⟩
      have hb16 : bits BinOp.and IntKind.i64 (U : Int) 16 = (a : Int) := by rw [ha]; exact q16.out
      have HCN := HC.out _ hbc
      by_cases h0 : a = 0
      · have d2 : ((a : Int) != 0) = false := by simpa using (show (a : Int) = 0 by omega)
        have HE := Lib.hid (HL0.out HTT.out HQZ.out (by rw [← ha]; exact h0))
        clear h0 ha
        go_wp2_with fail
        go_ret
        exact ⟨by rw [HE.out]; rfl, HBW.out _ hbc⟩
      · have d2 : ((a : Int) != 0) = true := by simpa using (show ¬ (a : Int) = 0 by omega)
        have HE := Lib.hid (HL16.out HTT.out HQZ.out (by rw [← ha]; exact h0))
        obtain ⟨W2, hW2⟩ : ∃ W, W = wx := ⟨_, rfl⟩
        rw [← hW2] at HCN hbc ⊢
        clear h0 ha hW2
        have hbd : Below W1.heap.size W1 W2.drew := hbc.drew
        have QF := Lib.hid (fun W (q : Below W1.heap.size W1 W) => Fault_any (e : Int) C S A c l W (HY.out.below q) (by have := HLL.out; omega))
        obtain ⟨C1, hC1⟩ : ∃ n, n = fC e C := ⟨_, rfl⟩
        obtain ⟨S1, hS1⟩ : ∃ n, n = fS e S := ⟨_, rfl⟩
        obtain ⟨l1, hl1⟩ : ∃ n, n = fL e l := ⟨_, rfl⟩
        rw [← hC1, ← hS1, ← hl1] at QF HE
        obtain ⟨R, hR⟩ : ∃ b, b = sameF C S l C1 S1 l1 := ⟨_, rfl⟩
        have HR := Lib.hid hR
        rw [← hR] at HE
        clear hC1 hS1 hl1 hR
        go_wp2_with fail
        go_region_held3 (fun w' => w'.cell? ⟨w.heap.size, 0, none⟩ = some (.int .i64 (e : Int)) ∧ w'.cell? ⟨w.heap.size, 1, none⟩ = some (.int .i64 (f : Int)) ∧ w'.cell? ⟨w.heap.size, 2, none⟩ = some (.int .i64 T) ∧ w'.cell? ⟨w.heap.size, 3, none⟩ = some (.slice Z z.length zp) ∧ w'.cell? ⟨w.heap.size, 4, none⟩ = some (.int .i64 C) ∧ w'.cell? ⟨w.heap.size, 5, none⟩ = some (.int .i64 S) ∧ w'.cell? ⟨w.heap.size, 6, none⟩ = some (.slice A l.length c)) (exact HC.out _ hbd) ((first
          | (go_at_call 13; refine (QF.out _ hbd).mono ?_; rintro r wy ⟨hg, A2, c2, rfl, f1, g1, hy⟩; have HY2 := Lib.hid hy; replace hbd := hbd.trans (hg.mono hbd.size); clear hg f1 g1 hy)
          | (go_at_call 26; refine (NSame_any C S C1 S1 A A2 c c2 l l1 _ (HY.out.below hbd) HY2.out).mono ?_; rintro r wy ⟨rfl, hg⟩; rw [← HR.out]; replace hbd := hbd.trans (hg.mono hbd.size); clear hg)))
        go_wp2_with fail
        go_ret
        exact ⟨by rw [HE.out]; rfl, HBW.out _ hbd⟩
    · have HQ := Lib.hid (show sameI z zz = false from decide_eq_false hq)
      have HE := Lib.hid (HLZ.out hq)
      clear hq
      go_wp2_with fail
      go_region_held3 (fun w' => w'.cell? ⟨w.heap.size, 0, none⟩ = some (.int .i64 (e : Int)) ∧ w'.cell? ⟨w.heap.size, 1, none⟩ = some (.int .i64 (f : Int)) ∧ w'.cell? ⟨w.heap.size, 2, none⟩ = some (.int .i64 T) ∧ w'.cell? ⟨w.heap.size, 3, none⟩ = some (.slice Z z.length zp) ∧ w'.cell? ⟨w.heap.size, 4, none⟩ = some (.int .i64 C) ∧ w'.cell? ⟨w.heap.size, 5, none⟩ = some (.int .i64 S) ∧ w'.cell? ⟨w.heap.size, 6, none⟩ = some (.slice A l.length c)) (exact HC.out _ hbc) ((first
        | (go_at_call 25; refine (QSent.out _).mono ?_; rintro r wx ⟨A1, c1, rfl, f1, f2, ho, hg⟩; have HI := Lib.hid ho.at; replace hbc := hbc.trans (hg.mono hbc.size); clear hg f1 f2 ho)
        | (go_at_call 24; refine (EqualI_any Z A1 zp c1 z zz _ (HZ.out.go hbc) HI.out (by have := HZL.out; omega)).mono ?_; rintro r wx ⟨rfl, hg⟩; rw [HQ.out]; replace hbc := hbc.trans (hg.mono hbc.size); clear hg)))
      go_wp2_with fail
      go_ret
      exact ⟨by rw [HE.out]; rfl, HBW.out _ hbc⟩
  · have d1 : (T != (TT : Int)) = true := by simpa using hT
    have HE := Lib.hid (HLT.out hT)
    clear hT
    go_wp2_with fail
    go_quiet (fail)
    go_wp2_with fail
    go_ret
    exact ⟨by rw [HE.out]; rfl, below_drewN HB0.out _⟩
end Go.Proofs.YthjnbjhdepfclaaDoor

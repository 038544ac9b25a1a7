/-
  The path of bytes, by the document (written by gen03r.py).
-/
import Derived.Test.YtiegfellgnfiiaaDoorRead3
import Derived.Test.YtiegfellgnfiiaaDoorRight3
namespace Go.Proofs.YtiegfellgnfiiaaDoor
set_option linter.unusedVariables false
set_option linter.unusedSimpArgs false
open Go.RowKit

theorem rrd_start (w : World) (A : Option Addr) (l : List UInt8) (c : Nat) (h : Bytes w A l) (h1 : l.length ≤ c) (h2 : c ≤ maxLen) :
    RRd (w.alloc (.cells #[.slice A l.length c, .int .i64 0, .bool false] 83)) w.heap.size w.heap.size l l false :=
  ⟨0, ⟨Nat.le_refl _, A, c, Blk.new w 83 [.slice A l.length c, .int .i64 0, .bool false], Nat.zero_le _, h1, h2, At.below h ((Below.refl _ _).alloc (Nat.le_refl _) _) (Nat.le_refl _)⟩, rfl⟩
theorem RRd.size {w : World} {B g : Nat} {l rest : List UInt8} {s : Bool} (h : RRd w B g l rest s) : rest.length ≤ l.length ∧ (s = true → rest = []) := by
  obtain ⟨k, _, rfl⟩ := h
  cases s with
  | true => exact ⟨Nat.zero_le _, fun _ => rfl⟩
  | false => exact ⟨by simp [before], fun e => by cases e⟩
/-- What the loop over the segments holds. -/
def RefReadRel (w : World) (wide : Bool) (l : List UInt8) (v i : Value) (wr : World) : Prop :=
  Below w.heap.size w wr ∧ ∃ (M : List Sg) (H : Nat) (r : List UInt8) (s : Bool), M.length ≤ 9 ∧ i = .int .i64 (M.length : Int) ∧ OwnSegs wr (w.heap.size + 1) H v M ∧ w.heap.size + 1 ≤ H ∧ H ≤ wr.heap.size ∧ RRd wr w.heap.size w.heap.size l r s ∧ totN M ≤ 255 * M.length ∧ Hid (s = false → readGo wide r.length (M.map Sg.abs, r, s) = readAll wide l) ∧ Hid (s = true → (readAll wide l).2.2 = true)
/-- What the loop over a segment's numbers holds. -/
def RefNumRel (W2 : World) (g h : Nat) (l : List UInt8) (K : Int) (wide : Bool) (l1 : List UInt8) (s1 : Bool) (n : Nat) (i : Value) (wr : World) : Prop :=
  W2.grownBy wr (some g) ∧ ∃ (v : Value) (k : Nat), k ≤ n ∧ i = .int .i64 (k : Int) ∧ Blk wr h 53 [.int .i64 K, v] ∧ Own32 wr (h + 1) v (numsS wide l1 s1 k).1 ∧ RRd wr g g l (numsS wide l1 s1 k).2.1 (numsS wide l1 s1 k).2.2
theorem ReadAll_short {wide : Bool} {l : List UInt8} {t : RdSt} (h : readGo wide t.2.1.length t = readAll wide l) (hs : t.2.2 = true) : (readAll wide l).2.2 = true := by
  rw [← h]
  exact readGo_short wide _ t hs

set_option maxHeartbeats 12800000 in
theorem RefRead3_true (A : Option Addr) (c : Nat) (l : List UInt8) (w : World) (h : Bytes w A l) (hc : l.length ≤ c) (hm : c ≤ maxLen) (hl : l.length ≤ 1000000) :
    Calls Tryd.prog 38 #[.slice A l.length c, .bool true] w (ParsePost w (readL true l)) := by
  have hR0 := rrd_start w A l c h hc hm
  have HR0 := Lib.hid hR0
  have HB0 := Lib.hid ((Below.refl w.heap.size w).alloc (Nat.le_refl _) (.cells #[.slice A l.length c, .int .i64 0, .bool false] 83))
  clear h hR0
  go_enter Tryd.func38, Tryd.ntmps38
  go_wp2_with fail
  go_loopw [6, 9] (fun v i wr => RefReadRel w true l v i wr) (fun _ i _ => 9 - (intOf i).toNat)
  case atStart => exact ⟨HB0.out, [], w.heap.size + 1, l, false, by simp, rfl, OwnSegs.nil _ _ _, Nat.le_refl _, by simp, HR0.out, by simp [totN], Lib.hid (fun _ => rfl), Lib.hid (fun e => by cases e)⟩
  case round =>
    clear HR0 HB0
    obtain ⟨hbr, M, H, r, s, h9, rfl, hown, hH, hH2, hrd, htot, hgo, hsh⟩ := hrel
    have hms : (M.length : Int) ≤ 9 := by omega
    by_cases hgoes : M.length < 9 ∧ r ≠ []
    · obtain ⟨hlt9, hr⟩ := hgoes
      have hs0 : s = false := by
        cases s with
        | false => rfl
        | true => exact absurd (hrd.size.2 rfl) hr
      subst hs0
      have hlt9I : (M.length : Int) < 9 := by omega
      have hpos : (0 : Int) < (r.length : Int) := by have := List.length_pos_iff.2 hr; omega
      have QL := Lib.hid (refLeft3_any _ _ _ _ _ wr hrd hl)
      have hst := (readGo_step true (t := (M.map Sg.abs, r, false)) hr).symm.trans (hgo.out rfl)
      have Q1 := Lib.hid (fun m => refNum3_any 1 _ _ _ _ _ (wr.drewN m) (show RRd (wr.drewN m) w.heap.size w.heap.size l r false from hrd) hl (by decide))
      have hK := num_one_lt r false
      have hn2 := num_one_lt (rdTake r false 1).2.1 (rdTake r false 1).2.2
      simp only [readStep, headS] at hst
      obtain ⟨X1, hX1⟩ : ∃ X1, X1 = rdTake r false 1 := ⟨_, rfl⟩
      rw [← hX1] at hst Q1 hK hn2
      obtain ⟨X2, hX2⟩ : ∃ X2, X2 = rdTake X1.2.1 X1.2.2 1 := ⟨_, rfl⟩
      have HX2 := Lib.hid hX2
      rw [← hX2] at hst hn2
      obtain ⟨K, hKe⟩ : ∃ K, K = num X1.1 := ⟨_, rfl⟩
      obtain ⟨n, hne⟩ : ∃ n, n = num X2.1 := ⟨_, rfl⟩
      rw [← hKe, ← hne] at hst
      rw [← hne] at hn2
      rw [← hKe] at hK
      have HST := Lib.hid hst; have HK := Lib.hid hK; have HN := Lib.hid hn2
      have HKE := Lib.hid hKe; have HNE := Lib.hid hne; have HL9 := Lib.hid hlt9
      have HOW := Lib.hid hown; have HBR := Lib.hid hbr; have HRD := Lib.hid hrd; have HTOT := Lib.hid htot
      clear hst hK hn2 hX1 hX2 hKe hne hown hbr hrd htot hgo hr hsh hlt9
      go_wp2_with fail
      refine QL.out.mono ?_
      rintro e w2 ⟨rfl, m, rfl⟩
      go_wp2_with fail
      refine (Q1.out m).mono ?_
      rintro e w2 ⟨rfl, hr1, hg1⟩
      have HR1 := Lib.hid hr1; have HG1 := Lib.hid (show wr.grownBy w2 (some w.heap.size) from ⟨hg1.os, hg1.tape, hg1.output, hg1.size, hg1.block⟩)
      clear hr1 hg1
      rw [← HKE.out]
      go_wp2_with fail
      have hr3 : RRd (w2.alloc (.cells #[.int .i64 (K : Int), .slice none 0 0] 53)) w.heap.size w.heap.size l X1.2.1 X1.2.2 := HR1.out.below ((Below.refl w2.heap.size w2).alloc (Nat.le_refl _) _) HR1.out.lt
      have Q2 := refNum3_any 1 _ _ _ _ _ _ hr3 hl (by decide)
      rw [← HX2.out] at Q2
      have Q2 := Lib.hid Q2
      have HB3 := Lib.hid (Blk.new w2 53 [.int .i64 (K : Int), .slice none 0 0])
      clear hr3
      refine Q2.out.mono ?_
      rintro e w4 ⟨rfl, hr4, hg4⟩
      have HR4 := Lib.hid hr4; have HG4 := Lib.hid hg4
      have hne4 : w2.heap.size ≠ w.heap.size := by have := HR1.out.lt; omega
      have HG24 := Lib.hid (grown_trans (grown_alloc (grown_refl w2 (some w.heap.size)) _) HG4.out)
      have HB4 := Lib.hid (HB3.out.grown HG4.out hne4)
      have HNE4 := Lib.hid hne4
      have HG0 := Lib.hid (show w.heap.size < w2.heap.size + 1 by have := HR1.out.lt; omega)
      clear hr4 hg4 hne4 Q2
      rw [← HNE.out]
      go_wp2_with fail
      go_loopw [12] (fun i wr' => RefNumRel w2 w.heap.size w2.heap.size l (K : Int) true X2.2.1 X2.2.2 n i wr') (fun i _ => n - (intOf i).toNat)
      case atStart => exact ⟨HG24.out, _, 0, Nat.zero_le _, rfl, HB4.out, Own32.nil _ _, HR4.out⟩
      case round =>
        clear HR4 HG4 HB4 HG24 Q1 QL
        obtain ⟨hg, v, k, hk, rfl, hblk, hown, hrd⟩ := hrel
        have csh := hrd.short
        have hkb0 : (k : Int) ≤ 256 := by have := HN.out; omega
        by_cases hgo2 : k < n ∧ (numsS true X2.2.1 X2.2.2 k).2.2 = false
        · obtain ⟨hlt, hsf⟩ := hgo2
          rw [hsf] at csh
          have hkn : (k : Int) < (n : Int) := by omega
          have QN := refNum3_any 4 _ _ _ _ _ wr.drew (show RRd wr.drew w.heap.size w.heap.size l (numsS true X2.2.1 X2.2.2 k).2.1 (numsS true X2.2.1 X2.2.2 k).2.2 from hrd) hl (by decide)
          have HNX := Lib.hid (nums_next true X2.2.1 X2.2.2 k)
          have hlen := (numsS_len true X2.2.1 X2.2.2 k).1
          have hyl := num_take_lt (numsS true X2.2.1 X2.2.2 k).2.1 (numsS true X2.2.1 X2.2.2 k).2.2 true
          have hq : nextN true = 4 := rfl
          rw [hq] at HNX hyl
          obtain ⟨Y, hY⟩ : ∃ Y, Y = rdTake (numsS true X2.2.1 X2.2.2 k).2.1 (numsS true X2.2.1 X2.2.2 k).2.2 4 := ⟨_, rfl⟩
          rw [← hY] at QN HNX hyl
          have hkb : (k : Int) < 256 := by have := HN.out; omega
          have hg2 := HG0.out
          have HBK := Lib.hid hblk
          have HOW2 := Lib.hid hown; have HGW := Lib.hid hg; have HLT := Lib.hid hlt
          have HSZ := Lib.hid (show (numsS true X2.2.1 X2.2.2 k).1.length + 1 ≤ 100000000000 by rw [hlen]; have := HN.out; omega)
          have c1 : wr.cell? ⟨w2.heap.size, 1, none⟩ = some v := hblk.cell 1
          have hvb : some w2.heap.size ≠ v.ownBlock := by
            intro e
            have := (World.ownsRow.lt hown _ e.symm).1
            omega
          have HVB := Lib.hid hvb
          obtain ⟨z, hz⟩ : ∃ z, z = (numsS true X2.2.1 X2.2.2 k).1 := ⟨_, rfl⟩
          rw [← hz] at HOW2 HSZ HNX
          obtain ⟨y, hy⟩ : ∃ y, y = num Y.1 := ⟨_, rfl⟩
          have HYE := Lib.hid hy
          rw [← hy] at HNX hyl
          have hyw : IntKind.u32.wrap (y : Int) = (y : Int) := by
            simp only [IntKind.wrap, IntKind.signed, IntKind.bits]
            first | omega | (simp; omega)
          have HYW := Lib.hid hyw
          have QN2 := Lib.hid (show Calls Tryd.prog 67 #[.pointer (some ⟨w.heap.size, 0, none⟩), .int .i64 4] wr.drew (fun e w' => e = .returned (.int .i64 (y : Int)) ∧ RRd w' w.heap.size w.heap.size l Y.2.1 Y.2.2 ∧ wr.drew.grownBy w' (some w.heap.size)) from by rw [HYE.out]; exact QN)
          clear hlen hY hblk hown hrd hg hlt hvb QN hz hy hsf hq hyl
          go_wp2_with fail
          go_region_law ((first
            | (have hq5 := HO5; clear hq5; refine step_one32 (by rfl) (.tmp 44) (.tmp 49) (by rfl) (w2.heap.size + 1) v z (by rfl) w5 y (by first | rfl | rw [HYW.out]) HO5.out (by rfl) HSZ.out HZ5.out ?_; intro v6 w6 ho6 hg6; have hk6 := (hg6.block _ HK5.out.lt HVB.out).trans HK5.out; have c6 : w6.cell? ⟨w2.heap.size, 1, none⟩ = some v := Blk.cell hk6 1; have f6 : w6.frozen? ⟨w2.heap.size, 1, none⟩ = false := Blk.free hk6 1; have HK6 := Lib.hid hk6; obtain ⟨A6, d6, rfl, q1, q2⟩ := ho6.form; have el : (z ++ [y]).length = z.length + 1 := List.length_append; rw [el] at ho6 q1; have HO6 := Lib.hid ho6; have HG6 := Lib.hid hg6; clear hk6 ho6 hg6)
            | (go_simp; go_at_call 67; refine QN2.out.mono ?_; rintro e w5 ⟨rfl, hr5, hg5⟩; have hk5 := HBK.out.grown (grown_of_drew hg5) HNE4.out; have c5 : w5.cell? ⟨w2.heap.size, 1, none⟩ = some v := hk5.cell 1; have c5a : (w5.alloc (.cells #[.int .u32 (y : Int)] 23)).cell? ⟨w2.heap.size, 1, none⟩ = some v := (Blk.below hk5 ((Below.refl w5.heap.size w5).alloc (Nat.le_refl _) _) hk5.lt).cell 1; have HO5 := Lib.hid (own32_apart HOW2.out (grown_of_drew hg5) HG0.out); have HZ5 := Lib.hid (show w2.heap.size + 1 ≤ w5.heap.size from hk5.lt); have HK5 := Lib.hid hk5; have HR5 := Lib.hid hr5; have HG5 := Lib.hid (grown_of_drew hg5); clear hk5 hr5 hg5)))
          all_goals
            have hb7 := Lib.hid (((Below.refl w2.heap.size w5).grown HG6.out (Nat.le_of_succ_le HZ5.out) (fun j hj => by have := (World.ownsRow.lt HO5.out j hj).1; omega)).setCell (p := ⟨w2.heap.size, 1, none⟩) (Nat.le_refl _) (.slice A6 (z.length + 1) d6))
            have hg7 := Lib.hid (grown_fresh (grown_fresh (grown_trans HGW.out HG5.out) HG6.out (fun j hj => by have := (World.ownsRow.lt HO5.out j hj).1; omega)) (grown_setCell (grown_refl w6 (some w2.heap.size)) 1 (.slice A6 (z.length + 1) d6)) (fun j hj => by cases hj; exact Nat.le_refl _))
            have hr7 := Lib.hid (HR5.out.below hb7.out (by have := HG0.out; have := HNE4.out; omega))
            have hk7 := Lib.hid (Blk.set (show Blk w6 w2.heap.size 53 [.int .i64 (K : Int), v] from HK6.out) 1 (.slice A6 (z.length + 1) d6))
            have ho7 := Lib.hid (own32_apart HO6.out (grown_setCell (grown_refl w6 (some w2.heap.size)) 1 (.slice A6 (z.length + 1) d6)) (Nat.lt_succ_self _))
            clear c5 c5a c6 f6 c1
            go_wp2_with fail
            go_roundw
            case rel =>
              refine ⟨hg7.out, _, k + 1, HLT.out, by go_num, hk7.out, ?_, ?_⟩
              · rw [HNX.out.1]
                exact ho7.out
              · rw [HNX.out.2]
                exact hr7.out
            case measure => have := HLT.out; simp [intOf]; omega
        · have hfit := numsS_fit true X2.2.1 X2.2.2 k
          have hlenz := (numsS_len true X2.2.1 X2.2.2 k).1
          obtain ⟨A7, d7, rfl, e1, e2⟩ := hown.form
          have HS7 := Lib.hid (((HOW.out.apart HG1.out (Nat.lt_succ_self _)).apart hg (Nat.lt_succ_self _)))
          have HB7 := Lib.hid ((HOW.out.apart HG1.out (Nat.lt_succ_self _)).blocks)
          have HO7 := Lib.hid (show Own32 wr (w2.heap.size + 1) (Sg.sl ⟨(K : Int), A7, d7, (numsS true X2.2.1 X2.2.2 k).1⟩) (numsS true X2.2.1 X2.2.2 k).1 from hown)
          have c7 := cells2 hblk
          have HR7 := Lib.hid hrd; have HG7 := Lib.hid hg; have HL7 := Lib.hid hlenz; have HF7 := Lib.hid hfit
          have HZ7 := Lib.hid hblk.lt
          have HKN := Lib.hid hk
          have HNS := Lib.hid (numsS_short true X2.2.1 X2.2.2 k n hk)
          have hlast : (k = n ∧ (numsS true X2.2.1 X2.2.2 k).2.2 = false) ∨ (k = n ∧ (numsS true X2.2.1 X2.2.2 k).2.2 = true) ∨ (k < n ∧ (numsS true X2.2.1 X2.2.2 k).2.2 = true) := by
            cases hsk : (numsS true X2.2.1 X2.2.2 k).2.2 with
            | true => by_cases hkn : k = n
                      · exact .inr (.inl ⟨hkn, rfl⟩)
                      · exact .inr (.inr ⟨by omega, rfl⟩)
            | false => exact .inl ⟨by by_cases hkn : k = n
                                      · exact hkn
                                      · exact absurd ⟨by omega, hsk⟩ hgo2, rfl⟩
          clear hblk hown hrd hg hlenz hfit e1 e2 hgo2 hk
          have HAS := Lib.hid (show ((numsS true X2.2.1 X2.2.2 k).2.2 = false → k = n) from fun e => by
            rcases hlast with h | h | h
            · exact h.1
            · exact h.1
            · rw [e] at h; cases h.2)
          rcases hlast with ⟨hkn, hsk⟩ | ⟨hkn, hsk⟩ | ⟨hkn, hsk⟩
          · have hknI : ¬ (k : Int) < (n : Int) := by omega
            clear hsk hkn csh
            go_wp2_with (at_builtin; refine wpList_app_one' isSeg rfl (.tmp 52) (.tmp 54) rfl (w.heap.size + 1) _ _ _ rfl wr (Sg.two ⟨(K : Int), A7, d7, (numsS true X2.2.1 X2.2.2 k).1⟩) rfl HS7.out.row rfl rfl (two_one _) ?sz (Nat.le_trans (Nat.succ_le_of_lt HR7.out.lt) (Nat.le_refl _)) ?_)
            case sz => have := HL9.out; omega
            intro v8 w8 hown8 hg8
            have HP := Lib.hid (OwnSegs.push (s := ⟨(K : Int), A7, d7, (numsS true X2.2.1 X2.2.2 k).1⟩) HS7.out HO7.out (by have := HG0.out; omega) (fun x hx j hj => Nat.lt_succ_of_lt (HB7.out x hx j hj)) ⟨HF7.out, by have := HK.out; show -9223372036854775808 ≤ (K : Int) ∧ (K : Int) ≤ 9223372036854775807; omega⟩ hown8 hg8)
            have hsz : w.heap.size + 1 ≤ wr.heap.size := HR7.out.lt
            have hb8 := (Below.refl (w.heap.size + 1) wr).grown hg8 hsz (fun j hj => (World.ownsRow.lt HS7.out.row j hj).1)
            have HR8 := Lib.hid (HR7.out.below hb8 (Nat.lt_succ_self _))
            have HB9 := Lib.hid ((((HBR.out.grown HG1.out HBR.out.size (fun j hj => by cases hj; exact Nat.le_refl _)).grown HG7.out (Nat.le_trans (Nat.le_of_lt HRD.out.lt) HG1.out.size) (fun j hj => by cases hj; exact Nat.le_refl _))).trans (hb8.mono (Nat.le_succ _)))
            have HZ8 := Lib.hid (show w2.heap.size + 1 ≤ w8.heap.size from Nat.le_trans HZ7.out hg8.size)
            clear hb8 hsz c7 hown8 hg8
            go_wp2_with fail
            go_roundw
            case rel =>
              refine ⟨HB9.out, _, w2.heap.size + 1, _, _, ?_, ?_, HP.out, (by have := HG0.out; omega), HZ8.out, HR8.out, ?_, Lib.hid ?_, Lib.hid ?_⟩
              · have := HL9.out
                rw [List.length_append]
                simp only [List.length_cons, List.length_nil]
                omega
              · rw [List.length_append]
                simp only [List.length_cons, List.length_nil]
                go_num
              · rw [totN_snoc, List.length_append]
                have h1 := HTOT.out
                have h2 := HN.out
                have h3 := HL7.out
                have h4 := HKN.out
                show totN M + (numsS true X2.2.1 X2.2.2 k).1.length ≤ _
                simp only [List.length_cons, List.length_nil]
                omega
              · intro e
                have e1 := HAS.out e
                subst e1
                rw [List.map_append]
                exact HST.out
              · intro e
                exact ReadAll_short (t := (M.map Sg.abs ++ [((K : Int), (numsS true X2.2.1 X2.2.2 n).1)], (numsS true X2.2.1 X2.2.2 n).2)) HST.out (HNS.out e)
            case measure =>
              have := HL9.out
              simp [intOf]
              omega
          · have hknI : ¬ (k : Int) < (n : Int) := by omega
            clear hsk hkn csh
            go_wp2_with (at_builtin; refine wpList_app_one' isSeg rfl (.tmp 52) (.tmp 54) rfl (w.heap.size + 1) _ _ _ rfl wr (Sg.two ⟨(K : Int), A7, d7, (numsS true X2.2.1 X2.2.2 k).1⟩) rfl HS7.out.row rfl rfl (two_one _) ?sz (Nat.le_trans (Nat.succ_le_of_lt HR7.out.lt) (Nat.le_refl _)) ?_)
            case sz => have := HL9.out; omega
            intro v8 w8 hown8 hg8
            have HP := Lib.hid (OwnSegs.push (s := ⟨(K : Int), A7, d7, (numsS true X2.2.1 X2.2.2 k).1⟩) HS7.out HO7.out (by have := HG0.out; omega) (fun x hx j hj => Nat.lt_succ_of_lt (HB7.out x hx j hj)) ⟨HF7.out, by have := HK.out; show -9223372036854775808 ≤ (K : Int) ∧ (K : Int) ≤ 9223372036854775807; omega⟩ hown8 hg8)
            have hsz : w.heap.size + 1 ≤ wr.heap.size := HR7.out.lt
            have hb8 := (Below.refl (w.heap.size + 1) wr).grown hg8 hsz (fun j hj => (World.ownsRow.lt HS7.out.row j hj).1)
            have HR8 := Lib.hid (HR7.out.below hb8 (Nat.lt_succ_self _))
            have HB9 := Lib.hid ((((HBR.out.grown HG1.out HBR.out.size (fun j hj => by cases hj; exact Nat.le_refl _)).grown HG7.out (Nat.le_trans (Nat.le_of_lt HRD.out.lt) HG1.out.size) (fun j hj => by cases hj; exact Nat.le_refl _))).trans (hb8.mono (Nat.le_succ _)))
            have HZ8 := Lib.hid (show w2.heap.size + 1 ≤ w8.heap.size from Nat.le_trans HZ7.out hg8.size)
            clear hb8 hsz c7 hown8 hg8
            go_wp2_with fail
            go_roundw
            case rel =>
              refine ⟨HB9.out, _, w2.heap.size + 1, _, _, ?_, ?_, HP.out, (by have := HG0.out; omega), HZ8.out, HR8.out, ?_, Lib.hid ?_, Lib.hid ?_⟩
              · have := HL9.out
                rw [List.length_append]
                simp only [List.length_cons, List.length_nil]
                omega
              · rw [List.length_append]
                simp only [List.length_cons, List.length_nil]
                go_num
              · rw [totN_snoc, List.length_append]
                have h1 := HTOT.out
                have h2 := HN.out
                have h3 := HL7.out
                have h4 := HKN.out
                show totN M + (numsS true X2.2.1 X2.2.2 k).1.length ≤ _
                simp only [List.length_cons, List.length_nil]
                omega
              · intro e
                have e1 := HAS.out e
                subst e1
                rw [List.map_append]
                exact HST.out
              · intro e
                exact ReadAll_short (t := (M.map Sg.abs ++ [((K : Int), (numsS true X2.2.1 X2.2.2 n).1)], (numsS true X2.2.1 X2.2.2 n).2)) HST.out (HNS.out e)
            case measure =>
              have := HL9.out
              simp [intOf]
              omega
          · have hknI : (k : Int) < (n : Int) := by omega
            rw [hsk] at csh
            clear hsk hkn
            go_wp2_with (at_builtin; refine wpList_app_one' isSeg rfl (.tmp 52) (.tmp 54) rfl (w.heap.size + 1) _ _ _ rfl wr (Sg.two ⟨(K : Int), A7, d7, (numsS true X2.2.1 X2.2.2 k).1⟩) rfl HS7.out.row rfl rfl (two_one _) ?sz (Nat.le_trans (Nat.succ_le_of_lt HR7.out.lt) (Nat.le_refl _)) ?_)
            case sz => have := HL9.out; omega
            intro v8 w8 hown8 hg8
            have HP := Lib.hid (OwnSegs.push (s := ⟨(K : Int), A7, d7, (numsS true X2.2.1 X2.2.2 k).1⟩) HS7.out HO7.out (by have := HG0.out; omega) (fun x hx j hj => Nat.lt_succ_of_lt (HB7.out x hx j hj)) ⟨HF7.out, by have := HK.out; show -9223372036854775808 ≤ (K : Int) ∧ (K : Int) ≤ 9223372036854775807; omega⟩ hown8 hg8)
            have hsz : w.heap.size + 1 ≤ wr.heap.size := HR7.out.lt
            have hb8 := (Below.refl (w.heap.size + 1) wr).grown hg8 hsz (fun j hj => (World.ownsRow.lt HS7.out.row j hj).1)
            have HR8 := Lib.hid (HR7.out.below hb8 (Nat.lt_succ_self _))
            have HB9 := Lib.hid ((((HBR.out.grown HG1.out HBR.out.size (fun j hj => by cases hj; exact Nat.le_refl _)).grown HG7.out (Nat.le_trans (Nat.le_of_lt HRD.out.lt) HG1.out.size) (fun j hj => by cases hj; exact Nat.le_refl _))).trans (hb8.mono (Nat.le_succ _)))
            have HZ8 := Lib.hid (show w2.heap.size + 1 ≤ w8.heap.size from Nat.le_trans HZ7.out hg8.size)
            clear hb8 hsz c7 hown8 hg8
            go_wp2_with fail
            go_roundw
            case rel =>
              refine ⟨HB9.out, _, w2.heap.size + 1, _, _, ?_, ?_, HP.out, (by have := HG0.out; omega), HZ8.out, HR8.out, ?_, Lib.hid ?_, Lib.hid ?_⟩
              · have := HL9.out
                rw [List.length_append]
                simp only [List.length_cons, List.length_nil]
                omega
              · rw [List.length_append]
                simp only [List.length_cons, List.length_nil]
                go_num
              · rw [totN_snoc, List.length_append]
                have h1 := HTOT.out
                have h2 := HN.out
                have h3 := HL7.out
                have h4 := HKN.out
                show totN M + (numsS true X2.2.1 X2.2.2 k).1.length ≤ _
                simp only [List.length_cons, List.length_nil]
                omega
              · intro e
                have e1 := HAS.out e
                subst e1
                rw [List.map_append]
                exact HST.out
              · intro e
                exact ReadAll_short (t := (M.map Sg.abs ++ [((K : Int), (numsS true X2.2.1 X2.2.2 n).1)], (numsS true X2.2.1 X2.2.2 n).2)) HST.out (HNS.out e)
            case measure =>
              have := HL9.out
              simp [intOf]
              omega
    · obtain ⟨A0, c0, rfl, g1, g2⟩ := hown.form
      have QR := Lib.hid (fun m => RefRight_any A0 c0 M (wr.drewN m) hown.segs g1 g2 (show totN M ≤ 1152921504606846976 by omega))
      have HSG := Lib.hid hown.segs
      have csh := hrd.short
      have QL := fun m => refLeft3_any _ _ _ _ _ (wr.drewN m) (show RRd (wr.drewN m) w.heap.size w.heap.size l r s from hrd) hl
      have HBR := Lib.hid hbr
      cases s with
      | true =>
        have hr0 : r = [] := hrd.size.2 rfl
        subst hr0
        have HE := Lib.hid (readL_short (hsh.out rfl))
        have QL0 := Lib.hid (show Calls Tryd.prog 66 #[.pointer (some ⟨w.heap.size, 0, none⟩)] wr fun e w' => e = .returned (.int .i64 0) ∧ ∃ n, w' = wr.drewN n from QL 0)
        clear QL hgo hsh hown hrd htot hbr hgoes
        rcases (show M.length < 9 ∨ M.length = 9 by omega) with h8 | h8
        · have hltI : (M.length : Int) < 9 := by omega
          clear h8
          go_wp2_with fail
          refine QL0.out.mono ?_
          rintro e w2 ⟨rfl, m, rfl⟩
          go_wp2_with fail
          go_ret2
          rw [HE.out]
          exact parsePost_none rfl (below_drewN HBR.out m)
        · have hltI : ¬ (M.length : Int) < 9 := by omega
          clear h8
          go_wp2_with fail
          go_ret2
          rw [HE.out]
          exact parsePost_none rfl HBR.out
      | false =>
        by_cases hr : r = []
        · subst hr
          have hend := readL_end (t := (M.map Sg.abs, [], false)) (hgo.out rfl) rfl
          simp only at hend
          rw [← right_abs] at hend
          have HEND := Lib.hid hend
          have QL0 := Lib.hid (fun m => show Calls Tryd.prog 66 #[.pointer (some ⟨w.heap.size, 0, none⟩)] (wr.drewN m) fun e w' => e = .returned (.int .i64 0) ∧ ∃ n, w' = (wr.drewN m).drewN n from QL m)
          clear QL hgo hsh hown hrd htot hbr hgoes hend
          cases hrb : rightB M with
          | true =>
            rw [hrb] at QR
            have HE := Lib.hid (show readL true l = some (M.map Sg.abs) by rw [HEND.out]; simp [hrb])
            have HF := Lib.hid (fun (W : World) (hb : Below wr.heap.size wr W) => parsePost_some (w := w) (w' := W) ⟨M, A0, c0, rfl, rfl, g1, g2, (HSG.out.below hb (Nat.le_refl _)).lift hb.size, HBR.out.trans (hb.mono HBR.out.size)⟩)
            clear hrb
            rcases (show M.length < 9 ∨ M.length = 9 by omega) with h8 | h8
            · have hltI : (M.length : Int) < 9 := by omega
              clear h8
              go_wp2_with fail
              refine (QL0.out 0).mono ?_
              rintro e w2 ⟨rfl, m, rfl⟩
              go_wp2_with fail
              refine (QL0.out _).mono ?_
              rintro e w3 ⟨rfl, m2, rfl⟩
              go_wp2_with fail
              refine (QR.out _).mono ?_
              rintro e w4 ⟨rfl, rfl⟩
              go_wp2_with fail
              go_ret2
              rw [HE.out]
              exact HF.out _ (below_drewN (Below.refl _ _) _)
            · have hltI : ¬ (M.length : Int) < 9 := by omega
              clear h8
              go_wp2_with fail
              refine (QL0.out 0).mono ?_
              rintro e w3 ⟨rfl, m2, rfl⟩
              go_wp2_with fail
              refine (QR.out _).mono ?_
              rintro e w4 ⟨rfl, rfl⟩
              go_wp2_with fail
              go_ret2
              rw [HE.out]
              exact HF.out _ (below_drewN (Below.refl _ _) _)
          | false =>
            rw [hrb] at QR
            have HE := Lib.hid (show readL true l = none by rw [HEND.out, if_neg]; rw [hrb]; simp)
            clear hrb
            rcases (show M.length < 9 ∨ M.length = 9 by omega) with h8 | h8
            · have hltI : (M.length : Int) < 9 := by omega
              clear h8
              go_wp2_with fail
              refine (QL0.out 0).mono ?_
              rintro e w2 ⟨rfl, m, rfl⟩
              go_wp2_with fail
              refine (QL0.out _).mono ?_
              rintro e w3 ⟨rfl, m2, rfl⟩
              go_wp2_with fail
              refine (QR.out _).mono ?_
              rintro e w4 ⟨rfl, rfl⟩
              go_wp2_with fail
              go_ret2
              rw [HE.out]
              exact parsePost_none rfl (below_drewN HBR.out _)
            · have hltI : ¬ (M.length : Int) < 9 := by omega
              clear h8
              go_wp2_with fail
              refine (QL0.out 0).mono ?_
              rintro e w3 ⟨rfl, m2, rfl⟩
              go_wp2_with fail
              refine (QR.out _).mono ?_
              rintro e w4 ⟨rfl, rfl⟩
              go_wp2_with fail
              go_ret2
              rw [HE.out]
              exact parsePost_none rfl (below_drewN HBR.out _)
        · have h8 : M.length = 9 := by
            by_cases h : M.length < 9
            · exact absurd ⟨h, hr⟩ hgoes
            · omega
          have hltI : ¬ (M.length : Int) < 9 := by omega
          have hposN : 0 < r.length := List.length_pos_iff.2 hr
          have hposD : decide (0 < r.length) = true := decide_eq_true hposN
          have hpos : (0 : Int) < (r.length : Int) := by have := List.length_pos_iff.2 hr; omega
          have HE := Lib.hid (readL_many (t := (M.map Sg.abs, r, false)) (hgo.out rfl) (by simp; omega))
          have QL0 := Lib.hid (show Calls Tryd.prog 66 #[.pointer (some ⟨w.heap.size, 0, none⟩)] wr fun e w' => e = .returned (.int .i64 r.length) ∧ ∃ n, w' = wr.drewN n from QL 0)
          clear QL hgo hsh hown hrd htot hbr hgoes h8 hr
          go_wp2_with fail
          refine QL0.out.mono ?_
          rintro e w2 ⟨rfl, m, rfl⟩
          go_wp2_with fail
          go_ret2
          rw [HE.out]
          exact parsePost_none rfl (below_drewN HBR.out m)


set_option maxHeartbeats 12800000 in
theorem RefRead3_false (A : Option Addr) (c : Nat) (l : List UInt8) (w : World) (h : Bytes w A l) (hc : l.length ≤ c) (hm : c ≤ maxLen) (hl : l.length ≤ 1000000) :
    Calls Tryd.prog 38 #[.slice A l.length c, .bool false] w (ParsePost w (readL false l)) := by
  have hR0 := rrd_start w A l c h hc hm
  have HR0 := Lib.hid hR0
  have HB0 := Lib.hid ((Below.refl w.heap.size w).alloc (Nat.le_refl _) (.cells #[.slice A l.length c, .int .i64 0, .bool false] 83))
  clear h hR0
  go_enter Tryd.func38, Tryd.ntmps38
  go_wp2_with fail
  go_loopw [6, 9] (fun v i wr => RefReadRel w false l v i wr) (fun _ i _ => 9 - (intOf i).toNat)
  case atStart => exact ⟨HB0.out, [], w.heap.size + 1, l, false, by simp, rfl, OwnSegs.nil _ _ _, Nat.le_refl _, by simp, HR0.out, by simp [totN], Lib.hid (fun _ => rfl), Lib.hid (fun e => by cases e)⟩
  case round =>
    clear HR0 HB0
    obtain ⟨hbr, M, H, r, s, h9, rfl, hown, hH, hH2, hrd, htot, hgo, hsh⟩ := hrel
    have hms : (M.length : Int) ≤ 9 := by omega
    by_cases hgoes : M.length < 9 ∧ r ≠ []
    · obtain ⟨hlt9, hr⟩ := hgoes
      have hs0 : s = false := by
        cases s with
        | false => rfl
        | true => exact absurd (hrd.size.2 rfl) hr
      subst hs0
      have hlt9I : (M.length : Int) < 9 := by omega
      have hpos : (0 : Int) < (r.length : Int) := by have := List.length_pos_iff.2 hr; omega
      have QL := Lib.hid (refLeft3_any _ _ _ _ _ wr hrd hl)
      have hst := (readGo_step false (t := (M.map Sg.abs, r, false)) hr).symm.trans (hgo.out rfl)
      have Q1 := Lib.hid (fun m => refNum3_any 1 _ _ _ _ _ (wr.drewN m) (show RRd (wr.drewN m) w.heap.size w.heap.size l r false from hrd) hl (by decide))
      have hK := num_one_lt r false
      have hn2 := num_one_lt (rdTake r false 1).2.1 (rdTake r false 1).2.2
      simp only [readStep, headS] at hst
      obtain ⟨X1, hX1⟩ : ∃ X1, X1 = rdTake r false 1 := ⟨_, rfl⟩
      rw [← hX1] at hst Q1 hK hn2
      obtain ⟨X2, hX2⟩ : ∃ X2, X2 = rdTake X1.2.1 X1.2.2 1 := ⟨_, rfl⟩
      have HX2 := Lib.hid hX2
      rw [← hX2] at hst hn2
      obtain ⟨K, hKe⟩ : ∃ K, K = num X1.1 := ⟨_, rfl⟩
      obtain ⟨n, hne⟩ : ∃ n, n = num X2.1 := ⟨_, rfl⟩
      rw [← hKe, ← hne] at hst
      rw [← hne] at hn2
      rw [← hKe] at hK
      have HST := Lib.hid hst; have HK := Lib.hid hK; have HN := Lib.hid hn2
      have HKE := Lib.hid hKe; have HNE := Lib.hid hne; have HL9 := Lib.hid hlt9
      have HOW := Lib.hid hown; have HBR := Lib.hid hbr; have HRD := Lib.hid hrd; have HTOT := Lib.hid htot
      clear hst hK hn2 hX1 hX2 hKe hne hown hbr hrd htot hgo hr hsh hlt9
      go_wp2_with fail
      refine QL.out.mono ?_
      rintro e w2 ⟨rfl, m, rfl⟩
      go_wp2_with fail
      refine (Q1.out m).mono ?_
      rintro e w2 ⟨rfl, hr1, hg1⟩
      have HR1 := Lib.hid hr1; have HG1 := Lib.hid (show wr.grownBy w2 (some w.heap.size) from ⟨hg1.os, hg1.tape, hg1.output, hg1.size, hg1.block⟩)
      clear hr1 hg1
      rw [← HKE.out]
      go_wp2_with fail
      have hr3 : RRd (w2.alloc (.cells #[.int .i64 (K : Int), .slice none 0 0] 53)) w.heap.size w.heap.size l X1.2.1 X1.2.2 := HR1.out.below ((Below.refl w2.heap.size w2).alloc (Nat.le_refl _) _) HR1.out.lt
      have Q2 := refNum3_any 1 _ _ _ _ _ _ hr3 hl (by decide)
      rw [← HX2.out] at Q2
      have Q2 := Lib.hid Q2
      have HB3 := Lib.hid (Blk.new w2 53 [.int .i64 (K : Int), .slice none 0 0])
      clear hr3
      refine Q2.out.mono ?_
      rintro e w4 ⟨rfl, hr4, hg4⟩
      have HR4 := Lib.hid hr4; have HG4 := Lib.hid hg4
      have hne4 : w2.heap.size ≠ w.heap.size := by have := HR1.out.lt; omega
      have HG24 := Lib.hid (grown_trans (grown_alloc (grown_refl w2 (some w.heap.size)) _) HG4.out)
      have HB4 := Lib.hid (HB3.out.grown HG4.out hne4)
      have HNE4 := Lib.hid hne4
      have HG0 := Lib.hid (show w.heap.size < w2.heap.size + 1 by have := HR1.out.lt; omega)
      clear hr4 hg4 hne4 Q2
      rw [← HNE.out]
      go_wp2_with fail
      go_loopw [12] (fun i wr' => RefNumRel w2 w.heap.size w2.heap.size l (K : Int) false X2.2.1 X2.2.2 n i wr') (fun i _ => n - (intOf i).toNat)
      case atStart => exact ⟨HG24.out, _, 0, Nat.zero_le _, rfl, HB4.out, Own32.nil _ _, HR4.out⟩
      case round =>
        clear HR4 HG4 HB4 HG24 Q1 QL
        obtain ⟨hg, v, k, hk, rfl, hblk, hown, hrd⟩ := hrel
        have csh := hrd.short
        have hkb0 : (k : Int) ≤ 256 := by have := HN.out; omega
        by_cases hgo2 : k < n ∧ (numsS false X2.2.1 X2.2.2 k).2.2 = false
        · obtain ⟨hlt, hsf⟩ := hgo2
          rw [hsf] at csh
          have hkn : (k : Int) < (n : Int) := by omega
          have QN := refNum3_any 2 _ _ _ _ _ wr.drew (show RRd wr.drew w.heap.size w.heap.size l (numsS false X2.2.1 X2.2.2 k).2.1 (numsS false X2.2.1 X2.2.2 k).2.2 from hrd) hl (by decide)
          have HNX := Lib.hid (nums_next false X2.2.1 X2.2.2 k)
          have hlen := (numsS_len false X2.2.1 X2.2.2 k).1
          have hyl := num_take_lt (numsS false X2.2.1 X2.2.2 k).2.1 (numsS false X2.2.1 X2.2.2 k).2.2 false
          have hq : nextN false = 2 := rfl
          rw [hq] at HNX hyl
          obtain ⟨Y, hY⟩ : ∃ Y, Y = rdTake (numsS false X2.2.1 X2.2.2 k).2.1 (numsS false X2.2.1 X2.2.2 k).2.2 2 := ⟨_, rfl⟩
          rw [← hY] at QN HNX hyl
          have hkb : (k : Int) < 256 := by have := HN.out; omega
          have hg2 := HG0.out
          have HBK := Lib.hid hblk
          have HOW2 := Lib.hid hown; have HGW := Lib.hid hg; have HLT := Lib.hid hlt
          have HSZ := Lib.hid (show (numsS false X2.2.1 X2.2.2 k).1.length + 1 ≤ 100000000000 by rw [hlen]; have := HN.out; omega)
          have c1 : wr.cell? ⟨w2.heap.size, 1, none⟩ = some v := hblk.cell 1
          have hvb : some w2.heap.size ≠ v.ownBlock := by
            intro e
            have := (World.ownsRow.lt hown _ e.symm).1
            omega
          have HVB := Lib.hid hvb
          obtain ⟨z, hz⟩ : ∃ z, z = (numsS false X2.2.1 X2.2.2 k).1 := ⟨_, rfl⟩
          rw [← hz] at HOW2 HSZ HNX
          obtain ⟨y, hy⟩ : ∃ y, y = num Y.1 := ⟨_, rfl⟩
          have HYE := Lib.hid hy
          rw [← hy] at HNX hyl
          have hyw : IntKind.u32.wrap (y : Int) = (y : Int) := by
            simp only [IntKind.wrap, IntKind.signed, IntKind.bits]
            first | omega | (simp; omega)
          have HYW := Lib.hid hyw
          have QN2 := Lib.hid (show Calls Tryd.prog 67 #[.pointer (some ⟨w.heap.size, 0, none⟩), .int .i64 2] wr.drew (fun e w' => e = .returned (.int .i64 (y : Int)) ∧ RRd w' w.heap.size w.heap.size l Y.2.1 Y.2.2 ∧ wr.drew.grownBy w' (some w.heap.size)) from by rw [HYE.out]; exact QN)
          clear hlen hY hblk hown hrd hg hlt hvb QN hz hy hsf hq hyl
          go_wp2_with fail
          go_region_law ((first
            | (have hq5 := HO5; clear hq5; refine step_one32 (by rfl) (.tmp 44) (.tmp 49) (by rfl) (w2.heap.size + 1) v z (by rfl) w5 y (by first | rfl | rw [HYW.out]) HO5.out (by rfl) HSZ.out HZ5.out ?_; intro v6 w6 ho6 hg6; have hk6 := (hg6.block _ HK5.out.lt HVB.out).trans HK5.out; have c6 : w6.cell? ⟨w2.heap.size, 1, none⟩ = some v := Blk.cell hk6 1; have f6 : w6.frozen? ⟨w2.heap.size, 1, none⟩ = false := Blk.free hk6 1; have HK6 := Lib.hid hk6; obtain ⟨A6, d6, rfl, q1, q2⟩ := ho6.form; have el : (z ++ [y]).length = z.length + 1 := List.length_append; rw [el] at ho6 q1; have HO6 := Lib.hid ho6; have HG6 := Lib.hid hg6; clear hk6 ho6 hg6)
            | (go_simp; go_at_call 67; refine QN2.out.mono ?_; rintro e w5 ⟨rfl, hr5, hg5⟩; have hk5 := HBK.out.grown (grown_of_drew hg5) HNE4.out; have c5 : w5.cell? ⟨w2.heap.size, 1, none⟩ = some v := hk5.cell 1; have c5a : (w5.alloc (.cells #[.int .u32 (y : Int)] 23)).cell? ⟨w2.heap.size, 1, none⟩ = some v := (Blk.below hk5 ((Below.refl w5.heap.size w5).alloc (Nat.le_refl _) _) hk5.lt).cell 1; have HO5 := Lib.hid (own32_apart HOW2.out (grown_of_drew hg5) HG0.out); have HZ5 := Lib.hid (show w2.heap.size + 1 ≤ w5.heap.size from hk5.lt); have HK5 := Lib.hid hk5; have HR5 := Lib.hid hr5; have HG5 := Lib.hid (grown_of_drew hg5); clear hk5 hr5 hg5)))
          all_goals
            have hb7 := Lib.hid (((Below.refl w2.heap.size w5).grown HG6.out (Nat.le_of_succ_le HZ5.out) (fun j hj => by have := (World.ownsRow.lt HO5.out j hj).1; omega)).setCell (p := ⟨w2.heap.size, 1, none⟩) (Nat.le_refl _) (.slice A6 (z.length + 1) d6))
            have hg7 := Lib.hid (grown_fresh (grown_fresh (grown_trans HGW.out HG5.out) HG6.out (fun j hj => by have := (World.ownsRow.lt HO5.out j hj).1; omega)) (grown_setCell (grown_refl w6 (some w2.heap.size)) 1 (.slice A6 (z.length + 1) d6)) (fun j hj => by cases hj; exact Nat.le_refl _))
            have hr7 := Lib.hid (HR5.out.below hb7.out (by have := HG0.out; have := HNE4.out; omega))
            have hk7 := Lib.hid (Blk.set (show Blk w6 w2.heap.size 53 [.int .i64 (K : Int), v] from HK6.out) 1 (.slice A6 (z.length + 1) d6))
            have ho7 := Lib.hid (own32_apart HO6.out (grown_setCell (grown_refl w6 (some w2.heap.size)) 1 (.slice A6 (z.length + 1) d6)) (Nat.lt_succ_self _))
            clear c5 c5a c6 f6 c1
            go_wp2_with fail
            go_roundw
            case rel =>
              refine ⟨hg7.out, _, k + 1, HLT.out, by go_num, hk7.out, ?_, ?_⟩
              · rw [HNX.out.1]
                exact ho7.out
              · rw [HNX.out.2]
                exact hr7.out
            case measure => have := HLT.out; simp [intOf]; omega
        · have hfit := numsS_fit false X2.2.1 X2.2.2 k
          have hlenz := (numsS_len false X2.2.1 X2.2.2 k).1
          obtain ⟨A7, d7, rfl, e1, e2⟩ := hown.form
          have HS7 := Lib.hid (((HOW.out.apart HG1.out (Nat.lt_succ_self _)).apart hg (Nat.lt_succ_self _)))
          have HB7 := Lib.hid ((HOW.out.apart HG1.out (Nat.lt_succ_self _)).blocks)
          have HO7 := Lib.hid (show Own32 wr (w2.heap.size + 1) (Sg.sl ⟨(K : Int), A7, d7, (numsS false X2.2.1 X2.2.2 k).1⟩) (numsS false X2.2.1 X2.2.2 k).1 from hown)
          have c7 := cells2 hblk
          have HR7 := Lib.hid hrd; have HG7 := Lib.hid hg; have HL7 := Lib.hid hlenz; have HF7 := Lib.hid hfit
          have HZ7 := Lib.hid hblk.lt
          have HKN := Lib.hid hk
          have HNS := Lib.hid (numsS_short false X2.2.1 X2.2.2 k n hk)
          have hlast : (k = n ∧ (numsS false X2.2.1 X2.2.2 k).2.2 = false) ∨ (k = n ∧ (numsS false X2.2.1 X2.2.2 k).2.2 = true) ∨ (k < n ∧ (numsS false X2.2.1 X2.2.2 k).2.2 = true) := by
            cases hsk : (numsS false X2.2.1 X2.2.2 k).2.2 with
            | true => by_cases hkn : k = n
                      · exact .inr (.inl ⟨hkn, rfl⟩)
                      · exact .inr (.inr ⟨by omega, rfl⟩)
            | false => exact .inl ⟨by by_cases hkn : k = n
                                      · exact hkn
                                      · exact absurd ⟨by omega, hsk⟩ hgo2, rfl⟩
          clear hblk hown hrd hg hlenz hfit e1 e2 hgo2 hk
          have HAS := Lib.hid (show ((numsS false X2.2.1 X2.2.2 k).2.2 = false → k = n) from fun e => by
            rcases hlast with h | h | h
            · exact h.1
            · exact h.1
            · rw [e] at h; cases h.2)
          rcases hlast with ⟨hkn, hsk⟩ | ⟨hkn, hsk⟩ | ⟨hkn, hsk⟩
          · have hknI : ¬ (k : Int) < (n : Int) := by omega
            clear hsk hkn csh
            go_wp2_with (at_builtin; refine wpList_app_one' isSeg rfl (.tmp 52) (.tmp 54) rfl (w.heap.size + 1) _ _ _ rfl wr (Sg.two ⟨(K : Int), A7, d7, (numsS false X2.2.1 X2.2.2 k).1⟩) rfl HS7.out.row rfl rfl (two_one _) ?sz (Nat.le_trans (Nat.succ_le_of_lt HR7.out.lt) (Nat.le_refl _)) ?_)
            case sz => have := HL9.out; omega
            intro v8 w8 hown8 hg8
            have HP := Lib.hid (OwnSegs.push (s := ⟨(K : Int), A7, d7, (numsS false X2.2.1 X2.2.2 k).1⟩) HS7.out HO7.out (by have := HG0.out; omega) (fun x hx j hj => Nat.lt_succ_of_lt (HB7.out x hx j hj)) ⟨HF7.out, by have := HK.out; show -9223372036854775808 ≤ (K : Int) ∧ (K : Int) ≤ 9223372036854775807; omega⟩ hown8 hg8)
            have hsz : w.heap.size + 1 ≤ wr.heap.size := HR7.out.lt
            have hb8 := (Below.refl (w.heap.size + 1) wr).grown hg8 hsz (fun j hj => (World.ownsRow.lt HS7.out.row j hj).1)
            have HR8 := Lib.hid (HR7.out.below hb8 (Nat.lt_succ_self _))
            have HB9 := Lib.hid ((((HBR.out.grown HG1.out HBR.out.size (fun j hj => by cases hj; exact Nat.le_refl _)).grown HG7.out (Nat.le_trans (Nat.le_of_lt HRD.out.lt) HG1.out.size) (fun j hj => by cases hj; exact Nat.le_refl _))).trans (hb8.mono (Nat.le_succ _)))
            have HZ8 := Lib.hid (show w2.heap.size + 1 ≤ w8.heap.size from Nat.le_trans HZ7.out hg8.size)
            clear hb8 hsz c7 hown8 hg8
            go_wp2_with fail
            go_roundw
            case rel =>
              refine ⟨HB9.out, _, w2.heap.size + 1, _, _, ?_, ?_, HP.out, (by have := HG0.out; omega), HZ8.out, HR8.out, ?_, Lib.hid ?_, Lib.hid ?_⟩
              · have := HL9.out
                rw [List.length_append]
                simp only [List.length_cons, List.length_nil]
                omega
              · rw [List.length_append]
                simp only [List.length_cons, List.length_nil]
                go_num
              · rw [totN_snoc, List.length_append]
                have h1 := HTOT.out
                have h2 := HN.out
                have h3 := HL7.out
                have h4 := HKN.out
                show totN M + (numsS false X2.2.1 X2.2.2 k).1.length ≤ _
                simp only [List.length_cons, List.length_nil]
                omega
              · intro e
                have e1 := HAS.out e
                subst e1
                rw [List.map_append]
                exact HST.out
              · intro e
                exact ReadAll_short (t := (M.map Sg.abs ++ [((K : Int), (numsS false X2.2.1 X2.2.2 n).1)], (numsS false X2.2.1 X2.2.2 n).2)) HST.out (HNS.out e)
            case measure =>
              have := HL9.out
              simp [intOf]
              omega
          · have hknI : ¬ (k : Int) < (n : Int) := by omega
            clear hsk hkn csh
            go_wp2_with (at_builtin; refine wpList_app_one' isSeg rfl (.tmp 52) (.tmp 54) rfl (w.heap.size + 1) _ _ _ rfl wr (Sg.two ⟨(K : Int), A7, d7, (numsS false X2.2.1 X2.2.2 k).1⟩) rfl HS7.out.row rfl rfl (two_one _) ?sz (Nat.le_trans (Nat.succ_le_of_lt HR7.out.lt) (Nat.le_refl _)) ?_)
            case sz => have := HL9.out; omega
            intro v8 w8 hown8 hg8
            have HP := Lib.hid (OwnSegs.push (s := ⟨(K : Int), A7, d7, (numsS false X2.2.1 X2.2.2 k).1⟩) HS7.out HO7.out (by have := HG0.out; omega) (fun x hx j hj => Nat.lt_succ_of_lt (HB7.out x hx j hj)) ⟨HF7.out, by have := HK.out; show -9223372036854775808 ≤ (K : Int) ∧ (K : Int) ≤ 9223372036854775807; omega⟩ hown8 hg8)
            have hsz : w.heap.size + 1 ≤ wr.heap.size := HR7.out.lt
            have hb8 := (Below.refl (w.heap.size + 1) wr).grown hg8 hsz (fun j hj => (World.ownsRow.lt HS7.out.row j hj).1)
            have HR8 := Lib.hid (HR7.out.below hb8 (Nat.lt_succ_self _))
            have HB9 := Lib.hid ((((HBR.out.grown HG1.out HBR.out.size (fun j hj => by cases hj; exact Nat.le_refl _)).grown HG7.out (Nat.le_trans (Nat.le_of_lt HRD.out.lt) HG1.out.size) (fun j hj => by cases hj; exact Nat.le_refl _))).trans (hb8.mono (Nat.le_succ _)))
            have HZ8 := Lib.hid (show w2.heap.size + 1 ≤ w8.heap.size from Nat.le_trans HZ7.out hg8.size)
            clear hb8 hsz c7 hown8 hg8
            go_wp2_with fail
            go_roundw
            case rel =>
              refine ⟨HB9.out, _, w2.heap.size + 1, _, _, ?_, ?_, HP.out, (by have := HG0.out; omega), HZ8.out, HR8.out, ?_, Lib.hid ?_, Lib.hid ?_⟩
              · have := HL9.out
                rw [List.length_append]
                simp only [List.length_cons, List.length_nil]
                omega
              · rw [List.length_append]
                simp only [List.length_cons, List.length_nil]
                go_num
              · rw [totN_snoc, List.length_append]
                have h1 := HTOT.out
                have h2 := HN.out
                have h3 := HL7.out
                have h4 := HKN.out
                show totN M + (numsS false X2.2.1 X2.2.2 k).1.length ≤ _
                simp only [List.length_cons, List.length_nil]
                omega
              · intro e
                have e1 := HAS.out e
                subst e1
                rw [List.map_append]
                exact HST.out
              · intro e
                exact ReadAll_short (t := (M.map Sg.abs ++ [((K : Int), (numsS false X2.2.1 X2.2.2 n).1)], (numsS false X2.2.1 X2.2.2 n).2)) HST.out (HNS.out e)
            case measure =>
              have := HL9.out
              simp [intOf]
              omega
          · have hknI : (k : Int) < (n : Int) := by omega
            rw [hsk] at csh
            clear hsk hkn
            go_wp2_with (at_builtin; refine wpList_app_one' isSeg rfl (.tmp 52) (.tmp 54) rfl (w.heap.size + 1) _ _ _ rfl wr (Sg.two ⟨(K : Int), A7, d7, (numsS false X2.2.1 X2.2.2 k).1⟩) rfl HS7.out.row rfl rfl (two_one _) ?sz (Nat.le_trans (Nat.succ_le_of_lt HR7.out.lt) (Nat.le_refl _)) ?_)
            case sz => have := HL9.out; omega
            intro v8 w8 hown8 hg8
            have HP := Lib.hid (OwnSegs.push (s := ⟨(K : Int), A7, d7, (numsS false X2.2.1 X2.2.2 k).1⟩) HS7.out HO7.out (by have := HG0.out; omega) (fun x hx j hj => Nat.lt_succ_of_lt (HB7.out x hx j hj)) ⟨HF7.out, by have := HK.out; show -9223372036854775808 ≤ (K : Int) ∧ (K : Int) ≤ 9223372036854775807; omega⟩ hown8 hg8)
            have hsz : w.heap.size + 1 ≤ wr.heap.size := HR7.out.lt
            have hb8 := (Below.refl (w.heap.size + 1) wr).grown hg8 hsz (fun j hj => (World.ownsRow.lt HS7.out.row j hj).1)
            have HR8 := Lib.hid (HR7.out.below hb8 (Nat.lt_succ_self _))
            have HB9 := Lib.hid ((((HBR.out.grown HG1.out HBR.out.size (fun j hj => by cases hj; exact Nat.le_refl _)).grown HG7.out (Nat.le_trans (Nat.le_of_lt HRD.out.lt) HG1.out.size) (fun j hj => by cases hj; exact Nat.le_refl _))).trans (hb8.mono (Nat.le_succ _)))
            have HZ8 := Lib.hid (show w2.heap.size + 1 ≤ w8.heap.size from Nat.le_trans HZ7.out hg8.size)
            clear hb8 hsz c7 hown8 hg8
            go_wp2_with fail
            go_roundw
            case rel =>
              refine ⟨HB9.out, _, w2.heap.size + 1, _, _, ?_, ?_, HP.out, (by have := HG0.out; omega), HZ8.out, HR8.out, ?_, Lib.hid ?_, Lib.hid ?_⟩
              · have := HL9.out
                rw [List.length_append]
                simp only [List.length_cons, List.length_nil]
                omega
              · rw [List.length_append]
                simp only [List.length_cons, List.length_nil]
                go_num
              · rw [totN_snoc, List.length_append]
                have h1 := HTOT.out
                have h2 := HN.out
                have h3 := HL7.out
                have h4 := HKN.out
                show totN M + (numsS false X2.2.1 X2.2.2 k).1.length ≤ _
                simp only [List.length_cons, List.length_nil]
                omega
              · intro e
                have e1 := HAS.out e
                subst e1
                rw [List.map_append]
                exact HST.out
              · intro e
                exact ReadAll_short (t := (M.map Sg.abs ++ [((K : Int), (numsS false X2.2.1 X2.2.2 n).1)], (numsS false X2.2.1 X2.2.2 n).2)) HST.out (HNS.out e)
            case measure =>
              have := HL9.out
              simp [intOf]
              omega
    · obtain ⟨A0, c0, rfl, g1, g2⟩ := hown.form
      have QR := Lib.hid (fun m => RefRight_any A0 c0 M (wr.drewN m) hown.segs g1 g2 (show totN M ≤ 1152921504606846976 by omega))
      have HSG := Lib.hid hown.segs
      have csh := hrd.short
      have QL := fun m => refLeft3_any _ _ _ _ _ (wr.drewN m) (show RRd (wr.drewN m) w.heap.size w.heap.size l r s from hrd) hl
      have HBR := Lib.hid hbr
      cases s with
      | true =>
        have hr0 : r = [] := hrd.size.2 rfl
        subst hr0
        have HE := Lib.hid (readL_short (hsh.out rfl))
        have QL0 := Lib.hid (show Calls Tryd.prog 66 #[.pointer (some ⟨w.heap.size, 0, none⟩)] wr fun e w' => e = .returned (.int .i64 0) ∧ ∃ n, w' = wr.drewN n from QL 0)
        clear QL hgo hsh hown hrd htot hbr hgoes
        rcases (show M.length < 9 ∨ M.length = 9 by omega) with h8 | h8
        · have hltI : (M.length : Int) < 9 := by omega
          clear h8
          go_wp2_with fail
          refine QL0.out.mono ?_
          rintro e w2 ⟨rfl, m, rfl⟩
          go_wp2_with fail
          go_ret2
          rw [HE.out]
          exact parsePost_none rfl (below_drewN HBR.out m)
        · have hltI : ¬ (M.length : Int) < 9 := by omega
          clear h8
          go_wp2_with fail
          go_ret2
          rw [HE.out]
          exact parsePost_none rfl HBR.out
      | false =>
        by_cases hr : r = []
        · subst hr
          have hend := readL_end (t := (M.map Sg.abs, [], false)) (hgo.out rfl) rfl
          simp only at hend
          rw [← right_abs] at hend
          have HEND := Lib.hid hend
          have QL0 := Lib.hid (fun m => show Calls Tryd.prog 66 #[.pointer (some ⟨w.heap.size, 0, none⟩)] (wr.drewN m) fun e w' => e = .returned (.int .i64 0) ∧ ∃ n, w' = (wr.drewN m).drewN n from QL m)
          clear QL hgo hsh hown hrd htot hbr hgoes hend
          cases hrb : rightB M with
          | true =>
            rw [hrb] at QR
            have HE := Lib.hid (show readL false l = some (M.map Sg.abs) by rw [HEND.out]; simp [hrb])
            have HF := Lib.hid (fun (W : World) (hb : Below wr.heap.size wr W) => parsePost_some (w := w) (w' := W) ⟨M, A0, c0, rfl, rfl, g1, g2, (HSG.out.below hb (Nat.le_refl _)).lift hb.size, HBR.out.trans (hb.mono HBR.out.size)⟩)
            clear hrb
            rcases (show M.length < 9 ∨ M.length = 9 by omega) with h8 | h8
            · have hltI : (M.length : Int) < 9 := by omega
              clear h8
              go_wp2_with fail
              refine (QL0.out 0).mono ?_
              rintro e w2 ⟨rfl, m, rfl⟩
              go_wp2_with fail
              refine (QL0.out _).mono ?_
              rintro e w3 ⟨rfl, m2, rfl⟩
              go_wp2_with fail
              refine (QR.out _).mono ?_
              rintro e w4 ⟨rfl, rfl⟩
              go_wp2_with fail
              go_ret2
              rw [HE.out]
              exact HF.out _ (below_drewN (Below.refl _ _) _)
            · have hltI : ¬ (M.length : Int) < 9 := by omega
              clear h8
              go_wp2_with fail
              refine (QL0.out 0).mono ?_
              rintro e w3 ⟨rfl, m2, rfl⟩
              go_wp2_with fail
              refine (QR.out _).mono ?_
              rintro e w4 ⟨rfl, rfl⟩
              go_wp2_with fail
              go_ret2
              rw [HE.out]
              exact HF.out _ (below_drewN (Below.refl _ _) _)
          | false =>
            rw [hrb] at QR
            have HE := Lib.hid (show readL false l = none by rw [HEND.out, if_neg]; rw [hrb]; simp)
            clear hrb
            rcases (show M.length < 9 ∨ M.length = 9 by omega) with h8 | h8
            · have hltI : (M.length : Int) < 9 := by omega
              clear h8
              go_wp2_with fail
              refine (QL0.out 0).mono ?_
              rintro e w2 ⟨rfl, m, rfl⟩
              go_wp2_with fail
              refine (QL0.out _).mono ?_
              rintro e w3 ⟨rfl, m2, rfl⟩
              go_wp2_with fail
              refine (QR.out _).mono ?_
              rintro e w4 ⟨rfl, rfl⟩
              go_wp2_with fail
              go_ret2
              rw [HE.out]
              exact parsePost_none rfl (below_drewN HBR.out _)
            · have hltI : ¬ (M.length : Int) < 9 := by omega
              clear h8
              go_wp2_with fail
              refine (QL0.out 0).mono ?_
              rintro e w3 ⟨rfl, m2, rfl⟩
              go_wp2_with fail
              refine (QR.out _).mono ?_
              rintro e w4 ⟨rfl, rfl⟩
              go_wp2_with fail
              go_ret2
              rw [HE.out]
              exact parsePost_none rfl (below_drewN HBR.out _)
        · have h8 : M.length = 9 := by
            by_cases h : M.length < 9
            · exact absurd ⟨h, hr⟩ hgoes
            · omega
          have hltI : ¬ (M.length : Int) < 9 := by omega
          have hposN : 0 < r.length := List.length_pos_iff.2 hr
          have hposD : decide (0 < r.length) = true := decide_eq_true hposN
          have hpos : (0 : Int) < (r.length : Int) := by have := List.length_pos_iff.2 hr; omega
          have HE := Lib.hid (readL_many (t := (M.map Sg.abs, r, false)) (hgo.out rfl) (by simp; omega))
          have QL0 := Lib.hid (show Calls Tryd.prog 66 #[.pointer (some ⟨w.heap.size, 0, none⟩)] wr fun e w' => e = .returned (.int .i64 r.length) ∧ ∃ n, w' = wr.drewN n from QL 0)
          clear QL hgo hsh hown hrd htot hbr hgoes h8 hr
          go_wp2_with fail
          refine QL0.out.mono ?_
          rintro e w2 ⟨rfl, m, rfl⟩
          go_wp2_with fail
          go_ret2
          rw [HE.out]
          exact parsePost_none rfl (below_drewN HBR.out m)

theorem RefRead3_any (A : Option Addr) (c : Nat) (l : List UInt8) (wide : Bool) (w : World) (h : Bytes w A l) (hc : l.length ≤ c) (hm : c ≤ maxLen) (hl : l.length ≤ 1000000) :
    Calls Tryd.prog 38 #[.slice A l.length c, .bool wide] w (ParsePost w (readL wide l)) := by
  cases wide with
  | true => exact RefRead3_true A c l w h hc hm hl
  | false => exact RefRead3_false A c l w h hc hm hl
end Go.Proofs.YtiegfellgnfiiaaDoor

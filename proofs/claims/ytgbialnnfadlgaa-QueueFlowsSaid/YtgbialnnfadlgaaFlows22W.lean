/-
  P22.3: what is put and taken comes out in order: the walk.
-/
import Derived.Test.YtgbialnnfadlgaaAwake22
import Derived.Test.YtgbialnnfadlgaaInts7
import Derived.Deep.RegionHeld3
namespace Go.Proofs.Ytgbialnnfadlgaa
set_option linter.unusedVariables false
set_option linter.unusedSimpArgs false
open Go.RowKit

theorem Tl.keep {w w' : World} {B g : Nat} {x v v' : Value} {l : List UInt8} (h : Tl w B x l) (k : Keep w w' g v v') (hg : g < B) (hs : ∀ i, v.ownBlock = some i → x.ownBlock ≠ some i) : Tl w' B x l :=
  h.same k.size fun i hi => k.block i (h.lt hi).2 (by have := (h.lt hi).1; omega) (fun e => hs i e hi)
namespace QueueFlows
/-- Where the loop stands: n bytes came, O of them are out, R wait. -/
def Rel (w : World) (b : List UInt8) (M : Int) (z : List Int) (vn vO vi : Value) (wr : World) : Prop :=
  ∃ (j n : Nat) (O R : List UInt8) (v : Value), j ≤ z.length ∧ vi = .int .i64 (j : Int) ∧ vn = .int .i64 (n : Int) ∧ n ≤ b.length ∧ O ++ R = b.take n ∧ Que wr w.heap.size M v R false ∧ Tl wr (w.heap.size + 1) vO O ∧ (∀ i, v.ownBlock = some i → vO.ownBlock ≠ some i) ∧ Below w.heap.size w wr
theorem put_list {b O R : List UInt8} {n k : Nat} (h : O ++ R = b.take n) : O ++ (R ++ (b.drop n).take k) = b.take (n + k) := by
  rw [← List.append_assoc, h, List.take_add]
theorem take_list {b O R : List UInt8} {n : Nat} (k : Nat) (h : O ++ R = b.take n) : (O ++ R.take k) ++ R.drop k = b.take n := by
  rw [List.append_assoc, List.take_append_drop, h]
theorem lens {b O R : List UInt8} {n : Nat} (h : O ++ R = b.take n) (hn : n ≤ b.length) : O.length + R.length = n := by
  have := congrArg List.length h
  rw [List.length_append, List.length_take] at this
  omega

theorem sum_ok {n k N1 L : Nat} (h : N1 = n + k) (h2 : n + k ≤ L) (h3 : (L : Int) ≤ 400) : wrap64 ((n : Int) + (k : Int)) = (N1 : Int) ∧ ¬ (L : Int) < (N1 : Int) := by
  constructor
  · unfold wrap64; omega
  · omega
theorem sum2_ok {n k N1 L a r : Nat} (h4 : a + r = N1) (h : N1 = n + k) (h2 : n + k ≤ L) (h3 : (L : Int) ≤ 400) : wrap64 ((r : Int) + (a : Int)) = (n : Int) + (k : Int) := by
  unfold wrap64; omega
theorem next_val (j : Nat) : Value.int .i64 ((j : Int) + 1) = .int .i64 ((j + 1 : Nat) : Int) := by simp
theorem sum_val {n k N1 : Nat} (h : N1 = n + k) : Value.int .i64 ((n : Int) + (k : Int)) = .int .i64 (N1 : Int) := by rw [h]; simp
theorem next_less {j L : Nat} (h : j < L) : L - (intOf (.int .i64 ((j : Int) + 1))).toNat < L - (intOf (.int .i64 (j : Int))).toNat := by
  simp only [intOf]
  omega
theorem below_drew_of {w w' : World} {B : Nat} (h : Below B w w') : Below w'.heap.size w' w'.drew := (Below.refl _ _).drew
/-- What Put leaves. -/
def PutPost (w : World) (g : Nat) (M : Int) (v : Value) (R m : List UInt8) (k : Nat) (e : Ending) (w' : World) : Prop := e = .returned (.int .i64 (k : Int)) ∧ ∃ v', Que w' g M v' (R ++ m.take k) false ∧ Keep w w' g v v'
theorem put_all {w : World} {g c n : Nat} {M : Int} {v : Value} {R b : List UInt8} {A : Option Addr} (h : Que w g M v R false) (hb : Bytes w A b) (hc : b.length ≤ c) (hcm : c ≤ maxLen) (hn : n ≤ b.length) (hcn : c = n) :
    ∃ k : Nat, n + k ≤ b.length ∧ (R.length : Int) + k ≤ M ∧ Calls Try.prog 11 #[.pointer (some ⟨g, 0, none⟩), .slice A 0 0] w (PutPost w g M v R (b.drop n) k) := by
  have hm := h.2.2
  have hbn : b.drop n = [] := List.drop_eq_nil_of_le (by omega)
  refine ⟨0, by omega, by omega, ?_⟩
  have := Put22_k g M v R A 0 0 [] w h (Bytes.nil _ _) (Nat.le_refl _) (Nat.zero_le _) (by simp; omega)
  rw [hbn]
  exact this
theorem put_more {w : World} {g c n : Nat} {M : Int} {v : Value} {R b : List UInt8} {A : Option Addr} (h : Que w g M v R false) (hb : Bytes w A b) (hc : b.length ≤ c) (hcm : c ≤ maxLen) (hn : n ≤ b.length) (hcn : ¬ c = n) :
    ∃ k : Nat, n + k ≤ b.length ∧ (R.length : Int) + k ≤ M ∧ Calls Try.prog 11 #[.pointer (some ⟨g, 0, none⟩), .slice (A.map (·.add n)) (b.length - n) (c - n)] w (PutPost w g M v R (b.drop n) k) := by
  have hm := h.2.2
  have hy : Bytes w (A.map (·.add n)) (b.drop n) := by
    intro hne
    have hl : n < b.length := Decidable.byContradiction fun h => hne (List.drop_eq_nil_of_le (by omega))
    obtain ⟨bl, off, rfl, hlt, hc⟩ := hb (fun e => by subst e; simp at hl)
    refine ⟨bl, off + n, by simp [Addr.add_lit], hlt, fun j hj => ?_⟩
    rw [List.length_drop] at hj
    rw [Nat.add_assoc, hc (n + j) (by omega)]
    simp [List.getD, List.getElem?_drop]
  refine ⟨min (b.length - n) (M.toNat - R.length), by omega, by omega, ?_⟩
  have := Put22_k g M v R (A.map (·.add n)) (c - n) (min (b.length - n) (M.toNat - R.length)) (b.drop n) w h hy (by rw [List.length_drop]; omega) (by omega) (by rw [List.length_drop]; omega)
  rw [List.length_drop] at this
  exact this
theorem Que.grown {w w' : World} {g : Nat} {M : Int} {v : Value} {R : List UInt8} {s : Bool} {x : Value} {B : Nat} {l : List UInt8} (h : Que w g M v R s) (hg : w.grownBy w' x.ownBlock) (hx : Tl w B x l) (hB : g < B) (hs : ∀ i, v.ownBlock = some i → x.ownBlock ≠ some i) : Que w' g M v R s := by
  refine ⟨(hg.block g h.lt (fun e => ?_)).trans h.1, h.2.1.same hg.size fun i hi => hg.block i (h.2.1.lt hi).2 (fun e => hs i hi e.symm), h.2.2⟩
  have := (hx.lt e.symm).1
  omega

set_option maxRecDepth 100000 in
set_option maxHeartbeats 6400000 in
theorem walk (mo : Int) (A sA : Option Addr) (c sc : Nat) (b : List UInt8) (z : List Int) (w : World) (h0 : 0 ≤ mo) (h1 : mo < 256) (hc : b.length ≤ c) (hcm : c ≤ maxLen) (hb : Bytes w A b) (hz : Ints w sA z) :
    Calls Try.prog 4 #[.int .u8 mo, .slice A b.length c, .slice sA z.length sc] w fun e w' => e = .returned (.bool true) ∧ Below w.heap.size w w' := by
  have hmo : mostN mo = mo := by unfold mostN; rw [if_neg (by omega), if_neg (by omega)]
  by_cases hbl : 400 < (b.length : Int)
  · go_enter Try.func4, Try.ntmps4
    go_wp2_with fail
    refine (awake22_any _).mono ?_
    rintro e w1 ⟨rfl, hb⟩
    go_wp2_with fail
    go_ret
    exact ⟨rfl, hb⟩
  by_cases hzl : 40 < (z.length : Int)
  · go_enter Try.func4, Try.ntmps4
    go_wp2_with fail
    refine (awake22_any _).mono ?_
    rintro e w1 ⟨rfl, hb⟩
    go_wp2_with fail
    go_ret
    exact ⟨rfl, hb⟩
  have N := Lib.hid (New22_any mo w)
  have hq0 := Que.new mo w
  rw [hmo] at hq0 N
  obtain ⟨W1, hW1⟩ : ∃ W, W = w.alloc (.cells #[.int .i64 mo, .slice none 0 0, .bool false] 48) := ⟨_, rfl⟩
  rw [← hW1] at N hq0
  have hb1 : Below w.heap.size w W1 := by rw [hW1]; exact (Below.refl _ _).alloc (Nat.le_refl _) _
  have hs1 : W1.heap.size = w.heap.size + 1 := by rw [hW1]; simp
  clear hW1
  have HQ := Lib.hid hq0; have HB := Lib.hid hb1; have HS1 := Lib.hid hs1
  have HY := Lib.hid hb; have HZ := Lib.hid hz
  clear hq0 hb1 hs1 hb hz
  go_enter Try.func4, Try.ntmps4
  go_wp2_with fail
  refine N.out.mono ?_
  rintro e w1 ⟨rfl, rfl⟩
  go_wp2_with fail
  go_loopw [8, 9, 10] (fun n vO i wr => Rel w b mo z n vO i wr) (fun _ _ i _ => z.length - (intOf i).toNat)
  case atStart =>
    have hs := HS1.out
    refine ⟨0, 0, [], [], .slice none 0 0, Nat.zero_le _, rfl, rfl, Nat.zero_le _, rfl, HQ.out.below ((Below.refl _ _).alloc (Nat.le_refl _) _), ?_, (fun i hi => by cases hi), HB.out.alloc HB.out.size _⟩
    exact .inr ⟨w1.heap.size, 0, 0, rfl, by omega, by simp, Nat.le_refl _, Nat.zero_le _, ⟨#[], (0, 0), heap_alloc_new w1 _⟩, fun j hj => by omega, fun j hj => by simp at hj⟩
  case round =>
    obtain ⟨j, n, O, R, v, hj, rfl, rfl, hn, hl, hq, ht, hsep, hbw⟩ := hrel
    have hlen := lens hl hn
    have HQR := Lib.hid hq; have HT := Lib.hid ht; have HSEP := Lib.hid hsep; have HBW := Lib.hid hbw; have HL := Lib.hid hl; have HLEN := Lib.hid hlen
    clear hq ht hsep hbw hl hlen
    by_cases hlt : j < z.length
    · have hj1 : (j : Int) < (z.length : Int) := by omega
      obtain ⟨zb, zo, rfl, hzb, hcz⟩ := HZ.out.cell hlt
      have HCZ := Lib.hid hcz
      clear hcz
      have hn1 : (n : Int) ≤ (b.length : Int) := by omega
      have hn2 : (n : Int) ≤ (c : Int) := by omega
      have hn3 : 0 ≤ (n : Int) := by omega
      have hn4 : (b.length : Int) ≤ (c : Int) := by omega
      have hm1 : c ≤ 9223372036854775807 := by unfold maxLen at hcm; omega
      by_cases hcn : c = n
      · obtain ⟨k, hk1, hk2, P⟩ := put_all HQR.out (HY.out.below HBW.out) hc hcm hn hcn
        have HP := Lib.hid P
        clear P
        subst hcn
        obtain ⟨N1, hN1⟩ : ∃ N1, N1 = c + k := ⟨_, rfl⟩
        obtain ⟨hw1, hN2⟩ := sum_ok hN1 hk1 hbl
        have HN1 := Lib.hid hN1
        clear hN1
        go_wp2_with fail
        refine HP.out.mono ?_
        rintro e w2 ⟨rfl, v1, hq1, hk⟩
        obtain ⟨R1, hR1⟩ : ∃ R1, R1 = R ++ (b.drop c).take k := ⟨_, rfl⟩
        rw [← hR1] at hq1
        have hl1 : O ++ R1 = b.take N1 := by rw [hR1, HN1.out]; exact put_list HL.out
        have ht1 := HT.out.keep hk (Nat.lt_succ_self _) HSEP.out
        have hsep1 : ∀ i, v1.ownBlock = some i → u9.ownBlock ≠ some i := by
          intro i hi ho
          rcases hk.own with e | e
          · exact HSEP.out i (e ▸ hi) ho
          · have := e i hi; have := (HT.out.lt ho).2; omega
        have hb2 := HBW.out.trans (hk.below (Nat.le_refl _) (fun i hi => Nat.le_of_lt (HQR.out.2.1.lt hi).1) HBW.out.size)
        have hRM : ¬ mo < (R1.length : Int) := by have := hq1.2.2; omega
        have hcz : w2.cell? ⟨zb, zo + j, none⟩ = some (.int .i64 (z.getD j 0)) := (hb2.cell (p := ⟨zb, zo + j, none⟩) hzb).trans HCZ.out
        have HQ1 := Lib.hid hq1; have HL1 := Lib.hid hl1; have HT1 := Lib.hid ht1; have HSP1 := Lib.hid hsep1; have HB2 := Lib.hid hb2
        clear hq1 hk hR1 hl1 ht1 hsep1 hb2 HP
        go_wp2_with fail
        refine (Len22_any _ _ _ _ _ _ HQ1.out).mono ?_
        rintro e w3 ⟨rfl, rfl⟩
        go_wp2_with fail
        obtain ⟨zj, hzj⟩ : ∃ x, x = z[j] := ⟨_, rfl⟩
        rw [← hzj]
        refine (Take22_any _ _ _ _ _ zj _ HQ1.out).mono ?_
        rintro e w4 ⟨A1, c1, v2, rfl, p1, p2, ho, hq2, hk2, hob⟩
        obtain ⟨kk, hkk⟩ : ∃ kk, kk = takeN zj R1 := ⟨_, rfl⟩
        rw [← hkk] at p1 ho hq2
        simp only [← hkk]
        obtain ⟨T1, hT1⟩ : ∃ T1, T1 = R1.take kk := ⟨_, rfl⟩
        rw [← hT1] at p1 ho
        simp only [← hT1]
        obtain ⟨R2, hR2⟩ : ∃ R2, R2 = R1.drop kk := ⟨_, rfl⟩
        rw [← hR2] at hq2
        have hl2 : (O ++ T1) ++ R2 = b.take N1 := by rw [hT1, hR2]; exact take_list kk HL1.out
        have hlen2 := lens hl2 (by have := HN1.out; omega)
        have ht2 := HT1.out.keep hk2 (Nat.lt_succ_self _) HSP1.out
        have hsep2 : ∀ i, v2.ownBlock = some i → u9.ownBlock ≠ some i := by rw [hob]; exact HSP1.out
        have hb4 := HB2.out.trans (hk2.below (Nat.le_refl _) (fun i hi => Nat.le_of_lt (HQ1.out.2.1.lt hi).1) HB2.out.size)
        have hOT : O.length + T1.length ≤ 1000000000 := by rw [List.length_append] at hlen2; omega
        have HQ2 := Lib.hid hq2; have HL2 := Lib.hid hl2; have HT2 := Lib.hid ht2; have HSP2 := Lib.hid hsep2; have HB4 := Lib.hid hb4; have HO := Lib.hid ho; have HLN2 := Lib.hid hlen2; have HOT := Lib.hid hOT
        clear hq2 hk2 hob ho hkk hT1 hR2 hl2 hlen2 ht2 hsep2 hb4 hOT p1 p2 hcz hzj
        go_wp2_with (at_builtin; refine wpList_append_tail isBytes rfl (.tmp 48) (.tmp 54) rfl (w.heap.size + 1) _ O rfl HT2.out (by have := HQ2.out.lt; omega) A1 T1 _ c1 rfl rfl (Own.bytes HO.out) HOT.out ?_)
        intro v3 w5 ht3 hg3 hn3
        have hq3 := Que.grown HQ2.out hg3 HT2.out (Nat.lt_succ_self _) HSP2.out
        have hb5 : Below w.heap.size w w5 := HB4.out.trans ⟨hg3.os, hg3.tape, hg3.output, hg3.size, fun i hi => hg3.block i (Nat.lt_of_lt_of_le hi HB4.out.size) (fun e => by have := (HT2.out.lt e.symm).1; omega)⟩
        have hsep3 : ∀ i, v2.ownBlock = some i → v3.ownBlock ≠ some i := by
          intro i hi ho
          rcases hn3 with e | e
          · exact HSP2.out i hi (e ▸ ho)
          · have := e i ho; have := (HQ2.out.2.1.lt hi).2; omega
        obtain ⟨A4, c4, rfl, _, _, _⟩ := ht3.form
        obtain ⟨LO, hLO⟩ : ∃ LO, LO = (O ++ T1).length := ⟨_, rfl⟩
        have hw2 := sum2_ok HLN2.out HN1.out hk1 hbl
        rw [← hLO] at ht3 hsep3 hw2
        simp only [← hLO]
        have HQ3 := Lib.hid hq3; have HT3 := Lib.hid ht3; have HB5 := Lib.hid hb5; have HSP3 := Lib.hid hsep3
        clear hq3 ht3 hg3 hn3 hb5 hsep3 hLO
        go_wp2_with fail
        refine (Len22_any _ _ _ _ _ _ HQ3.out).mono ?_
        rintro e w6 ⟨rfl, rfl⟩
        go_wp2_with fail
        go_roundw
        case rel => exact ⟨j + 1, N1, O ++ T1, R2, v2, Nat.succ_le_of_lt hlt, next_val j, sum_val HN1.out, HN1.out ▸ hk1, HL2.out, HQ3.out, HT3.out, HSP3.out, HB5.out⟩
        case measure => exact next_less hlt
      · obtain ⟨k, hk1, hk2, P⟩ := put_more HQR.out (HY.out.below HBW.out) hc hcm hn hcn
        have HP := Lib.hid P
        clear P
        obtain ⟨N1, hN1⟩ : ∃ N1, N1 = n + k := ⟨_, rfl⟩
        obtain ⟨hw1, hN2⟩ := sum_ok hN1 hk1 hbl
        have HN1 := Lib.hid hN1
        clear hN1
        go_wp2_with fail
        refine HP.out.mono ?_
        rintro e w2 ⟨rfl, v1, hq1, hk⟩
        obtain ⟨R1, hR1⟩ : ∃ R1, R1 = R ++ (b.drop n).take k := ⟨_, rfl⟩
        rw [← hR1] at hq1
        have hl1 : O ++ R1 = b.take N1 := by rw [hR1, HN1.out]; exact put_list HL.out
        have ht1 := HT.out.keep hk (Nat.lt_succ_self _) HSEP.out
        have hsep1 : ∀ i, v1.ownBlock = some i → u9.ownBlock ≠ some i := by
          intro i hi ho
          rcases hk.own with e | e
          · exact HSEP.out i (e ▸ hi) ho
          · have := e i hi; have := (HT.out.lt ho).2; omega
        have hb2 := HBW.out.trans (hk.below (Nat.le_refl _) (fun i hi => Nat.le_of_lt (HQR.out.2.1.lt hi).1) HBW.out.size)
        have hRM : ¬ mo < (R1.length : Int) := by have := hq1.2.2; omega
        have hcz : w2.cell? ⟨zb, zo + j, none⟩ = some (.int .i64 (z.getD j 0)) := (hb2.cell (p := ⟨zb, zo + j, none⟩) hzb).trans HCZ.out
        have HQ1 := Lib.hid hq1; have HL1 := Lib.hid hl1; have HT1 := Lib.hid ht1; have HSP1 := Lib.hid hsep1; have HB2 := Lib.hid hb2
        clear hq1 hk hR1 hl1 ht1 hsep1 hb2 HP
        go_wp2_with fail
        refine (Len22_any _ _ _ _ _ _ HQ1.out).mono ?_
        rintro e w3 ⟨rfl, rfl⟩
        go_wp2_with fail
        obtain ⟨zj, hzj⟩ : ∃ x, x = z[j] := ⟨_, rfl⟩
        rw [← hzj]
        refine (Take22_any _ _ _ _ _ zj _ HQ1.out).mono ?_
        rintro e w4 ⟨A1, c1, v2, rfl, p1, p2, ho, hq2, hk2, hob⟩
        obtain ⟨kk, hkk⟩ : ∃ kk, kk = takeN zj R1 := ⟨_, rfl⟩
        rw [← hkk] at p1 ho hq2
        simp only [← hkk]
        obtain ⟨T1, hT1⟩ : ∃ T1, T1 = R1.take kk := ⟨_, rfl⟩
        rw [← hT1] at p1 ho
        simp only [← hT1]
        obtain ⟨R2, hR2⟩ : ∃ R2, R2 = R1.drop kk := ⟨_, rfl⟩
        rw [← hR2] at hq2
        have hl2 : (O ++ T1) ++ R2 = b.take N1 := by rw [hT1, hR2]; exact take_list kk HL1.out
        have hlen2 := lens hl2 (by have := HN1.out; omega)
        have ht2 := HT1.out.keep hk2 (Nat.lt_succ_self _) HSP1.out
        have hsep2 : ∀ i, v2.ownBlock = some i → u9.ownBlock ≠ some i := by rw [hob]; exact HSP1.out
        have hb4 := HB2.out.trans (hk2.below (Nat.le_refl _) (fun i hi => Nat.le_of_lt (HQ1.out.2.1.lt hi).1) HB2.out.size)
        have hOT : O.length + T1.length ≤ 1000000000 := by rw [List.length_append] at hlen2; omega
        have HQ2 := Lib.hid hq2; have HL2 := Lib.hid hl2; have HT2 := Lib.hid ht2; have HSP2 := Lib.hid hsep2; have HB4 := Lib.hid hb4; have HO := Lib.hid ho; have HLN2 := Lib.hid hlen2; have HOT := Lib.hid hOT
        clear hq2 hk2 hob ho hkk hT1 hR2 hl2 hlen2 ht2 hsep2 hb4 hOT p1 p2 hcz hzj
        go_wp2_with (at_builtin; refine wpList_append_tail isBytes rfl (.tmp 48) (.tmp 54) rfl (w.heap.size + 1) _ O rfl HT2.out (by have := HQ2.out.lt; omega) A1 T1 _ c1 rfl rfl (Own.bytes HO.out) HOT.out ?_)
        intro v3 w5 ht3 hg3 hn3
        have hq3 := Que.grown HQ2.out hg3 HT2.out (Nat.lt_succ_self _) HSP2.out
        have hb5 : Below w.heap.size w w5 := HB4.out.trans ⟨hg3.os, hg3.tape, hg3.output, hg3.size, fun i hi => hg3.block i (Nat.lt_of_lt_of_le hi HB4.out.size) (fun e => by have := (HT2.out.lt e.symm).1; omega)⟩
        have hsep3 : ∀ i, v2.ownBlock = some i → v3.ownBlock ≠ some i := by
          intro i hi ho
          rcases hn3 with e | e
          · exact HSP2.out i hi (e ▸ ho)
          · have := e i ho; have := (HQ2.out.2.1.lt hi).2; omega
        obtain ⟨A4, c4, rfl, _, _, _⟩ := ht3.form
        obtain ⟨LO, hLO⟩ : ∃ LO, LO = (O ++ T1).length := ⟨_, rfl⟩
        have hw2 := sum2_ok HLN2.out HN1.out hk1 hbl
        rw [← hLO] at ht3 hsep3 hw2
        simp only [← hLO]
        have HQ3 := Lib.hid hq3; have HT3 := Lib.hid ht3; have HB5 := Lib.hid hb5; have HSP3 := Lib.hid hsep3
        clear hq3 ht3 hg3 hn3 hb5 hsep3 hLO
        go_wp2_with fail
        refine (Len22_any _ _ _ _ _ _ HQ3.out).mono ?_
        rintro e w6 ⟨rfl, rfl⟩
        go_wp2_with fail
        go_roundw
        case rel => exact ⟨j + 1, N1, O ++ T1, R2, v2, Nat.succ_le_of_lt hlt, next_val j, sum_val HN1.out, HN1.out ▸ hk1, HL2.out, HQ3.out, HT3.out, HSP3.out, HB5.out⟩
        case measure => exact next_less hlt
    · have hj2 : ¬ (j : Int) < (z.length : Int) := by omega
      obtain ⟨AO, cO, rfl, fO, gO, yO⟩ := HT.out.form
      have hOR := HLEN.out
      have hO : b.take O.length = O := by
        have := congrArg (List.take O.length) HL.out
        rw [List.take_left, List.take_take, Nat.min_eq_left (by omega)] at this
        exact this.symm
      have hR : (b.drop O.length).take R.length = R := by
        have := congrArg (List.drop O.length) HL.out
        rw [List.drop_left, List.drop_take, show n - O.length = R.length by omega] at this
        exact this.symm
      have e1 : (O.length : Int) ≤ (c : Int) := by omega
      have e2 : (O.length : Int) ≤ (n : Int) := by omega
      have e3 : (n : Int) ≤ (c : Int) := by omega
      have e4 : 0 ≤ (O.length : Int) := by omega
      have e5 : 0 ≤ (n : Int) := by omega
      have e6 : n - O.length = R.length := by omega
      have hm1 : c ≤ 9223372036854775807 := by unfold maxLen at hcm; omega
      have y1 := HY.out.below HBW.out
      have HC1 := Lib.hid (fun W hW => conv_bytes (P := Try.prog) (w := W) isBytes (d := 9) (by kernel_rfl) (yO.below hW) cO)
      have y2 := bytes_take O.length y1
      rw [hO] at y2
      have HC2 := Lib.hid (fun W hW => conv_bytes (P := Try.prog) (w := W) isBytes (d := 9) (by kernel_rfl) (y2.below hW) c)
      obtain ⟨AA, hAA⟩ : ∃ AA, (if c = O.length then A else A.map (·.add O.length)) = AA := ⟨_, rfl⟩
      have y3 := bytes_cut (bytes_take n y1) (c := c) (n := O.length) (by rw [List.length_take]; omega) hAA
      have hR' : (b.take n).drop O.length = R := by rw [← HL.out, List.drop_left]
      rw [hR'] at y3
      have HC4 := Lib.hid (fun W hW => conv_bytes (P := Try.prog) (w := W) isBytes (d := 9) (by kernel_rfl) (y3.below hW) (c - O.length))
      have hbc := below_drew_of HBW.out
      clear yO y1 y2 y3 hOR hO hR hR' fO gO
      go_wp2_with fail
      refine wp_region_held_drew (S := fun w' => (convert 29 9 (.slice AO O.length cO)).run Try.prog w' = .ok (.string ⟨O.toArray⟩) w' ∧ (convert 29 9 (.slice A O.length c)).run Try.prog w' = .ok (.string ⟨O.toArray⟩) w' ∧ (convert 29 9 (.slice AA R.length (c - O.length))).run Try.prog w' = .ok (.string ⟨R.toArray⟩) w') (by kernel_rfl) (⟨HC1.out _ hbc, HC2.out _ hbc, HC4.out _ hbc⟩) (fun hHeld => ?_)
      refine wpAnyH_take (i := 0) (v := ?_) rfl (by kernel_rfl) (by kernel_rfl) (by kernel_rfl) (fun _ _ _ h => h) (Or.inl ⟨by rfl, ?_⟩) (by assumption) ?_
      rotate_left
      · intro w hSw; (try dsimp only at hSw); go_simp; (try with_reducible rfl)
      try simp only [List.getElem_toArray, List.getElem_cons_zero, List.getElem_cons_succ, Act.put, List.setIfInBounds_toArray, List.set_cons_zero, List.set_cons_succ]
      refine wpAnyH_take (i := 1) (v := ?_) rfl (by kernel_rfl) (by kernel_rfl) (by kernel_rfl) (fun _ _ _ h => h) (Or.inl ⟨by rfl, ?_⟩) (by assumption) ?_
      rotate_left
      · intro w hSw; (try dsimp only at hSw); go_simp; (try with_reducible rfl)
      try simp only [List.getElem_toArray, List.getElem_cons_zero, List.getElem_cons_succ, Act.put, List.setIfInBounds_toArray, List.set_cons_zero, List.set_cons_succ]
      refine wpAnyH_take (i := 2) (v := ?_) rfl (by kernel_rfl) (by kernel_rfl) (by kernel_rfl) (fun _ _ _ h => h) (Or.inl ⟨by rfl, ?_⟩) (by assumption) ?_
      rotate_left
      · intro w hSw; (try dsimp only at hSw); go_simp; (try with_reducible rfl)
      try simp only [List.getElem_toArray, List.getElem_cons_zero, List.getElem_cons_succ, Act.put, List.setIfInBounds_toArray, List.set_cons_zero, List.set_cons_succ]
      refine wpAnyH_take (i := 3) (v := ?_) rfl (by kernel_rfl) (by kernel_rfl) (by kernel_rfl) (fun _ _ _ h => h) (Or.inl ⟨by rfl, ?_⟩) (by assumption) ?_
      rotate_left
      · intro w hSw; (try dsimp only at hSw); go_simp; (try with_reducible rfl)
      try simp only [List.getElem_toArray, List.getElem_cons_zero, List.getElem_cons_succ, Act.put, List.setIfInBounds_toArray, List.set_cons_zero, List.set_cons_succ]
      refine wpAnyH_take (i := 4) (v := ?_) rfl (by kernel_rfl) (by kernel_rfl) (by kernel_rfl) (fun _ _ _ h => h) (Or.inl ⟨by rfl, ?_⟩) (by assumption) ?_
      rotate_left
      · intro w hSw; (try dsimp only at hSw); go_simp; (try with_reducible rfl)
      try simp only [List.getElem_toArray, List.getElem_cons_zero, List.getElem_cons_succ, Act.put, List.setIfInBounds_toArray, List.set_cons_zero, List.set_cons_succ]
      refine wpAnyH_take (i := 5) (v := ?_) rfl (by kernel_rfl) (by kernel_rfl) (by kernel_rfl) (fun _ _ _ h => h) (Or.inl ⟨by rfl, ?_⟩) (by assumption) ?_
      rotate_left
      · intro w hSw; (try dsimp only at hSw); go_simp; (try with_reducible rfl)
      try simp only [List.getElem_toArray, List.getElem_cons_zero, List.getElem_cons_succ, Act.put, List.setIfInBounds_toArray, List.set_cons_zero, List.set_cons_succ]
      refine wpAnyH_take (i := 6) (v := ?_) rfl (by kernel_rfl) (by kernel_rfl) (by kernel_rfl) (fun _ _ _ h => h) (Or.inl ⟨by rfl, ?_⟩) (by assumption) ?_
      rotate_left
      · intro w hSw; (try dsimp only at hSw); go_simp; (try with_reducible rfl)
      try simp only [List.getElem_toArray, List.getElem_cons_zero, List.getElem_cons_succ, Act.put, List.setIfInBounds_toArray, List.set_cons_zero, List.set_cons_succ]
      refine wpAnyH_take (i := 7) (v := ?_) rfl (by kernel_rfl) (by kernel_rfl) (by kernel_rfl) (fun _ _ _ h => h) (Or.inl ⟨by rfl, ?_⟩) (by assumption) ?_
      rotate_left
      · intro w hSw; (try dsimp only at hSw); go_simp; (try with_reducible rfl)
      try simp only [List.getElem_toArray, List.getElem_cons_zero, List.getElem_cons_succ, Act.put, List.setIfInBounds_toArray, List.set_cons_zero, List.set_cons_succ]
      refine wpAnyH_take (i := 8) (v := ?_) rfl (by kernel_rfl) (by kernel_rfl) (by kernel_rfl) (fun _ _ _ h => h) (Or.inl ⟨by rfl, ?_⟩) (by assumption) ?_
      rotate_left
      · intro w hSw; (try dsimp only at hSw); go_simp; (try with_reducible rfl)
      try simp only [List.getElem_toArray, List.getElem_cons_zero, List.getElem_cons_succ, Act.put, List.setIfInBounds_toArray, List.set_cons_zero, List.set_cons_succ]
      refine wpAnyH_take (i := 9) (v := ?_) rfl (by kernel_rfl) (by kernel_rfl) (by kernel_rfl) (fun _ _ _ h => h) (Or.inl ⟨by rfl, ?_⟩) (by assumption) ?_
      rotate_left
      · intro w hSw; (try dsimp only at hSw); go_simp; (try with_reducible rfl)
      try simp only [List.getElem_toArray, List.getElem_cons_zero, List.getElem_cons_succ, Act.put, List.setIfInBounds_toArray, List.set_cons_zero, List.set_cons_succ]
      refine wpAnyH_take (i := 12) (v := ?_) rfl (by kernel_rfl) (by kernel_rfl) (by kernel_rfl) (fun _ _ _ h => h) (Or.inl ⟨by rfl, ?_⟩) (by assumption) ?_
      rotate_left
      · intro w hSw; (try dsimp only at hSw); go_simp; (try with_reducible rfl)
      try simp only [List.getElem_toArray, List.getElem_cons_zero, List.getElem_cons_succ, Act.put, List.setIfInBounds_toArray, List.set_cons_zero, List.set_cons_succ]
      refine wpAnyH_take (i := 13) (v := ?_) rfl (by kernel_rfl) (by kernel_rfl) (by kernel_rfl) (fun _ _ _ h => h) (Or.inl ⟨by rfl, ?_⟩) (by assumption) ?_
      rotate_left
      · intro w hSw; (try dsimp only at hSw); go_simp; (try with_reducible rfl)
      try simp only [List.getElem_toArray, List.getElem_cons_zero, List.getElem_cons_succ, Act.put, List.setIfInBounds_toArray, List.set_cons_zero, List.set_cons_succ]
      refine wpAnyH_take (i := 14) (v := ?_) rfl (by kernel_rfl) (by kernel_rfl) (by kernel_rfl) (fun _ _ _ h => h) (Or.inl ⟨by rfl, ?_⟩) (by assumption) ?_
      rotate_left
      · intro w hSw; (try dsimp only at hSw); go_simp; (try with_reducible rfl)
      try simp only [List.getElem_toArray, List.getElem_cons_zero, List.getElem_cons_succ, Act.put, List.setIfInBounds_toArray, List.set_cons_zero, List.set_cons_succ]
      refine wpAnyH_take (i := 15) (v := ?_) rfl (by kernel_rfl) (by kernel_rfl) (by kernel_rfl) (fun _ _ _ h => h) (Or.inl ⟨by rfl, ?_⟩) (by assumption) ?_
      rotate_left
      · intro w hSw; (try dsimp only at hSw); go_simp; (try with_reducible rfl)
      try simp only [List.getElem_toArray, List.getElem_cons_zero, List.getElem_cons_succ, Act.put, List.setIfInBounds_toArray, List.set_cons_zero, List.set_cons_succ]
      refine wpAnyH_take (i := 16) (v := ?_) rfl (by kernel_rfl) (by kernel_rfl) (by kernel_rfl) (fun _ _ _ h => h) (Or.inl ⟨by rfl, ?_⟩) (by assumption) ?_
      rotate_left
      · intro w hSw; (try dsimp only at hSw); go_simp; (try with_reducible rfl)
      try simp only [List.getElem_toArray, List.getElem_cons_zero, List.getElem_cons_succ, Act.put, List.setIfInBounds_toArray, List.set_cons_zero, List.set_cons_succ]
      refine wpAnyH_take (i := 17) (v := ?_) rfl (by kernel_rfl) (by kernel_rfl) (by kernel_rfl) (fun _ _ _ h => h) (Or.inl ⟨by rfl, ?_⟩) (by assumption) ?_
      rotate_left
      · intro w hSw; (try dsimp only at hSw); go_simp; (try with_reducible rfl)
      try simp only [List.getElem_toArray, List.getElem_cons_zero, List.getElem_cons_succ, Act.put, List.setIfInBounds_toArray, List.set_cons_zero, List.set_cons_succ]
      refine wpAnyH_ready (rs := [10]) (by kernel_rfl) (by simp) ?_
      refine AllReadyH.cons (o := _) rfl (fun K hK => ?_) AllReadyH.nil
      rw [if_pos (by rfl)]
      go_simp
      go_at_call 20
      refine (Bytes22_any _ _ _ _ _ _ (HQR.out.below hbc)).mono ?_; rintro e wx ⟨A5, c5, rfl, _, _, ho5, hb5⟩; have hC5 := conv_bytes (P := Try.prog) isBytes (d := 9) (by kernel_rfl) (Own.bytes ho5) c5; replace hbc := hbc.trans (hb5.mono hbc.size); clear hb5 ho5
      go_wp2_with fail
      refine hK.out _ _ (⟨HC1.out _ hbc, HC2.out _ hbc, HC4.out _ hbc⟩) (fun hHeld2 => ?_)
      clear hK K hHeld
      have hHeld := hHeld2
      clear hHeld2
      try simp only [List.getElem_toArray, List.getElem_cons_zero, List.getElem_cons_succ, Act.put, List.setIfInBounds_toArray, List.set_cons_zero, List.set_cons_succ]
      refine wpAnyH_ready (rs := [11]) (by kernel_rfl) (by simp) ?_
      refine AllReadyH.cons (o := _) rfl (fun K hK => ?_) AllReadyH.nil
      rw [if_pos (by rfl)]
      go_simp
      refine hK.out _ _ (⟨HC1.out _ hbc, HC2.out _ hbc, HC4.out _ hbc⟩) (fun hHeld2 => ?_)
      clear hK K hHeld
      have hHeld := hHeld2
      clear hHeld2
      try simp only [List.getElem_toArray, List.getElem_cons_zero, List.getElem_cons_succ, Act.put, List.setIfInBounds_toArray, List.set_cons_zero, List.set_cons_succ]
      refine wpAnyH_take (i := 18) (v := ?_) rfl (by kernel_rfl) (by kernel_rfl) (by kernel_rfl) (fun _ _ _ h => h) (Or.inl ⟨by rfl, ?_⟩) (by assumption) ?_
      rotate_left
      · intro w hSw; (try dsimp only at hSw); go_simp; (try with_reducible rfl)
      try simp only [List.getElem_toArray, List.getElem_cons_zero, List.getElem_cons_succ, Act.put, List.setIfInBounds_toArray, List.set_cons_zero, List.set_cons_succ]
      refine wpAnyH_take (i := 19) (v := ?_) rfl (by kernel_rfl) (by kernel_rfl) (by kernel_rfl) (fun _ _ _ h => h) (Or.inl ⟨by rfl, ?_⟩) (by assumption) ?_
      rotate_left
      · intro w hSw; (try dsimp only at hSw); go_simp; (try with_reducible rfl)
      try simp only [List.getElem_toArray, List.getElem_cons_zero, List.getElem_cons_succ, Act.put, List.setIfInBounds_toArray, List.set_cons_zero, List.set_cons_succ]
      refine wpAnyH_take (i := 20) (v := ?_) rfl (by kernel_rfl) (by kernel_rfl) (by kernel_rfl) (fun _ _ _ h => h) (Or.inl ⟨by rfl, ?_⟩) (by assumption) ?_
      rotate_left
      · intro w hSw; (try dsimp only at hSw); go_simp; (try with_reducible rfl)
      try simp only [List.getElem_toArray, List.getElem_cons_zero, List.getElem_cons_succ, Act.put, List.setIfInBounds_toArray, List.set_cons_zero, List.set_cons_succ]
      refine wpAnyH_ready (rs := [21]) (by kernel_rfl) (by simp) ?_
      refine AllReadyH.cons (o := _) rfl (fun K hK => ?_) AllReadyH.nil
      rw [if_pos (by rfl)]
      go_simp
      go_at_call 8
      refine (awake22_any _).mono ?_; rintro e wy ⟨rfl, hb6⟩; replace hbc := hbc.trans (hb6.mono hbc.size); clear hb6
      go_wp2_with fail
      refine hK.out _ _ (⟨HC1.out _ hbc, HC2.out _ hbc, HC4.out _ hbc⟩) (fun hHeld2 => ?_)
      clear hK K hHeld
      have hHeld := hHeld2
      clear hHeld2
      try simp only [List.getElem_toArray, List.getElem_cons_zero, List.getElem_cons_succ, Act.put, List.setIfInBounds_toArray, List.set_cons_zero, List.set_cons_succ]
      refine wpAnyH_take (i := 22) (v := ?_) rfl (by kernel_rfl) (by kernel_rfl) (by kernel_rfl) (fun _ _ _ h => h) (Or.inl ⟨by rfl, ?_⟩) (by assumption) ?_
      rotate_left
      · intro w hSw; (try dsimp only at hSw); go_simp; (try with_reducible rfl)
      try simp only [List.getElem_toArray, List.getElem_cons_zero, List.getElem_cons_succ, Act.put, List.setIfInBounds_toArray, List.set_cons_zero, List.set_cons_succ]
      refine wpAnyH_take (i := 23) (v := ?_) rfl (by kernel_rfl) (by kernel_rfl) (by kernel_rfl) (fun _ _ _ h => h) (Or.inl ⟨by rfl, ?_⟩) (by assumption) ?_
      rotate_left
      · intro w hSw; (try dsimp only at hSw); go_simp; (try with_reducible rfl)
      try simp only [List.getElem_toArray, List.getElem_cons_zero, List.getElem_cons_succ, Act.put, List.setIfInBounds_toArray, List.set_cons_zero, List.set_cons_succ]
      refine wpAnyH_done (by kernel_rfl) ?_ _
      go_wp2_with fail
      go_ret
      exact ⟨rfl, HBW.out.trans (hbc.mono HBW.out.size)⟩
end QueueFlows
end Go.Proofs.Ytgbialnnfadlgaa

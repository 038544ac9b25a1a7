/-
  The head of a message.
-/
import Derived.Test.YtjhmkapafhgofaaDoorTab7
import Derived.Test.YtjhmkapafhgofaaDoorAny7
import Derived.Test.YtjhmkapafhgofaaDoorU16
import Derived.Test.YtjhmkapafhgofaaDoorStr7
namespace Go.Proofs.YtjhmkapafhgofaaDoor
set_option linter.unusedVariables false
open Go.RowKit

/-- What a number leaves, by its value. -/
theorem num_is {k : IntKind} {w : World} {B g N : Nat} {res rest : List UInt8} {s : Bool} {f : FuncId} {xs : Array Value} (h : Calls Tryd.prog f xs w (NumPost k w B g res rest s)) (hN : num res = N) :
    Calls Tryd.prog f xs w fun e w' => e = .returned (.int k (N : Int)) ∧ Rd w' B g rest s ∧ w.grownBy w' (some g) := by
  subst hN; exact h
/-- What head tells, by what its parts say. -/
def HeadVal (w : World) (x : Option (Nat × List UInt8)) (S K : Nat) (e : Ending) (w' : World) : Prop :=
  Below w.heap.size w w' ∧ match x with
    | some (s, d) => ∃ A c, e = .returned (.tuple #[.int .i64 0, .int .i64 0, .agg #[.int .i64 1, .int .i64 (s : Int), .slice A d.length c]]) ∧ d.length ≤ c ∧ c ≤ maxLen ∧ Own w' w.heap.size 5 (.slice A d.length c) d
    | none => e = .returned (.tuple #[.int .i64 (K : Int), .int .i64 (S : Int), .agg #[.int .i64 0, .int .i64 0, .slice none 0 0]])
theorem take16 {l : List UInt8} (h : 19 ≤ l.length) : rdTake l false 16 = (l.take 16, l.drop 16, false) := by unfold rdTake; rw [if_pos (by omega)]; rfl
theorem take2 {l : List UInt8} (h : 19 ≤ l.length) : rdTake (l.drop 16) false 2 = ([l.getD 16 0, l.getD 17 0], l.drop 18, false) := by
  unfold rdTake
  rw [if_pos (by simp; omega)]
  have e1 : ((2 : Int)).toNat = 2 := rfl
  rw [e1, List.drop_drop]
  have e2 : (l.drop 16).take 2 = [l.getD 16 0, l.getD 17 0] := by
    apply List.ext_getElem?
    intro i
    rcases i with _ | _ | i
    · simp [List.getD]; rw [List.getElem?_eq_getElem (by omega)]; simp
    · simp [List.getD]; rw [List.getElem?_eq_getElem (by omega)]; simp
    · simp; omega
  rw [e2]
theorem take1 {l : List UInt8} (h : 19 ≤ l.length) : rdTake (l.drop 18) false 1 = ([l.getD 18 0], l.drop 19, false) := by
  unfold rdTake
  rw [if_pos (by simp; omega)]
  have e1 : ((1 : Int)).toNat = 1 := rfl
  rw [e1, List.drop_drop]
  have e2 : (l.drop 18).take 1 = [l.getD 18 0] := by
    apply List.ext_getElem?
    intro i
    rcases i with _ | i
    · simp [List.getD]; rw [List.getElem?_eq_getElem (by omega)]; simp
    · simp; omega
  rw [e2]
theorem num2 (a b : UInt8) : num [a, b] = 256 * a.toNat + b.toNat := by simp [num]; omega
theorem num1 (a : UInt8) : num [a] = a.toNat := by simp [num]

theorem head_some {w w' : World} {x : Option (Nat × List UInt8)} {S K s : Nat} {d : List UInt8} {n c : Nat} {A : Option Addr} (hf : x = some (s, d)) (hn : n = d.length) (hb : Below w.heap.size w w') (h1 : d.length ≤ c) (h2 : c ≤ maxLen) (ho : Own w' w.heap.size 5 (.slice A d.length c) d) :
    HeadVal w x S K (.returned (.tuple #[.int .i64 0, .int .i64 0, .agg #[.int .i64 1, .int .i64 (s : Int), .slice A n c]])) w' := by
  subst hf; subst hn
  exact ⟨hb, A, c, rfl, h1, h2, ho⟩
theorem head_none {w w' : World} {x : Option (Nat × List UInt8)} {S K : Nat} (hf : x = none) (hb : Below w.heap.size w w') :
    HeadVal w x S K (.returned (.tuple #[.int .i64 (K : Int), .int .i64 (S : Int), .agg #[.int .i64 0, .int .i64 0, .slice none 0 0]])) w' := by
  subst hf
  exact ⟨hb, rfl⟩

set_option maxHeartbeats 12800000 in
theorem head_core (A : Option Addr) (c : Nat) (l D16 D2 D1 R1 R2 R3 : List UInt8) (S K : Nat) (w : World) (h : Bytes w A l) (h1 : l.length ≤ c) (h2 : c ≤ maxLen) (hm : l.length ≤ 1000000)
    (t16 : rdTake l false 16 = (D16, R1, false)) (t2 : rdTake R1 false 2 = (D2, R2, false)) (t1 : rdTake R2 false 1 = (D1, R3, false)) (l16 : D16.length ≤ 16) (lr : R1.length ≤ 1000000) (l2 : D2.length = 2) (n2 : num D2 = S) (n1 : num D1 = K)
    (hS : S < 65536) (hK : K < 256) (sy : Bool) (hsy : (D16.all fun b => b == 255) = sy) (ht : TabL w) :
    Calls Tryd.prog 27 #[.slice A l.length c] w (HeadVal w (headAns sy S K D2) S K) := by
  have hb0 := (Below.refl w.heap.size w).alloc (Nat.le_refl _) (.cells #[.int .i64 0, .int .i64 0, .slice none 0 0] 33)
  have hsz : (w.alloc (.cells #[.int .i64 0, .int .i64 0, .slice none 0 0] 33)).heap.size = w.heap.size + 1 := by simp
  have qn := New_any A l.length c l rfl (w.alloc (.cells #[.int .i64 0, .int .i64 0, .slice none 0 0] 33)) (h.alloc _) h1 h2
  rw [hsz] at qn
  have QN := Lib.hid qn
  have HT := Lib.hid (fun W (hB : Below w.heap.size w W) => ht.below hB ht.lt)
  have HK0 := Lib.hid (show Blk (w.alloc (.cells #[.int .i64 0, .int .i64 0, .slice none 0 0] 33)) w.heap.size 33 [.int .i64 0, .int .i64 0, .slice none 0 0] from Blk.new w _ _)
  have HUP := Lib.hid (fun W (hB : Below (w.heap.size + 1) (w.alloc (.cells #[.int .i64 0, .int .i64 0, .slice none 0 0] 33)) W) => hb0.trans (hB.mono (Nat.le_succ _)))
  have HSZ := Lib.hid (fun W (hB : Below (w.heap.size + 1) (w.alloc (.cells #[.int .i64 0, .int .i64 0, .slice none 0 0] 33)) W) => (show w.heap.size + 1 ≤ W.heap.size by have := hB.size; rwa [hsz] at this))
  have T16 := Lib.hid t16; have T2 := Lib.hid t2; have T1 := Lib.hid t1; have N2 := Lib.hid n2; have N1 := Lib.hid n1; have L2 := Lib.hid l2; have L16 := Lib.hid l16; have LR := Lib.hid lr; have HSY := Lib.hid hsy
  clear h ht hb0 hsz qn t16 t2 t1 n2 n1 l2 l16 lr hsy
  go_enter Tryd.func27, Tryd.ntmps27
  go_wp2_with fail
  refine QN.out.mono ?_
  rintro e w1 ⟨rfl, hr1, hb1⟩
  have Q1 := Take_any 16 _ _ l false w1 hr1 (by omega)
  rw [T16.out] at Q1
  have Q1 := Lib.hid Q1
  have HR1 := Lib.hid hr1; have HB1 := Lib.hid hb1; clear hr1 hb1
  go_wp2_with fail
  refine Q1.out.mono ?_
  rintro e w2 ⟨A2, c2, rfl, f2, g2, ho2, hr2, hg2⟩
  have Q2 := Take_any 2 _ _ R1 false w2 hr2 LR.out
  rw [T2.out] at Q2
  have Q2 := Lib.hid Q2
  have HB2 := Lib.hid (HB1.out.trans (below_of_grown hg2 (HSZ.out _ HB1.out) (Nat.le_refl _)))
  have HL2 := Lib.hid hr2.lt
  have HLO := Lib.hid (Nat.lt_of_succ_lt hr2.lt)
  have HO2 := Lib.hid ho2; clear ho2 hr2 hg2 Q1
  go_wp2_with fail
  refine Q2.out.mono ?_
  rintro e w3 ⟨A3, c3, rfl, f3, g3, ho3, hr3, hg3⟩
  have HB3 := Lib.hid (HB2.out.trans (below_of_grown hg3 (HSZ.out _ HB2.out) (Nat.le_refl _)))
  have HO2 := Lib.hid (HO2.out.beside hg3 HR1.out.lt)
  have Q3 := Byte_any _ _ R2 false w3 hr3
  rw [T1.out] at Q3
  have Q3 := Lib.hid (num_is Q3 N1.out)
  have HO3 := Lib.hid ho3; clear ho3 hr3 hg3 Q2
  go_wp2_with fail
  refine Q3.out.mono ?_
  rintro e w4 ⟨rfl, hr4, hg4⟩
  have HB4 := Lib.hid (HB3.out.trans (below_of_grown hg4 (HSZ.out _ HB3.out) (Nat.le_refl _)))
  have HO2 := Lib.hid (HO2.out.beside hg4 HR1.out.lt)
  have HO3 := Lib.hid (HO3.out.beside hg4 HL2.out)
  have Q4 := Lib.hid (New_any A3 D2.length c3 D2 rfl w4 HO3.out.bytes f3 g3)
  clear hr4 hg4 Q3
  go_wp2_with fail
  refine Q4.out.mono ?_
  rintro e w5 ⟨rfl, hr5, hb5⟩
  have Q5 := U16_any _ _ D2 false w5 hr5
  have e5 : rdTake D2 false 2 = (D2, [], false) := by
    unfold rdTake
    rw [if_pos (by rw [L2.out]; omega)]
    have e1 : ((2 : Int)).toNat = 2 := rfl
    rw [e1, List.take_of_length_le (by rw [L2.out]; omega), List.drop_eq_nil_of_le (by rw [L2.out]; omega)]
  rw [e5] at Q5
  have Q5 := Lib.hid (num_is Q5 N2.out)
  have HB5 := Lib.hid hb5; clear hr5 hb5 e5 Q4
  go_wp2_with fail
  refine Q5.out.mono ?_
  rintro e w6 ⟨rfl, hr6, hg6⟩
  have HB46 := Lib.hid (HB5.out.trans (below_of_grown hg6 HB5.out.size (Nat.le_refl _)))
  have HB6 := Lib.hid (HB4.out.trans (HB46.out.mono (HSZ.out _ HB4.out)))
  have HO2 := Lib.hid (HO2.out.below HB46.out)
  have HO3 := Lib.hid (HO3.out.below HB46.out)
  have HZ6 := Lib.hid (HSZ.out _ HB6.out)
  have q6 := ContainsFunc7_any A2 c2 D16 w6 HO2.out.bytes (by have := L16.out; omega)
  rw [HSY.out] at q6
  have Q6 := Lib.hid q6
  have QL := Lib.hid (Least_any (K : Int) w6 (HT.out _ (HUP.out _ HB6.out)))
  obtain ⟨L, hL⟩ : ∃ L, L = leastN (K : Int) := ⟨_, rfl⟩
  have HLe := Lib.hid (show L ≤ 29 by rw [hL]; exact leastN_le _)
  have HL4 := Lib.hid (show K = 4 → L = 19 by intro h; subst h; rw [hL]; exact leastN_four)
  rw [← hL] at QL
  have HLL := Lib.hid hL
  clear hr6 hg6 Q5 q6 hL
  cases sy with
  | false =>
    go_wp2_with fail
    refine Q6.out.mono ?_
    rintro e w6' ⟨rfl, rfl⟩
    go_wp2_with fail
    refine (fault_any 1 none 0 0 _).mono ?_
    rintro e w7 ⟨rfl, hb7⟩
    have HB7 := Lib.hid (HB6.out.trans (hb7.mono HZ6.out))
    have k7 := HK0.out.below HB7.out (Nat.lt_succ_self _)
    have c7 := cells3 k7
    have f7 := free3 k7
    have r7 := res3 (.int .i64 1) (.int .i64 1) (.slice none 0 0) k7
    clear k7 hb7
    go_wp2_with fail
    exact bodyPost_ret (v := .tuple #[.int .i64 0, .int .i64 0, .agg #[.int .i64 1, .int .i64 1, .slice none 0 0]]) (by simp [results, Tryd.results27, go_sem, r7.1, r7.2.1, r7.2.2]) rfl (head_some (s := 1) (d := []) ans1 rfl (below_set3' (HUP.out _ HB7.out) (Nat.le_refl _)) (Nat.le_refl _) (Nat.zero_le _) (Own.nil _ _ _))
  | true =>
    go_wp2_with fail
    refine Q6.out.mono ?_
    rintro e w6' ⟨rfl, rfl⟩
    clear Q6
    by_cases h19 : S < 19 ∨ 4096 < S
    · have AN := Lib.hid (ans2 (K := K) (D := D2) h19)
      rcases (show S < 19 ∨ ¬ S < 19 ∧ 4096 < S by omega) with h19 | ⟨h18, h19⟩
      · clear QL
        go_wp2_with fail
        refine (fault_any 2 A3 D2.length c3 _).mono ?_
        rintro e w7 ⟨rfl, hb7⟩
        have HB7 := Lib.hid (HB6.out.trans (hb7.mono HZ6.out))
        have HO7 := Lib.hid (HO3.out.below hb7)
        have k7 := HK0.out.below HB7.out (Nat.lt_succ_self _)
        have c7 := cells3 k7
        have f7 := free3 k7
        have r7 := res3 (.int .i64 1) (.int .i64 2) (.slice A3 D2.length c3) k7
        clear k7 hb7
        go_wp2_with fail
        exact bodyPost_ret (v := .tuple #[.int .i64 0, .int .i64 0, .agg #[.int .i64 1, .int .i64 2, .slice A3 D2.length c3]]) (by simp [results, Tryd.results27, go_sem, r7.1, r7.2.1, r7.2.2]) rfl (head_some (s := 2) (d := D2) AN.out rfl (below_set3' (HUP.out _ HB7.out) (Nat.le_refl _)) f3 g3 ((HO7.out.beside (grown_set3 _ _ _ _ _) HLO.out).lower (Nat.le_of_lt HLO.out)))
      · clear QL
        go_wp2_with fail
        refine (fault_any 2 A3 D2.length c3 _).mono ?_
        rintro e w7 ⟨rfl, hb7⟩
        have HB7 := Lib.hid (HB6.out.trans (hb7.mono HZ6.out))
        have HO7 := Lib.hid (HO3.out.below hb7)
        have k7 := HK0.out.below HB7.out (Nat.lt_succ_self _)
        have c7 := cells3 k7
        have f7 := free3 k7
        have r7 := res3 (.int .i64 1) (.int .i64 2) (.slice A3 D2.length c3) k7
        clear k7 hb7
        go_wp2_with fail
        exact bodyPost_ret (v := .tuple #[.int .i64 0, .int .i64 0, .agg #[.int .i64 1, .int .i64 2, .slice A3 D2.length c3]]) (by simp [results, Tryd.results27, go_sem, r7.1, r7.2.1, r7.2.2]) rfl (head_some (s := 2) (d := D2) AN.out rfl (below_set3' (HUP.out _ HB7.out) (Nat.le_refl _)) f3 g3 ((HO7.out.beside (grown_set3 _ _ _ _ _) HLO.out).lower (Nat.le_of_lt HLO.out)))
    · have h18 : ¬ S < 19 := by omega
      have h40 : ¬ 4096 < S := by omega
      by_cases hL0 : L = 0
      · have HX0 := Lib.hid (ans3 (D := D2) h19 (HLL.out ▸ hL0))
        subst hL0
        go_wp2_with fail
        refine QL.out.mono ?_
        rintro e w6' ⟨rfl, rfl⟩
        clear QL
        have HBX := Lib.hid (HB6.out.alloc HZ6.out (.cells #[.int .u8 (K : Int)] 5))
        have HZX := Lib.hid (HSZ.out _ HBX.out)
        have HOB := Lib.hid (own_one w6 5 K hK)
        go_wp2_with fail
        refine (fault_any 3 (some ⟨w6.heap.size, 0, none⟩) 1 1 _).mono ?_
        rintro e w7 ⟨rfl, hb7⟩
        have HB7 := Lib.hid (HBX.out.trans (hb7.mono HZX.out))
        have HO7 := Lib.hid (HOB.out.below hb7)
        have k7 := HK0.out.below HB7.out (Nat.lt_succ_self _)
        have c7 := cells3 k7
        have f7 := free3 k7
        have r7 := res3 (.int .i64 1) (.int .i64 3) (.slice (some ⟨w6.heap.size, 0, none⟩) 1 1) k7
        clear k7 hb7
        go_wp2_with fail
        exact bodyPost_ret (v := .tuple #[.int .i64 0, .int .i64 0, .agg #[.int .i64 1, .int .i64 3, .slice (some ⟨w6.heap.size, 0, none⟩) 1 1]]) (by simp [results, Tryd.results27, go_sem, r7.1, r7.2.1, r7.2.2]) rfl (head_some (s := 3) (d := [UInt8.ofNat K]) HX0.out rfl (below_set3' (HUP.out _ HB7.out) (Nat.le_refl _)) (Nat.le_refl _) (by unfold maxLen; simp) ((HO7.out.beside (grown_set3 _ _ _ _ _) HZ6.out).lower (Nat.le_of_lt HZ6.out)))
      · have hl0 : ((L : Int) == 0) = false := by simpa using hL0
        by_cases h4 : S < L ∨ K = 4 ∧ 19 < S
        · have AN := Lib.hid (ans4 (D := D2) h19 (HLL.out ▸ hL0) (HLL.out ▸ h4))
          rcases (show S < L ∨ ¬ S < L ∧ K = 4 ∧ 19 < S by omega) with hs | ⟨hs, hk4, hs4⟩
          · clear h4 h19 hL0
            go_wp2_with (go_at_call 12; refine QL.out.mono ?_; rintro e w6' ⟨rfl, rfl⟩)
            clear QL
            refine (fault_any 2 A3 D2.length c3 _).mono ?_
            rintro e w7 ⟨rfl, hb7⟩
            have HB7 := Lib.hid (HB6.out.trans (hb7.mono HZ6.out))
            have HO7 := Lib.hid (HO3.out.below hb7)
            have k7 := HK0.out.below HB7.out (Nat.lt_succ_self _)
            have c7 := cells3 k7
            have f7 := free3 k7
            have r7 := res3 (.int .i64 1) (.int .i64 2) (.slice A3 D2.length c3) k7
            clear k7 hb7
            go_wp2_with fail
            exact bodyPost_ret (v := .tuple #[.int .i64 0, .int .i64 0, .agg #[.int .i64 1, .int .i64 2, .slice A3 D2.length c3]]) (by simp [results, Tryd.results27, go_sem, r7.1, r7.2.1, r7.2.2]) rfl (head_some (s := 2) (d := D2) AN.out rfl (below_set3' (HUP.out _ HB7.out) (Nat.le_refl _)) f3 g3 ((HO7.out.beside (grown_set3 _ _ _ _ _) HLO.out).lower (Nat.le_of_lt HLO.out)))
          · have hb4 : ((K : Int) == 4) = true := by simp; omega
            have hb5 : ((S : Int) != (L : Int)) = true := by have := HL4.out hk4; simp; omega
            clear h4 h19 hL0 hk4
            go_wp2_with (go_at_call 12; refine QL.out.mono ?_; rintro e w6' ⟨rfl, rfl⟩)
            clear QL
            refine (fault_any 2 A3 D2.length c3 _).mono ?_
            rintro e w7 ⟨rfl, hb7⟩
            have HB7 := Lib.hid (HB6.out.trans (hb7.mono HZ6.out))
            have HO7 := Lib.hid (HO3.out.below hb7)
            have k7 := HK0.out.below HB7.out (Nat.lt_succ_self _)
            have c7 := cells3 k7
            have f7 := free3 k7
            have r7 := res3 (.int .i64 1) (.int .i64 2) (.slice A3 D2.length c3) k7
            clear k7 hb7
            go_wp2_with fail
            exact bodyPost_ret (v := .tuple #[.int .i64 0, .int .i64 0, .agg #[.int .i64 1, .int .i64 2, .slice A3 D2.length c3]]) (by simp [results, Tryd.results27, go_sem, r7.1, r7.2.1, r7.2.2]) rfl (head_some (s := 2) (d := D2) AN.out rfl (below_set3' (HUP.out _ HB7.out) (Nat.le_refl _)) f3 g3 ((HO7.out.beside (grown_set3 _ _ _ _ _) HLO.out).lower (Nat.le_of_lt HLO.out)))
        · have AN := Lib.hid (ans5 (D := D2) h19 (HLL.out ▸ hL0) (HLL.out ▸ h4))
          have hs : ¬ S < L := by omega
          have k6 := HK0.out.below HB6.out (Nat.lt_succ_self _)
          have c6 := cells3 k6
          have f6 := free3 k6
          have r6 := res3 (.int .i64 0) (.int .i64 0) (.slice none 0 0) k6
          clear k6
          by_cases hk4 : K = 4
          · have hb4 : ((K : Int) == 4) = true := by simp; omega
            have hb5 : ((S : Int) != (L : Int)) = false := by have := HL4.out hk4; simp; omega
            clear h4 h19 hL0 hk4
            go_wp2_with (go_at_call 12; refine QL.out.mono ?_; rintro e w6' ⟨rfl, rfl⟩)
            exact bodyPost_ret (v := .tuple #[.int .i64 (K : Int), .int .i64 (S : Int), .agg #[.int .i64 0, .int .i64 0, .slice none 0 0]]) (by simp [results, Tryd.results27, go_sem, r6.1, r6.2.1, r6.2.2]) rfl (head_none AN.out (below_set3' (HUP.out _ HB6.out) (Nat.le_refl _)))
          · have hb4 : ((K : Int) == 4) = false := by simp; omega
            clear h4 h19 hL0 hk4
            go_wp2_with (go_at_call 12; refine QL.out.mono ?_; rintro e w6' ⟨rfl, rfl⟩)
            exact bodyPost_ret (v := .tuple #[.int .i64 (K : Int), .int .i64 (S : Int), .agg #[.int .i64 0, .int .i64 0, .slice none 0 0]]) (by simp [results, Tryd.results27, go_sem, r6.1, r6.2.1, r6.2.2]) rfl (head_none AN.out (below_set3' (HUP.out _ HB6.out) (Nat.le_refl _)))

theorem head_any (A : Option Addr) (c : Nat) (l : List UInt8) (w : World) (h : Bytes w A l) (h1 : l.length ≤ c) (h2 : c ≤ maxLen) (hl : 19 ≤ l.length) (hm : l.length ≤ 1000000) (ht : TabL w) :
    Calls Tryd.prog 27 #[.slice A l.length c] w (HeadVal w (faultF l) (sizeF l) (kindF l)) :=
  head_core A c l (l.take 16) [l.getD 16 0, l.getD 17 0] [l.getD 18 0] (l.drop 16) (l.drop 18) (l.drop 19) (sizeF l) (kindF l) w h h1 h2 hm (take16 hl) (take2 hl) (take1 hl) (by simp; omega) (by simp; omega) rfl (num2 _ _) (num1 _) (sizeF_lt l) (kindF_lt l) (syncB l) rfl ht
end Go.Proofs.YtjhmkapafhgofaaDoor

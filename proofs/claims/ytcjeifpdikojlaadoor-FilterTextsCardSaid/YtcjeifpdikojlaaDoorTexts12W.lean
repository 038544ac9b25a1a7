/-
  P12.3, P12.4: any range as a text, that is read as it was; and which one any text is (written by gen12t.py).
-/
import Derived.Test.YtcjeifpdikojlaaDoorAwake12
import Derived.Test.YtcjeifpdikojlaaDoorRefPR12
namespace Go.Proofs.YtcjeifpdikojlaaDoor
set_option linter.unusedVariables false
set_option linter.unusedSimpArgs false
open Go.RowKit

def r0 (r : Option (Nat × Nat × Nat × Nat)) : Nat := match r with | none => 0 | some x => x.1
def r1 (r : Option (Nat × Nat × Nat × Nat)) : Nat := match r with | none => 0 | some x => x.2.1
def r2 (r : Option (Nat × Nat × Nat × Nat)) : Nat := match r with | none => 0 | some x => x.2.2.1
def r3 (r : Option (Nat × Nat × Nat × Nat)) : Nat := match r with | none => 0 | some x => x.2.2.2
theorem retPR_eq (r : Option (Nat × Nat × Nat × Nat)) : retPR r = .tuple #[.agg #[.int .u32 (r0 r : Int), .int .i64 (r1 r : Int), .int .i64 (r2 r : Int), .int .i64 (r3 r : Int)], .bool r.isSome] := by
  cases r <;> rfl
theorem parseR_nil : parseR [] = none := parseR_none (show parseP (cutL [] 32).1 = none from parseP_nil)
theorem textR_len {a : Nat} {n mn mx : Int} (ha : a < 4294967296) : (textR (a : Int) n mn mx).length ≤ 30 := by
  unfold textR
  split
  · next h =>
    obtain ⟨g0, g1, g2, g3⟩ := okR_parts h
    have g4 := (okP_range g0).1
    have l0 := textP_len12 (n := n) ha
    have l1 := textL_len12 (n := mn) (by omega) (by omega)
    have l2 := textL_len12 (n := mx) (by omega) (by omega)
    simp only [List.length_append, List.length_cons, List.length_nil]
    omega
  · simp

set_option maxHeartbeats 6400000 in
theorem texts_ok (a k p q : Nat) (l : List UInt8) (w : World) (ha : a < 4294967296) (hk : k ≤ 32) (hp : p ≤ 32) (hq : q ≤ 32) (hok : okR (a : Int) (k : Int) (p : Int) (q : Int) = true) (hm : l.length ≤ maxLen) (ht : Tab w) :
    Calls Tryd.prog 6 #[.agg #[.int .u32 (a : Int), .int .i64 (k : Int), .int .i64 (p : Int), .int .i64 (q : Int)], .string ⟨l.toArray⟩] w fun e w' => e = .returned (.bool true) ∧ Below w.heap.size w w' := by
  obtain ⟨W0, hW0⟩ : ∃ W0, W0 = w.alloc (.cells #[.int .u32 (a : Int), .int .i64 (k : Int), .int .i64 (p : Int), .int .i64 (q : Int)] 35) := ⟨_, rfl⟩
  have HS := Lib.hid (fun w' hb => box4_cells w (.int .u32 (a : Int)) (.int .i64 (k : Int)) (.int .i64 (p : Int)) (.int .i64 (q : Int)) 35 (w' := w') hb)
  have hbw : ∀ w', Below W0.heap.size W0 w' → Below w.heap.size w w' := fun w' h => by rw [hW0] at h; exact below_box h
  rw [← hW0] at HS
  have HT := Lib.hid (fun (w' : World) (hb : Below W0.heap.size W0 w') => ht.below (hbw w' hb) ht.lt)
  have HBW := Lib.hid hbw
  have hbc : Below W0.heap.size W0 W0 := Below.refl _ _
  have hml := hm
  unfold maxLen at hml
  have tl := textR_len (n := (k : Int)) (mn := (p : Int)) (mx := (q : Int)) ha
  have Q1 := fun W ht => Lib.hid (Text12_any a (k : Int) (p : Int) (q : Int) W ha (by omega) (by omega) ht)
  have Q2 := fun W ht => Lib.hid (Parse12_any (textR (a : Int) (k : Int) (p : Int) (q : Int)) W (by unfold maxLen; omega) ht)
  have eP : parseR (textR (a : Int) (k : Int) (p : Int) (q : Int)) = some (a, k, p, q) := by
    exact parseR_hit ha hok rfl
  rw [eP] at Q2
  simp only [retPR] at Q2
  have Q3 := fun W ht => Lib.hid (Parse12_any l W hm ht)
  have Q4 := fun W => Lib.hid (RefParse12_any l W hm)
  rw [retPR_eq] at Q3 Q4
  have Q5 := fun W => Lib.hid (RefText12_any a (k : Int) (p : Int) (q : Int) W ha (by omega) (by omega))
  have Q6 := fun W => Lib.hid (RefRight12_any a (k : Int) (p : Int) (q : Int) W ha (by omega) (by omega))
  rw [hok] at Q6
  obtain ⟨T, hT⟩ : ∃ T, T = textR (a : Int) (k : Int) (p : Int) (q : Int) := ⟨_, rfl⟩
  rw [← hT] at Q1 Q2 Q5
  obtain ⟨x0, h0⟩ : ∃ x, x = r0 (parseR l) := ⟨_, rfl⟩
  obtain ⟨x1, h1⟩ : ∃ x, x = r1 (parseR l) := ⟨_, rfl⟩
  obtain ⟨x2, h2⟩ : ∃ x, x = r2 (parseR l) := ⟨_, rfl⟩
  obtain ⟨x3, h3⟩ : ∃ x, x = r3 (parseR l) := ⟨_, rfl⟩
  obtain ⟨o, h4⟩ : ∃ o, o = (parseR l).isSome := ⟨_, rfl⟩
  rw [← h0, ← h1, ← h2, ← h3, ← h4] at Q3 Q4
  clear hT h0 h1 h2 h3 h4 eP tl ht hbw hok
  subst hW0
  by_cases hl : 500 < l.length
  · have hl2 : (500 : Int) < (l.length : Int) := by omega
    clear hl Q1 Q2 Q3 Q4 Q5 Q6
    go_enter Tryd.func6, Tryd.ntmps6
    go_wp2_with fail
    refine (awake12_any _ (HT.out _ hbc)).mono ?_
    rintro e w9 ⟨rfl, g⟩
    replace hbc := hbc.trans (g.mono hbc.size)
    go_wp2_with fail
    go_ret
    exact ⟨rfl, HBW.out _ hbc⟩
  · have hl2 : ¬ (500 : Int) < (l.length : Int) := by omega
    clear hl
    go_enter Tryd.func6, Tryd.ntmps6
    go_wp2_with fail
    refine (Q1 _ (HT.out _ hbc)).out.mono ?_
    rintro e w1 ⟨rfl, g⟩
    replace hbc := hbc.trans (g.mono hbc.size)
    clear g
    go_wp2_with fail
    refine (Q2 _ (HT.out _ hbc)).out.mono ?_
    rintro e w2 ⟨rfl, g⟩
    replace hbc := hbc.trans (g.mono hbc.size)
    clear g
    have hb2 := hbc.alloc hbc.size (.cells #[.int .u32 (a : Int), .int .i64 (k : Int), .int .i64 (p : Int), .int .i64 (q : Int)] 35)
    have HB2 : Hid (∀ w', Below (w2.alloc (.cells #[.int .u32 (a : Int), .int .i64 (k : Int), .int .i64 (p : Int), .int .i64 (q : Int)] 35)).heap.size (w2.alloc (.cells #[.int .u32 (a : Int), .int .i64 (k : Int), .int .i64 (p : Int), .int .i64 (q : Int)] 35)) w' → Blk w' w2.heap.size 35 [.int .u32 (a : Int), .int .i64 (k : Int), .int .i64 (p : Int), .int .i64 (q : Int)]) := Lib.hid (fun w' hb => (Blk.new w2 35 [.int .u32 (a : Int), .int .i64 (k : Int), .int .i64 (p : Int), .int .i64 (q : Int)]).below hb (by simp))
    have hc2 := Below.refl (w2.alloc (.cells #[.int .u32 (a : Int), .int .i64 (k : Int), .int .i64 (p : Int), .int .i64 (q : Int)] 35)).heap.size (w2.alloc (.cells #[.int .u32 (a : Int), .int .i64 (k : Int), .int .i64 (p : Int), .int .i64 (q : Int)] 35))
    go_wp2_with fail
    refine (Q3 _ (HT.out _ hb2)).out.mono ?_
    rintro e w3 ⟨rfl, g⟩
    replace hb2 := hb2.trans (g.mono hb2.size)
    replace hc2 := hc2.trans g
    clear g
    have hb3 := hb2.alloc hb2.size (.cells #[.int .u32 (x0 : Int), .int .i64 (x1 : Int), .int .i64 (x2 : Int), .int .i64 (x3 : Int)] 35)
    have hc3 := hc2.alloc hc2.size (.cells #[.int .u32 (x0 : Int), .int .i64 (x1 : Int), .int .i64 (x2 : Int), .int .i64 (x3 : Int)] 35)
    have HB3 : Hid (∀ w', Below (w3.alloc (.cells #[.int .u32 (x0 : Int), .int .i64 (x1 : Int), .int .i64 (x2 : Int), .int .i64 (x3 : Int)] 35)).heap.size (w3.alloc (.cells #[.int .u32 (x0 : Int), .int .i64 (x1 : Int), .int .i64 (x2 : Int), .int .i64 (x3 : Int)] 35)) w' → Blk w' w3.heap.size 35 [.int .u32 (x0 : Int), .int .i64 (x1 : Int), .int .i64 (x2 : Int), .int .i64 (x3 : Int)]) := Lib.hid (fun w' hb => (Blk.new w3 35 [.int .u32 (x0 : Int), .int .i64 (x1 : Int), .int .i64 (x2 : Int), .int .i64 (x3 : Int)]).below hb (by simp))
    have hd3 := Below.refl (w3.alloc (.cells #[.int .u32 (x0 : Int), .int .i64 (x1 : Int), .int .i64 (x2 : Int), .int .i64 (x3 : Int)] 35)).heap.size (w3.alloc (.cells #[.int .u32 (x0 : Int), .int .i64 (x1 : Int), .int .i64 (x2 : Int), .int .i64 (x3 : Int)] 35))
    go_wp2_with fail
    refine (Q4 _).out.mono ?_
    rintro e w4 ⟨rfl, g⟩
    replace hb3 := hb3.trans (g.mono hb3.size)
    replace hc3 := hc3.trans (g.mono hc3.size)
    replace hd3 := hd3.trans g
    clear g
    have hb4 := hb3.alloc hb3.size (.cells #[.int .u32 (x0 : Int), .int .i64 (x1 : Int), .int .i64 (x2 : Int), .int .i64 (x3 : Int)] 35)
    have hc4 := hc3.alloc hc3.size (.cells #[.int .u32 (x0 : Int), .int .i64 (x1 : Int), .int .i64 (x2 : Int), .int .i64 (x3 : Int)] 35)
    have hd4 := hd3.alloc hd3.size (.cells #[.int .u32 (x0 : Int), .int .i64 (x1 : Int), .int .i64 (x2 : Int), .int .i64 (x3 : Int)] 35)
    have he4 := Below.refl (w4.alloc (.cells #[.int .u32 (x0 : Int), .int .i64 (x1 : Int), .int .i64 (x2 : Int), .int .i64 (x3 : Int)] 35)).heap.size (w4.alloc (.cells #[.int .u32 (x0 : Int), .int .i64 (x1 : Int), .int .i64 (x2 : Int), .int .i64 (x3 : Int)] 35))
    have HB4 : Hid (∀ w', Below (w4.alloc (.cells #[.int .u32 (x0 : Int), .int .i64 (x1 : Int), .int .i64 (x2 : Int), .int .i64 (x3 : Int)] 35)).heap.size (w4.alloc (.cells #[.int .u32 (x0 : Int), .int .i64 (x1 : Int), .int .i64 (x2 : Int), .int .i64 (x3 : Int)] 35)) w' → Blk w' w4.heap.size 35 [.int .u32 (x0 : Int), .int .i64 (x1 : Int), .int .i64 (x2 : Int), .int .i64 (x3 : Int)]) := Lib.hid (fun w' hb => (Blk.new w4 35 [.int .u32 (x0 : Int), .int .i64 (x1 : Int), .int .i64 (x2 : Int), .int .i64 (x3 : Int)]).below hb (by simp))
    have HC4 := HS.out _ hb4
    go_wp2_with fail
    refine (Q5 _).out.mono ?_
    rintro e w5 ⟨rfl, g⟩
    replace hb4 := hb4.trans (g.mono hb4.size)
    replace hc4 := hc4.trans (g.mono hc4.size)
    replace hd4 := hd4.trans (g.mono hd4.size)
    replace he4 := he4.trans g
    clear g
    have HC5 := HS.out _ hb4
    go_wp2_with fail
    refine (Q6 _).out.mono ?_
    rintro e w6 ⟨rfl, g⟩
    replace hb4 := hb4.trans (g.mono hb4.size)
    replace hc4 := hc4.trans (g.mono hc4.size)
    replace hd4 := hd4.trans (g.mono hd4.size)
    replace he4 := he4.trans (g.mono he4.size)
    clear g
    have HC6 := HS.out _ hb4
    have k2 := HB2.out _ hc4
    have k3 := HB3.out _ hd4
    have k4 := HB4.out _ he4
    have ck20 : w6.cell? ⟨w2.heap.size, 0, none⟩ = some (.int .u32 (a : Int)) := k2.cell 0
    have ck21 : w6.cell? ⟨w2.heap.size, 1, none⟩ = some (.int .i64 (k : Int)) := k2.cell 1
    have ck22 : w6.cell? ⟨w2.heap.size, 2, none⟩ = some (.int .i64 (p : Int)) := k2.cell 2
    have ck23 : w6.cell? ⟨w2.heap.size, 3, none⟩ = some (.int .i64 (q : Int)) := k2.cell 3
    have ck30 : w6.cell? ⟨w3.heap.size, 0, none⟩ = some (.int .u32 (x0 : Int)) := k3.cell 0
    have ck31 : w6.cell? ⟨w3.heap.size, 1, none⟩ = some (.int .i64 (x1 : Int)) := k3.cell 1
    have ck32 : w6.cell? ⟨w3.heap.size, 2, none⟩ = some (.int .i64 (x2 : Int)) := k3.cell 2
    have ck33 : w6.cell? ⟨w3.heap.size, 3, none⟩ = some (.int .i64 (x3 : Int)) := k3.cell 3
    have ck40 : w6.cell? ⟨w4.heap.size, 0, none⟩ = some (.int .u32 (x0 : Int)) := k4.cell 0
    have ck41 : w6.cell? ⟨w4.heap.size, 1, none⟩ = some (.int .i64 (x1 : Int)) := k4.cell 1
    have ck42 : w6.cell? ⟨w4.heap.size, 2, none⟩ = some (.int .i64 (x2 : Int)) := k4.cell 2
    have ck43 : w6.cell? ⟨w4.heap.size, 3, none⟩ = some (.int .i64 (x3 : Int)) := k4.cell 3
    clear k2 k3 k4
    go_wp2_with fail
    refine (awake12_any _ (HT.out _ hb4)).mono ?_
    rintro e w9 ⟨rfl, g⟩
    replace hb4 := hb4.trans (g.mono hb4.size)
    clear g
    go_wp2_with fail
    go_ret
    exact ⟨rfl, HBW.out _ hb4⟩

set_option maxHeartbeats 6400000 in
theorem texts_no (a : Nat) (n mn mx : Int) (l : List UInt8) (w : World) (ha : a < 4294967296) (hn : -9223372036854775808 ≤ n ∧ n ≤ 9223372036854775807) (hok : okR (a : Int) n mn mx = false) (hm : l.length ≤ maxLen) (ht : Tab w) :
    Calls Tryd.prog 6 #[.agg #[.int .u32 (a : Int), .int .i64 n, .int .i64 mn, .int .i64 mx], .string ⟨l.toArray⟩] w fun e w' => e = .returned (.bool true) ∧ Below w.heap.size w w' := by
  obtain ⟨W0, hW0⟩ : ∃ W0, W0 = w.alloc (.cells #[.int .u32 (a : Int), .int .i64 n, .int .i64 mn, .int .i64 mx] 35) := ⟨_, rfl⟩
  have HS := Lib.hid (fun w' hb => box4_cells w (.int .u32 (a : Int)) (.int .i64 n) (.int .i64 mn) (.int .i64 mx) 35 (w' := w') hb)
  have hbw : ∀ w', Below W0.heap.size W0 w' → Below w.heap.size w w' := fun w' h => by rw [hW0] at h; exact below_box h
  rw [← hW0] at HS
  have HT := Lib.hid (fun (w' : World) (hb : Below W0.heap.size W0 w') => ht.below (hbw w' hb) ht.lt)
  have HBW := Lib.hid hbw
  have hbc : Below W0.heap.size W0 W0 := Below.refl _ _
  have hml := hm
  unfold maxLen at hml
  have tl := textR_len (n := n) (mn := mn) (mx := mx) ha
  have Q1 := fun W ht => Lib.hid (Text12_any a n mn mx W ha hn.1 hn.2 ht)
  have Q2 := fun W ht => Lib.hid (Parse12_any (textR (a : Int) n mn mx) W (by unfold maxLen; omega) ht)
  have eP : parseR (textR (a : Int) n mn mx) = none := by
    unfold textR; rw [hok]; exact parseR_nil
  rw [eP] at Q2
  simp only [retPR] at Q2
  have Q3 := fun W ht => Lib.hid (Parse12_any l W hm ht)
  have Q4 := fun W => Lib.hid (RefParse12_any l W hm)
  rw [retPR_eq] at Q3 Q4
  have Q5 := fun W => Lib.hid (RefText12_any a n mn mx W ha hn.1 hn.2)
  have Q6 := fun W => Lib.hid (RefRight12_any a n mn mx W ha hn.1 hn.2)
  rw [hok] at Q6
  obtain ⟨T, hT⟩ : ∃ T, T = textR (a : Int) n mn mx := ⟨_, rfl⟩
  rw [← hT] at Q1 Q2 Q5
  obtain ⟨x0, h0⟩ : ∃ x, x = r0 (parseR l) := ⟨_, rfl⟩
  obtain ⟨x1, h1⟩ : ∃ x, x = r1 (parseR l) := ⟨_, rfl⟩
  obtain ⟨x2, h2⟩ : ∃ x, x = r2 (parseR l) := ⟨_, rfl⟩
  obtain ⟨x3, h3⟩ : ∃ x, x = r3 (parseR l) := ⟨_, rfl⟩
  obtain ⟨o, h4⟩ : ∃ o, o = (parseR l).isSome := ⟨_, rfl⟩
  rw [← h0, ← h1, ← h2, ← h3, ← h4] at Q3 Q4
  clear hT h0 h1 h2 h3 h4 eP tl ht hbw hok
  subst hW0
  by_cases hl : 500 < l.length
  · have hl2 : (500 : Int) < (l.length : Int) := by omega
    clear hl Q1 Q2 Q3 Q4 Q5 Q6
    go_enter Tryd.func6, Tryd.ntmps6
    go_wp2_with fail
    refine (awake12_any _ (HT.out _ hbc)).mono ?_
    rintro e w9 ⟨rfl, g⟩
    replace hbc := hbc.trans (g.mono hbc.size)
    go_wp2_with fail
    go_ret
    exact ⟨rfl, HBW.out _ hbc⟩
  · have hl2 : ¬ (500 : Int) < (l.length : Int) := by omega
    clear hl
    go_enter Tryd.func6, Tryd.ntmps6
    go_wp2_with fail
    refine (Q1 _ (HT.out _ hbc)).out.mono ?_
    rintro e w1 ⟨rfl, g⟩
    replace hbc := hbc.trans (g.mono hbc.size)
    clear g
    go_wp2_with fail
    refine (Q2 _ (HT.out _ hbc)).out.mono ?_
    rintro e w2 ⟨rfl, g⟩
    replace hbc := hbc.trans (g.mono hbc.size)
    clear g
    have hb2 := hbc.alloc hbc.size (.cells #[.int .u32 0, .int .i64 0, .int .i64 0, .int .i64 0] 35)
    have HB2 : Hid (∀ w', Below (w2.alloc (.cells #[.int .u32 0, .int .i64 0, .int .i64 0, .int .i64 0] 35)).heap.size (w2.alloc (.cells #[.int .u32 0, .int .i64 0, .int .i64 0, .int .i64 0] 35)) w' → Blk w' w2.heap.size 35 [.int .u32 0, .int .i64 0, .int .i64 0, .int .i64 0]) := Lib.hid (fun w' hb => (Blk.new w2 35 [.int .u32 0, .int .i64 0, .int .i64 0, .int .i64 0]).below hb (by simp))
    have hc2 := Below.refl (w2.alloc (.cells #[.int .u32 0, .int .i64 0, .int .i64 0, .int .i64 0] 35)).heap.size (w2.alloc (.cells #[.int .u32 0, .int .i64 0, .int .i64 0, .int .i64 0] 35))
    go_wp2_with fail
    refine (Q3 _ (HT.out _ hb2)).out.mono ?_
    rintro e w3 ⟨rfl, g⟩
    replace hb2 := hb2.trans (g.mono hb2.size)
    replace hc2 := hc2.trans g
    clear g
    have hb3 := hb2.alloc hb2.size (.cells #[.int .u32 (x0 : Int), .int .i64 (x1 : Int), .int .i64 (x2 : Int), .int .i64 (x3 : Int)] 35)
    have hc3 := hc2.alloc hc2.size (.cells #[.int .u32 (x0 : Int), .int .i64 (x1 : Int), .int .i64 (x2 : Int), .int .i64 (x3 : Int)] 35)
    have HB3 : Hid (∀ w', Below (w3.alloc (.cells #[.int .u32 (x0 : Int), .int .i64 (x1 : Int), .int .i64 (x2 : Int), .int .i64 (x3 : Int)] 35)).heap.size (w3.alloc (.cells #[.int .u32 (x0 : Int), .int .i64 (x1 : Int), .int .i64 (x2 : Int), .int .i64 (x3 : Int)] 35)) w' → Blk w' w3.heap.size 35 [.int .u32 (x0 : Int), .int .i64 (x1 : Int), .int .i64 (x2 : Int), .int .i64 (x3 : Int)]) := Lib.hid (fun w' hb => (Blk.new w3 35 [.int .u32 (x0 : Int), .int .i64 (x1 : Int), .int .i64 (x2 : Int), .int .i64 (x3 : Int)]).below hb (by simp))
    have hd3 := Below.refl (w3.alloc (.cells #[.int .u32 (x0 : Int), .int .i64 (x1 : Int), .int .i64 (x2 : Int), .int .i64 (x3 : Int)] 35)).heap.size (w3.alloc (.cells #[.int .u32 (x0 : Int), .int .i64 (x1 : Int), .int .i64 (x2 : Int), .int .i64 (x3 : Int)] 35))
    go_wp2_with fail
    refine (Q4 _).out.mono ?_
    rintro e w4 ⟨rfl, g⟩
    replace hb3 := hb3.trans (g.mono hb3.size)
    replace hc3 := hc3.trans (g.mono hc3.size)
    replace hd3 := hd3.trans g
    clear g
    have hb4 := hb3.alloc hb3.size (.cells #[.int .u32 (x0 : Int), .int .i64 (x1 : Int), .int .i64 (x2 : Int), .int .i64 (x3 : Int)] 35)
    have hc4 := hc3.alloc hc3.size (.cells #[.int .u32 (x0 : Int), .int .i64 (x1 : Int), .int .i64 (x2 : Int), .int .i64 (x3 : Int)] 35)
    have hd4 := hd3.alloc hd3.size (.cells #[.int .u32 (x0 : Int), .int .i64 (x1 : Int), .int .i64 (x2 : Int), .int .i64 (x3 : Int)] 35)
    have he4 := Below.refl (w4.alloc (.cells #[.int .u32 (x0 : Int), .int .i64 (x1 : Int), .int .i64 (x2 : Int), .int .i64 (x3 : Int)] 35)).heap.size (w4.alloc (.cells #[.int .u32 (x0 : Int), .int .i64 (x1 : Int), .int .i64 (x2 : Int), .int .i64 (x3 : Int)] 35))
    have HB4 : Hid (∀ w', Below (w4.alloc (.cells #[.int .u32 (x0 : Int), .int .i64 (x1 : Int), .int .i64 (x2 : Int), .int .i64 (x3 : Int)] 35)).heap.size (w4.alloc (.cells #[.int .u32 (x0 : Int), .int .i64 (x1 : Int), .int .i64 (x2 : Int), .int .i64 (x3 : Int)] 35)) w' → Blk w' w4.heap.size 35 [.int .u32 (x0 : Int), .int .i64 (x1 : Int), .int .i64 (x2 : Int), .int .i64 (x3 : Int)]) := Lib.hid (fun w' hb => (Blk.new w4 35 [.int .u32 (x0 : Int), .int .i64 (x1 : Int), .int .i64 (x2 : Int), .int .i64 (x3 : Int)]).below hb (by simp))
    have HC4 := HS.out _ hb4
    go_wp2_with fail
    refine (Q5 _).out.mono ?_
    rintro e w5 ⟨rfl, g⟩
    replace hb4 := hb4.trans (g.mono hb4.size)
    replace hc4 := hc4.trans (g.mono hc4.size)
    replace hd4 := hd4.trans (g.mono hd4.size)
    replace he4 := he4.trans g
    clear g
    have HC5 := HS.out _ hb4
    go_wp2_with fail
    refine (Q6 _).out.mono ?_
    rintro e w6 ⟨rfl, g⟩
    replace hb4 := hb4.trans (g.mono hb4.size)
    replace hc4 := hc4.trans (g.mono hc4.size)
    replace hd4 := hd4.trans (g.mono hd4.size)
    replace he4 := he4.trans (g.mono he4.size)
    clear g
    have HC6 := HS.out _ hb4
    have k2 := HB2.out _ hc4
    have k3 := HB3.out _ hd4
    have k4 := HB4.out _ he4
    have ck20 : w6.cell? ⟨w2.heap.size, 0, none⟩ = some (.int .u32 0) := k2.cell 0
    have ck21 : w6.cell? ⟨w2.heap.size, 1, none⟩ = some (.int .i64 0) := k2.cell 1
    have ck22 : w6.cell? ⟨w2.heap.size, 2, none⟩ = some (.int .i64 0) := k2.cell 2
    have ck23 : w6.cell? ⟨w2.heap.size, 3, none⟩ = some (.int .i64 0) := k2.cell 3
    have ck30 : w6.cell? ⟨w3.heap.size, 0, none⟩ = some (.int .u32 (x0 : Int)) := k3.cell 0
    have ck31 : w6.cell? ⟨w3.heap.size, 1, none⟩ = some (.int .i64 (x1 : Int)) := k3.cell 1
    have ck32 : w6.cell? ⟨w3.heap.size, 2, none⟩ = some (.int .i64 (x2 : Int)) := k3.cell 2
    have ck33 : w6.cell? ⟨w3.heap.size, 3, none⟩ = some (.int .i64 (x3 : Int)) := k3.cell 3
    have ck40 : w6.cell? ⟨w4.heap.size, 0, none⟩ = some (.int .u32 (x0 : Int)) := k4.cell 0
    have ck41 : w6.cell? ⟨w4.heap.size, 1, none⟩ = some (.int .i64 (x1 : Int)) := k4.cell 1
    have ck42 : w6.cell? ⟨w4.heap.size, 2, none⟩ = some (.int .i64 (x2 : Int)) := k4.cell 2
    have ck43 : w6.cell? ⟨w4.heap.size, 3, none⟩ = some (.int .i64 (x3 : Int)) := k4.cell 3
    clear k2 k3 k4
    go_wp2_with fail
    refine (awake12_any _ (HT.out _ hb4)).mono ?_
    rintro e w9 ⟨rfl, g⟩
    replace hb4 := hb4.trans (g.mono hb4.size)
    clear g
    go_wp2_with fail
    go_ret
    exact ⟨rfl, HBW.out _ hb4⟩

theorem texts_walk (a : Nat) (l : List UInt8) (n mn mx : Int) (w : World) (ha : a < 4294967296) (hn : -9223372036854775808 ≤ n ∧ n ≤ 9223372036854775807) (hmn : -9223372036854775808 ≤ mn ∧ mn ≤ 9223372036854775807) (hmx : -9223372036854775808 ≤ mx ∧ mx ≤ 9223372036854775807) (hm : l.length ≤ maxLen) (ht : Tab w) :
    Calls Tryd.prog 6 #[.agg #[.int .u32 (a : Int), .int .i64 n, .int .i64 mn, .int .i64 mx], .string ⟨l.toArray⟩] w fun e w' => e = .returned (.bool true) ∧ Below w.heap.size w w' := by
  cases hok : okR (a : Int) n mn mx with
  | false => exact texts_no a n mn mx l w ha hn hok hm ht
  | true =>
    obtain ⟨g0, g1, g2, g3⟩ := okR_parts hok
    have g4 := (okP_range g0).1
    obtain ⟨k, rfl⟩ := Int.eq_ofNat_of_zero_le g4
    obtain ⟨p, rfl⟩ := Int.eq_ofNat_of_zero_le (show 0 ≤ mn by omega)
    obtain ⟨q, rfl⟩ := Int.eq_ofNat_of_zero_le (show 0 ≤ mx by omega)
    exact texts_ok a k p q l w ha (by omega) (by omega) (by omega) hok hm ht
end Go.Proofs.YtcjeifpdikojlaaDoor

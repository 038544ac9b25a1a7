/-
  The range of a text: the program's (written by gen12p.py).
-/
import Derived.Test.YtcjeifpdikojlaaDoorRText12
namespace Go.Proofs.YtcjeifpdikojlaaDoor
set_option linter.unusedVariables false
set_option linter.unusedSimpArgs false
open Go.RowKit

def pA (r : Option (Nat × Nat)) : Nat := match r with | none => 0 | some x => x.1
def pN (r : Option (Nat × Nat)) : Nat := match r with | none => 0 | some x => x.2
theorem retParse_eq (r : Option (Nat × Nat)) : retParse r = .tuple #[.agg #[.int .u32 (pA r : Int), .int .i64 (pN r : Int)], .bool r.isSome] := by
  cases r <;> rfl
theorem parseP_lt {l : List UInt8} : pA (parseP l) < 4294967296 ∧ pN (parseP l) ≤ 4294967295 := by
  unfold parseP
  split
  · next a n ha hn =>
    split
    · exact ⟨addrOf_lt ha, (intSpec_some hn).2⟩
    · exact ⟨by decide, by decide⟩
  · exact ⟨by decide, by decide⟩
/-- The range of a text. -/
def parseR (l : List UInt8) : Option (Nat × Nat × Nat × Nat) :=
  if (parseP (fcutL l 32).1).isSome && (((intSpec (fcutL (fcutL l 32).2 45).1).isSome && (intSpec (fcutL (fcutL l 32).2 45).2).isSome) && okR (pA (parseP (fcutL l 32).1)) (pN (parseP (fcutL l 32).1)) ((intSpec (fcutL (fcutL l 32).2 45).1).getD 0 : Nat) ((intSpec (fcutL (fcutL l 32).2 45).2).getD 0 : Nat))
  then some (pA (parseP (fcutL l 32).1), pN (parseP (fcutL l 32).1), (intSpec (fcutL (fcutL l 32).2 45).1).getD 0, (intSpec (fcutL (fcutL l 32).2 45).2).getD 0) else none
def retPR (r : Option (Nat × Nat × Nat × Nat)) : Value := match r with
  | none => .tuple #[.agg #[.int .u32 0, .int .i64 0, .int .i64 0, .int .i64 0], .bool false]
  | some (a, n, mn, mx) => .tuple #[.agg #[.int .u32 (a : Int), .int .i64 (n : Int), .int .i64 (mn : Int), .int .i64 (mx : Int)], .bool true]
theorem intSpec_getD (l : List UInt8) : (intSpec l).getD 0 ≤ 4294967295 := by
  cases h : intSpec l with
  | none => simp
  | some n => exact (intSpec_some h).2

set_option maxHeartbeats 3200000 in
theorem Parse12_any (l : List UInt8) (w : World) (hm : l.length ≤ maxLen) (ht : Tab w) :
    Calls Tryd.prog 27 #[.string ⟨l.toArray⟩] w fun e w' => e = .returned (retPR (parseR l)) ∧ Below w.heap.size w w' := by
  have q1 := Lib.hid (fcut_any l 32 (w.alloc (.cells #[.int .u32 0, .int .i64 0, .int .i64 0, .int .i64 0] 35)) (by decide) hm)
  have hcl := fcutL_len l 32
  have HP : parseR l = parseR l := rfl
  conv at HP => rhs; unfold parseR
  obtain ⟨R, hR⟩ : ∃ R, R = parseR l := ⟨_, rfl⟩
  rw [← hR] at HP ⊢
  unfold retCut at q1
  obtain ⟨p, hp⟩ : ∃ p, p = (fcutL l 32).1 := ⟨_, rfl⟩
  obtain ⟨b, hb⟩ : ∃ b, b = (fcutL l 32).2 := ⟨_, rfl⟩
  rw [← hp, ← hb] at q1 hcl HP
  have QA := fun w ht => Lib.hid (Parse_any p w (by omega) ht)
  rw [retParse_eq] at QA
  have QI := fun w ht => Lib.hid (pair_any b 45 w (by decide) (by omega) ht)
  unfold retPair at QI
  obtain ⟨ha, hn⟩ := parseP_lt (l := p)
  have hx := intSpec_getD (fcutL b 45).1
  have hy := intSpec_getD (fcutL b 45).2
  obtain ⟨r, hr⟩ : ∃ r, r = parseP p := ⟨_, rfl⟩
  obtain ⟨X, hX⟩ : ∃ X, X = intSpec (fcutL b 45).1 := ⟨_, rfl⟩
  obtain ⟨Y, hY⟩ : ∃ Y, Y = intSpec (fcutL b 45).2 := ⟨_, rfl⟩
  rw [← hr] at QA ha hn HP
  rw [← hX] at QI hx HP
  rw [← hY] at QI hy HP
  obtain ⟨a, hA⟩ : ∃ a, a = pA r := ⟨_, rfl⟩
  obtain ⟨n, hN⟩ : ∃ n, n = pN r := ⟨_, rfl⟩
  obtain ⟨x, hx'⟩ : ∃ x, x = X.getD 0 := ⟨_, rfl⟩
  obtain ⟨y, hy'⟩ : ∃ y, y = Y.getD 0 := ⟨_, rfl⟩
  obtain ⟨o1, ho1⟩ : ∃ o, o = r.isSome := ⟨_, rfl⟩
  obtain ⟨o2, ho2⟩ : ∃ o, o = (X.isSome && Y.isSome) := ⟨_, rfl⟩
  rw [← hA, ← hN, ← ho1] at QA HP
  rw [← hx', ← hy', ← ho2] at QI HP
  rw [← hA] at ha
  rw [← hN] at hn
  rw [← hx'] at hx
  rw [← hy'] at hy
  have QR := fun w => Lib.hid (Right12_any a (n : Int) (x : Int) (y : Int) w ha (by omega) (by omega))
  have hb0 : Below w.heap.size w (w.alloc (.cells #[.int .u32 0, .int .i64 0, .int .i64 0, .int .i64 0] 35)) := (Below.refl _ _).alloc (Nat.le_refl _) _
  have HT := Lib.hid (fun (w' : World) (hb : Below (w.alloc (.cells #[.int .u32 0, .int .i64 0, .int .i64 0, .int .i64 0] 35)).heap.size (w.alloc (.cells #[.int .u32 0, .int .i64 0, .int .i64 0, .int .i64 0] 35)) w') => ht.below (below_box hb) ht.lt)
  have HK := Lib.hid (fun (w' : World) (hb : Below (w.alloc (.cells #[.int .u32 0, .int .i64 0, .int .i64 0, .int .i64 0] 35)).heap.size (w.alloc (.cells #[.int .u32 0, .int .i64 0, .int .i64 0, .int .i64 0] 35)) w') => (Blk.new w 35 [.int .u32 0, .int .i64 0, .int .i64 0, .int .i64 0]).below hb (by simp))
  clear ht hp hb hcl hr hX hY hA hN hx' hy' ho1 ho2 hR
  cases o1 with
  | false =>
    have e1 := Lib.hid (show R = none by rw [HP]; rfl)
    clear HP
    go_enter Tryd.func27, Tryd.ntmps27
    go_wp2_with fail
    refine q1.out.mono ?_
    rintro e w1 ⟨rfl, hb1⟩
    go_wp2_with fail
    refine (QA _ (HT.out _ hb1)).out.mono ?_
    rintro e w2 ⟨rfl, hb2'⟩
    have hb2 := hb1.trans (hb2'.mono hb1.size)
    go_wp2_with fail
    have hb2a := hb2.alloc hb2.size (.cells #[.int .u32 (a : Int), .int .i64 (n : Int)] 33)
    refine (QI _ (HT.out _ hb2a)).out.mono ?_
    rintro e w3 ⟨rfl, hb3'⟩
    have hb3 := hb2a.trans (hb3'.mono hb2a.size)
    have hp3 := (Blk.new w2 33 [.int .u32 (a : Int), .int .i64 (n : Int)]).below hb3' (by simp)
    have p0 : w3.cell? ⟨w2.heap.size, 0, none⟩ = some (.int .u32 (a : Int)) := hp3.cell 0
    have p1 : w3.cell? ⟨w2.heap.size, 1, none⟩ = some (.int .i64 (n : Int)) := hp3.cell 1
    clear hp3
    have hk := HK.out _ hb3
    have c0 : w3.cell? ⟨w.heap.size, 0, none⟩ = some (.int .u32 0) := hk.cell 0
    have c1 : w3.cell? ⟨w.heap.size, 1, none⟩ = some (.int .i64 0) := hk.cell 1
    have c2 : w3.cell? ⟨w.heap.size, 2, none⟩ = some (.int .i64 0) := hk.cell 2
    have c3 : w3.cell? ⟨w.heap.size, 3, none⟩ = some (.int .i64 0) := hk.cell 3
    have f0 := hk.free 0
    have f1 := hk.free 1
    have f2 := hk.free 2
    have f3 := hk.free 3
    have hlt : w.heap.size < w3.heap.size := (HK.out _ hb3).lt
    have hne : ¬ w.heap.size = w3.heap.size := by omega
    have hne2 : ¬ w3.heap.size = w.heap.size := by omega
    have hbe := (((((below_box hb3).setCell (p := ⟨w.heap.size, 0, none⟩) (Nat.le_refl _) (.int .u32 0)).setCell (p := ⟨w.heap.size, 1, none⟩) (Nat.le_refl _) (.int .i64 0)).setCell (p := ⟨w.heap.size, 2, none⟩) (Nat.le_refl _) (.int .i64 0)).setCell (p := ⟨w.heap.size, 3, none⟩) (Nat.le_refl _) (.int .i64 0))
    go_wp2_with fail
    exact bodyPost_ret (v := retPR none) (by simp [results, Tryd.results27, go_sem, retPR, *]) rfl ⟨by rw [e1.out], hbe.alloc hbe.size _⟩
  | true =>
    cases o2 with
    | false =>
      have e1 := Lib.hid (show R = none by rw [HP]; rfl)
      clear HP
      go_enter Tryd.func27, Tryd.ntmps27
      go_wp2_with fail
      refine q1.out.mono ?_
      rintro e w1 ⟨rfl, hb1⟩
      go_wp2_with fail
      refine (QA _ (HT.out _ hb1)).out.mono ?_
      rintro e w2 ⟨rfl, hb2'⟩
      have hb2 := hb1.trans (hb2'.mono hb1.size)
      go_wp2_with fail
      have hb2a := hb2.alloc hb2.size (.cells #[.int .u32 (a : Int), .int .i64 (n : Int)] 33)
      refine (QI _ (HT.out _ hb2a)).out.mono ?_
      rintro e w3 ⟨rfl, hb3'⟩
      have hb3 := hb2a.trans (hb3'.mono hb2a.size)
      have hp3 := (Blk.new w2 33 [.int .u32 (a : Int), .int .i64 (n : Int)]).below hb3' (by simp)
      have p0 : w3.cell? ⟨w2.heap.size, 0, none⟩ = some (.int .u32 (a : Int)) := hp3.cell 0
      have p1 : w3.cell? ⟨w2.heap.size, 1, none⟩ = some (.int .i64 (n : Int)) := hp3.cell 1
      clear hp3
      have hk := HK.out _ hb3
      have c0 : w3.cell? ⟨w.heap.size, 0, none⟩ = some (.int .u32 0) := hk.cell 0
      have c1 : w3.cell? ⟨w.heap.size, 1, none⟩ = some (.int .i64 0) := hk.cell 1
      have c2 : w3.cell? ⟨w.heap.size, 2, none⟩ = some (.int .i64 0) := hk.cell 2
      have c3 : w3.cell? ⟨w.heap.size, 3, none⟩ = some (.int .i64 0) := hk.cell 3
      have f0 := hk.free 0
      have f1 := hk.free 1
      have f2 := hk.free 2
      have f3 := hk.free 3
      have hlt : w.heap.size < w3.heap.size := (HK.out _ hb3).lt
      have hne : ¬ w.heap.size = w3.heap.size := by omega
      have hne2 : ¬ w3.heap.size = w.heap.size := by omega
      have hbe := (((((below_box hb3).setCell (p := ⟨w.heap.size, 0, none⟩) (Nat.le_refl _) (.int .u32 0)).setCell (p := ⟨w.heap.size, 1, none⟩) (Nat.le_refl _) (.int .i64 0)).setCell (p := ⟨w.heap.size, 2, none⟩) (Nat.le_refl _) (.int .i64 0)).setCell (p := ⟨w.heap.size, 3, none⟩) (Nat.le_refl _) (.int .i64 0))
      go_wp2_with fail
      exact bodyPost_ret (v := retPR none) (by simp [results, Tryd.results27, go_sem, retPR, *]) rfl ⟨by rw [e1.out], hbe.alloc hbe.size _⟩
    | true =>
      cases hok : okR (a : Int) (n : Int) (x : Int) (y : Int) with
      | false =>
        rw [hok] at QR HP
        clear hok
        have e1 := Lib.hid (show R = none by rw [HP]; rfl)
        clear HP
        go_enter Tryd.func27, Tryd.ntmps27
        go_wp2_with fail
        refine q1.out.mono ?_
        rintro e w1 ⟨rfl, hb1⟩
        go_wp2_with fail
        refine (QA _ (HT.out _ hb1)).out.mono ?_
        rintro e w2 ⟨rfl, hb2'⟩
        have hb2 := hb1.trans (hb2'.mono hb1.size)
        go_wp2_with fail
        have hb2a := hb2.alloc hb2.size (.cells #[.int .u32 (a : Int), .int .i64 (n : Int)] 33)
        refine (QI _ (HT.out _ hb2a)).out.mono ?_
        rintro e w3 ⟨rfl, hb3'⟩
        have hb3 := hb2a.trans (hb3'.mono hb2a.size)
        have hp3 := (Blk.new w2 33 [.int .u32 (a : Int), .int .i64 (n : Int)]).below hb3' (by simp)
        have p0 : w3.cell? ⟨w2.heap.size, 0, none⟩ = some (.int .u32 (a : Int)) := hp3.cell 0
        have p1 : w3.cell? ⟨w2.heap.size, 1, none⟩ = some (.int .i64 (n : Int)) := hp3.cell 1
        clear hp3
        go_wp2_with fail
        refine (QR _).out.mono ?_
        rintro e w4 ⟨rfl, hb4'⟩
        have hb3a := hb3.alloc hb3.size (.cells #[.int .u32 (a : Int), .int .i64 (n : Int), .int .i64 (x : Int), .int .i64 (y : Int)] 35)
        have hb4 := hb3a.trans (hb4'.mono hb3a.size)
        have hk := HK.out _ hb4
        have hq := (Blk.new w3 35 [.int .u32 (a : Int), .int .i64 (n : Int), .int .i64 (x : Int), .int .i64 (y : Int)]).below hb4' (by simp)
        have d0 : w4.cell? ⟨w3.heap.size, 0, none⟩ = some (.int .u32 (a : Int)) := hq.cell 0
        have d1 : w4.cell? ⟨w3.heap.size, 1, none⟩ = some (.int .i64 (n : Int)) := hq.cell 1
        have d2 : w4.cell? ⟨w3.heap.size, 2, none⟩ = some (.int .i64 (x : Int)) := hq.cell 2
        have d3 : w4.cell? ⟨w3.heap.size, 3, none⟩ = some (.int .i64 (y : Int)) := hq.cell 3
        clear hq
        have c0 : w4.cell? ⟨w.heap.size, 0, none⟩ = some (.int .u32 0) := hk.cell 0
        have c1 : w4.cell? ⟨w.heap.size, 1, none⟩ = some (.int .i64 0) := hk.cell 1
        have c2 : w4.cell? ⟨w.heap.size, 2, none⟩ = some (.int .i64 0) := hk.cell 2
        have c3 : w4.cell? ⟨w.heap.size, 3, none⟩ = some (.int .i64 0) := hk.cell 3
        have f0 := hk.free 0
        have f1 := hk.free 1
        have f2 := hk.free 2
        have f3 := hk.free 3
        have hlt : w.heap.size < w3.heap.size := (HK.out _ hb3).lt
        have hne : ¬ w.heap.size = w3.heap.size := by omega
        have hne2 : ¬ w3.heap.size = w.heap.size := by omega
        have hbe := (((((below_box hb4).setCell (p := ⟨w.heap.size, 0, none⟩) (Nat.le_refl _) (.int .u32 0)).setCell (p := ⟨w.heap.size, 1, none⟩) (Nat.le_refl _) (.int .i64 0)).setCell (p := ⟨w.heap.size, 2, none⟩) (Nat.le_refl _) (.int .i64 0)).setCell (p := ⟨w.heap.size, 3, none⟩) (Nat.le_refl _) (.int .i64 0))
        go_wp2_with fail
        exact bodyPost_ret (v := retPR none) (by simp [results, Tryd.results27, go_sem, retPR, *]) rfl ⟨by rw [e1.out], hbe⟩
      | true =>
        rw [hok] at QR HP
        clear hok
        have e1 := Lib.hid (show R = (some (a, n, x, y)) by rw [HP]; rfl)
        clear HP
        go_enter Tryd.func27, Tryd.ntmps27
        go_wp2_with fail
        refine q1.out.mono ?_
        rintro e w1 ⟨rfl, hb1⟩
        go_wp2_with fail
        refine (QA _ (HT.out _ hb1)).out.mono ?_
        rintro e w2 ⟨rfl, hb2'⟩
        have hb2 := hb1.trans (hb2'.mono hb1.size)
        go_wp2_with fail
        have hb2a := hb2.alloc hb2.size (.cells #[.int .u32 (a : Int), .int .i64 (n : Int)] 33)
        refine (QI _ (HT.out _ hb2a)).out.mono ?_
        rintro e w3 ⟨rfl, hb3'⟩
        have hb3 := hb2a.trans (hb3'.mono hb2a.size)
        have hp3 := (Blk.new w2 33 [.int .u32 (a : Int), .int .i64 (n : Int)]).below hb3' (by simp)
        have p0 : w3.cell? ⟨w2.heap.size, 0, none⟩ = some (.int .u32 (a : Int)) := hp3.cell 0
        have p1 : w3.cell? ⟨w2.heap.size, 1, none⟩ = some (.int .i64 (n : Int)) := hp3.cell 1
        clear hp3
        go_wp2_with fail
        refine (QR _).out.mono ?_
        rintro e w4 ⟨rfl, hb4'⟩
        have hb3a := hb3.alloc hb3.size (.cells #[.int .u32 (a : Int), .int .i64 (n : Int), .int .i64 (x : Int), .int .i64 (y : Int)] 35)
        have hb4 := hb3a.trans (hb4'.mono hb3a.size)
        have hk := HK.out _ hb4
        have hq := (Blk.new w3 35 [.int .u32 (a : Int), .int .i64 (n : Int), .int .i64 (x : Int), .int .i64 (y : Int)]).below hb4' (by simp)
        have d0 : w4.cell? ⟨w3.heap.size, 0, none⟩ = some (.int .u32 (a : Int)) := hq.cell 0
        have d1 : w4.cell? ⟨w3.heap.size, 1, none⟩ = some (.int .i64 (n : Int)) := hq.cell 1
        have d2 : w4.cell? ⟨w3.heap.size, 2, none⟩ = some (.int .i64 (x : Int)) := hq.cell 2
        have d3 : w4.cell? ⟨w3.heap.size, 3, none⟩ = some (.int .i64 (y : Int)) := hq.cell 3
        clear hq
        have c0 : w4.cell? ⟨w.heap.size, 0, none⟩ = some (.int .u32 0) := hk.cell 0
        have c1 : w4.cell? ⟨w.heap.size, 1, none⟩ = some (.int .i64 0) := hk.cell 1
        have c2 : w4.cell? ⟨w.heap.size, 2, none⟩ = some (.int .i64 0) := hk.cell 2
        have c3 : w4.cell? ⟨w.heap.size, 3, none⟩ = some (.int .i64 0) := hk.cell 3
        have f0 := hk.free 0
        have f1 := hk.free 1
        have f2 := hk.free 2
        have f3 := hk.free 3
        have hlt : w.heap.size < w3.heap.size := (HK.out _ hb3).lt
        have hne : ¬ w.heap.size = w3.heap.size := by omega
        have hne2 : ¬ w3.heap.size = w.heap.size := by omega
        have hbe := (((((below_box hb4).setCell (p := ⟨w.heap.size, 0, none⟩) (Nat.le_refl _) (.int .u32 (a : Int))).setCell (p := ⟨w.heap.size, 1, none⟩) (Nat.le_refl _) (.int .i64 (n : Int))).setCell (p := ⟨w.heap.size, 2, none⟩) (Nat.le_refl _) (.int .i64 (x : Int))).setCell (p := ⟨w.heap.size, 3, none⟩) (Nat.le_refl _) (.int .i64 (y : Int)))
        go_wp2_with fail
        exact bodyPost_ret (v := retPR (some (a, n, x, y))) (by simp [results, Tryd.results27, go_sem, retPR, *]) rfl ⟨by rw [e1.out], hbe⟩
end Go.Proofs.YtcjeifpdikojlaaDoor

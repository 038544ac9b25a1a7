/-
  A range as a text, and read from one, by the document (written by gen12r.py).
-/
import Derived.Test.YtcjeifpdikojlaaDoorRParse12
import Derived.Test.YtcjeifpdikojlaaDoorRefParse
import Derived.Test.YtcjeifpdikojlaaDoorRefPText
namespace Go.Proofs.YtcjeifpdikojlaaDoor
set_option linter.unusedVariables false
set_option linter.unusedSimpArgs false
open Go.RowKit

set_option maxHeartbeats 1600000 in
theorem RefText12_any (a : Nat) (n mn mx : Int) (w : World) (ha : a < 4294967296) (h0 : -9223372036854775808 ≤ n) (h1 : n ≤ 9223372036854775807) :
    Calls Tryd.prog 29 #[.agg #[.int .u32 (a : Int), .int .i64 n, .int .i64 mn, .int .i64 mx]] w (RetL w (textR (a : Int) n mn mx)) := by
  have QR := fun w => Lib.hid (RefRight12_any a n mn mx w ha h0 h1)
  have HS := Lib.hid (fun w' hb => box4_cells w (.int .u32 (a : Int)) (.int .i64 n) (.int .i64 mn) (.int .i64 mx) 35 (w' := w') hb)
  have hb0 : Below (w.alloc (.cells #[.int .u32 (a : Int), .int .i64 n, .int .i64 mn, .int .i64 mx] 35)).heap.size (w.alloc (.cells #[.int .u32 (a : Int), .int .i64 n, .int .i64 mn, .int .i64 mx] 35)) (w.alloc (.cells #[.int .u32 (a : Int), .int .i64 n, .int .i64 mn, .int .i64 mx] 35)) := Below.refl _ _
  cases hok : okR (a : Int) n mn mx with
  | false =>
    rw [hok] at QR
    have e1 := Lib.hid (show textR (a : Int) n mn mx = [] by unfold textR; rw [hok]; rfl)
    clear hok
    go_enter Tryd.func29, Tryd.ntmps29
    go_wp2_with fail
    refine (QR _).out.mono ?_
    rintro e w1 ⟨rfl, hb1'⟩
    have hb1 := hb0.trans (hb1'.mono hb0.size)
    go_wp2_with fail
    go_ret
    exact ⟨by rw [e1.out]; rfl, below_box hb1⟩
  | true =>
    rw [hok] at QR
    obtain ⟨g0, g1, g2, g3⟩ := okR_parts hok
    have g4 := (okP_range g0).1
    have e1 := Lib.hid (show textR (a : Int) n mn mx = (((textP a n ++ [32]) ++ textL mn) ++ [45]) ++ textL mx by unfold textR; rw [hok]; rfl)
    have qA := fun w => Lib.hid (RefPText_any a n w ha)
    have qT : ∀ v : Int, (v = mn ∨ v = mx) → ∀ w, Hid (Calls Tryd.prog 34 #[.int .i64 v] w fun e w' => e = .returned (.string ⟨(textL v).toArray⟩) ∧ w = w') := fun v hv w => Lib.hid (refText_any v w (by omega) (by omega))
    have l0 := textP_len12 (n := n) ha
    have l1 := textL_len12 (n := mn) (by omega) (by omega)
    have l2 := textL_len12 (n := mx) (by omega) (by omega)
    have hs1 : ¬ 9223372036854775807 < (textP (a : Int) n).length + 1 := by omega
    have hs2 : ¬ 9223372036854775807 < (textP (a : Int) n).length + 1 + (textL mn).length := by omega
    have hs3 : ¬ 9223372036854775807 < (textP (a : Int) n).length + 1 + (textL mn).length + 1 := by omega
    have hs4 : ¬ 9223372036854775807 < (textP (a : Int) n).length + 1 + (textL mn).length + 1 + (textL mx).length := by omega
    clear hok l0 l1 l2
    go_enter Tryd.func29, Tryd.ntmps29
    go_wp2_with fail
    refine (QR _).out.mono ?_
    rintro e w1 ⟨rfl, hb1'⟩
    have hbc := (hb0.trans (hb1'.mono hb0.size)).drew
    have hb0w := hb0.trans (hb1'.mono hb0.size)
    have HC := HS.out _ hbc
    clear hb1'
    go_wp2_with fail
    go_region_held3 (fun w' => w'.cell? ⟨w.heap.size, 0, none⟩ = some (.int .u32 (a : Int)) ∧ w'.cell? ⟨w.heap.size, 1, none⟩ = some (.int .i64 n) ∧ w'.cell? ⟨w.heap.size, 2, none⟩ = some (.int .i64 mn) ∧ w'.cell? ⟨w.heap.size, 3, none⟩ = some (.int .i64 mx)) (exact HS.out _ hbc) ((first
      | (go_at_call 53; refine (qA _).out.mono ?_; rintro e wx ⟨rfl, hg⟩; replace hbc := hbc.trans (hg.mono hbc.size); clear hg)
      | (go_at_call 34; refine (qT _ (by first | exact Or.inl rfl | exact Or.inr rfl) _).out.mono ?_; rintro e wx ⟨rfl, rfl⟩)))
    go_wp2_with fail
    go_ret
    exact ⟨by rw [e1.out, ← ba_append, ← ba_append, ← ba_append, ← ba_append]; rfl, below_box hbc⟩

theorem parseP_nil : parseP [] = none := by
  unfold parseP
  rw [show cutL [] 47 = ([], []) from rfl, intSpec_none_len (l := []) (.inl rfl)]
  split <;> first | rfl | (rename_i h; cases h)
theorem textP_no {a : Nat} {n : Int} : ∀ x ∈ textP (a : Int) n, x ≠ 32 := by
  intro x hx
  unfold textP at hx
  split at hx
  · simp only [List.mem_append, List.mem_cons, List.not_mem_nil, or_false] at hx
    have hd : ∀ k, ∀ c ∈ dec k, c ≠ 32 := fun k => dec_no k (by decide)
    rcases hx with (hx | hx) | hx
    · rw [addrL_flat] at hx
      simp only [List.mem_append, List.mem_cons] at hx
      rcases hx with h | h | h | h | h | h | h
      · exact hd _ _ h
      · rw [h]; decide
      · exact hd _ _ h
      · rw [h]; decide
      · exact hd _ _ h
      · rw [h]; decide
      · exact hd _ _ h
    · rw [hx]; decide
    · exact hd _ _ hx
  · simp at hx
theorem fcut_app (p r : List UInt8) (c : UInt8) (h : ∀ x ∈ p, x ≠ c) : fcutL (p ++ c :: r) c = (p, r) := by
  unfold fcutL
  rw [if_pos (by simp), cutL_app p r c h]
theorem textR_flat {a n mn mx : Nat} (h : okR (a : Int) (n : Int) (mn : Int) (mx : Int) = true) : textR (a : Int) (n : Int) (mn : Int) (mx : Int) = textP (a : Int) (n : Int) ++ 32 :: (dec mn ++ 45 :: dec mx) := by
  unfold textR
  rw [h, if_pos rfl, textL_pos, textL_pos]
  simp
/-- What is written of a right range is read as it. -/
theorem parseR_hit {l : List UInt8} {a n mn mx : Nat} (ha : a < 4294967296) (h : okR (a : Int) (n : Int) (mn : Int) (mx : Int) = true) (ht : textR (a : Int) (n : Int) (mn : Int) (mx : Int) = l) : parseR l = some (a, n, mn, mx) := by
  obtain ⟨g0, g1, g2, g3⟩ := okR_parts h
  rw [textR_flat h] at ht
  have c1 : fcutL l 32 = (textP (a : Int) (n : Int), dec mn ++ 45 :: dec mx) := by rw [← ht]; exact fcut_app _ _ _ textP_no
  have c2 : fcutL (dec mn ++ 45 :: dec mx) 45 = (dec mn, dec mx) := fcut_app _ _ _ (dec_no mn (by decide))
  have i1 : intSpec (dec mn) = some mn := intSpec_of rfl (by omega)
  have i2 : intSpec (dec mx) = some mx := intSpec_of rfl (by omega)
  have p1 : parseP (textP (a : Int) (n : Int)) = some (a, n) := by
    rw [parseP_textP a (n : Int) ha, g0]
    simp
  unfold parseR
  simp only [c1, c2, i1, i2, p1, pA, pN, Option.getD_some, Option.isSome_some, h, Bool.and_self, if_true]
theorem parseR_sound {l : List UInt8} {a n mn mx : Nat} (h : parseR l = some (a, n, mn, mx)) : okR (a : Int) (n : Int) (mn : Int) (mx : Int) = true ∧ parseP (fcutL l 32).1 = some (a, n) ∧ textR (a : Int) (n : Int) (mn : Int) (mx : Int) = l := by
  unfold parseR at h
  split at h
  · next hc =>
    simp only [Bool.and_eq_true] at hc
    obtain ⟨h1, ⟨h2, h3⟩, h4⟩ := hc
    cases h
    obtain ⟨x, hx⟩ := Option.isSome_iff_exists.1 h1
    obtain ⟨u, hu⟩ := Option.isSome_iff_exists.1 h2
    obtain ⟨v, hv⟩ := Option.isSome_iff_exists.1 h3
    have hp := parseP_sound (a := x.1) (n := x.2) (by rw [hx])
    refine ⟨h4, by rw [hx]; rfl, ?_⟩
    rw [textR_flat h4, hx, hu, hv]
    simp only [pA, pN, Option.getD_some]
    rw [hp.2.2, (intSpec_some hu).1, (intSpec_some hv).1]
    have m1 : 32 ∈ l := by
      by_cases m : 32 ∈ l
      · exact m
      · exfalso
        have : (fcutL l 32).1 = [] := by unfold fcutL; rw [if_neg m]
        rw [this] at hx
        rw [parseP_nil] at hx
        cases hx
    have m2 : 45 ∈ (fcutL l 32).2 := by
      by_cases m : 45 ∈ (fcutL l 32).2
      · exact m
      · exfalso
        have e : (fcutL (fcutL l 32).2 45).1 = [] := by unfold fcutL at m ⊢; rw [if_neg m]
        rw [e, intSpec_none_len (.inl rfl)] at hu
        cases hu
    have e1 : (fcutL l 32).1 ++ 32 :: (fcutL l 32).2 = l := by
      unfold fcutL
      rw [if_pos m1]
      rcases cut_join l 32 with h3 | h3
      · exfalso
        have e2 : (cutL l 32).2 = [] := h3
        unfold fcutL at m2
        rw [if_pos m1, e2] at m2
        simp at m2
      · exact h3.symm
    have e2 : (fcutL (fcutL l 32).2 45).1 ++ 45 :: (fcutL (fcutL l 32).2 45).2 = (fcutL l 32).2 := by
      generalize (fcutL l 32).2 = b at m2 hv
      unfold fcutL at hv ⊢
      rw [if_pos m2] at hv ⊢
      rcases cut_join b 45 with h3 | h3
      · rw [h3, intSpec_none_len (.inl rfl)] at hv
        cases hv
      · exact h3.symm
    rw [e2, e1]
  · cases h
/-- What a text that is a range's begins with. -/
theorem parseR_head {l : List UInt8} {x : Nat × Nat × Nat × Nat} (h : parseR l = some x) : parseP (cutL l 32).1 = some (x.1, x.2.1) := by
  obtain ⟨a, n, mn, mx⟩ := x
  have h1 := (parseR_sound h).2.1
  unfold fcutL at h1
  split at h1
  · exact h1
  · rw [show parseP (([], []) : List UInt8 × List UInt8).1 = none from parseP_nil] at h1
    cases h1
theorem parseR_none {l : List UInt8} (h : parseP (cutL l 32).1 = none) : parseR l = none := by
  cases hp : parseR l with
  | none => rfl
  | some x => rw [parseR_head hp] at h; cases h
def Missed (l : List UInt8) (a n k j : Nat) : Prop := ∀ mn mx : Nat, mn ≤ mx → mx ≤ 32 → (mn < k ∨ (mn = k ∧ mx < j)) → okR (a : Int) (n : Int) (mn : Int) (mx : Int) = true → textR (a : Int) (n : Int) (mn : Int) (mx : Int) ≠ l
theorem parseR_miss {l : List UInt8} {a n : Nat} (hp : parseP (cutL l 32).1 = some (a, n)) (h : Missed l a n 33 33) : parseR l = none := by
  cases hr : parseR l with
  | none => rfl
  | some x =>
    have h1 := parseR_head hr
    obtain ⟨b, m, mn, mx⟩ := x
    rw [hp] at h1
    cases h1
    obtain ⟨h2, _, h3⟩ := parseR_sound hr
    obtain ⟨_, _, g2, g3⟩ := okR_parts h2
    exact absurd h3 (h mn mx (by omega) (by omega) (.inl (by omega)) h2)
theorem Missed.zero (l : List UInt8) (a n : Nat) : Missed l a n 0 0 := fun mn mx _ _ h => by omega
theorem Missed.line {l : List UInt8} {a n k j : Nat} (h : Missed l a n k j) (hj : 33 ≤ j) : Missed l a n (k + 1) (k + 1) := fun mn mx h1 h2 h3 => h mn mx h1 h2 (by omega)
theorem Missed.start {l : List UInt8} {a n k : Nat} (h : Missed l a n k k) : Missed l a n k k := h
theorem Missed.step {l : List UInt8} {a n k j : Nat} (h : Missed l a n k j) (hk : k ≤ j) (h1 : okR (a : Int) (n : Int) (k : Int) (j : Int) = true → textR (a : Int) (n : Int) (k : Int) (j : Int) ≠ l) : Missed l a n k (j + 1) := fun mn mx h2 h3 h4 h5 => by
  by_cases e : mn = k ∧ mx = j
  · obtain ⟨rfl, rfl⟩ := e
    exact h1 h5
  · exact h mn mx h2 h3 (by omega) h5
theorem Missed.end33 {l : List UInt8} {a n : Nat} (h : Missed l a n 33 33) : Missed l a n 33 33 := h

set_option maxHeartbeats 6400000 in
theorem RefParse12_any (l : List UInt8) (w : World) (hm : l.length ≤ maxLen) :
    Calls Tryd.prog 28 #[.string ⟨l.toArray⟩] w fun e w' => e = .returned (retPR (parseR l)) ∧ Below w.heap.size w w' := by
  have QP := fun (r : List UInt8) (h : r.length ≤ maxLen) W => Lib.hid (RefParse_any r W h)
  unfold maxLen at hm
  obtain ⟨W2, hW2⟩ : ∃ W2, W2 = ((w.alloc (.cells #[.int .u32 0, .int .i64 0, .int .i64 0, .int .i64 0] 35)).alloc (.cells #[.int .u32 0, .int .i64 0, .int .i64 0, .int .i64 0] 35)) := ⟨_, rfl⟩
  have hb0 : Below w.heap.size w W2 := by rw [hW2]; exact below_two w (.cells #[.int .u32 0, .int .i64 0, .int .i64 0, .int .i64 0] 35) (.cells #[.int .u32 0, .int .i64 0, .int .i64 0, .int .i64 0] 35)
  have KA : Hid (∀ w', Below W2.heap.size W2 w' → Blk w' w.heap.size 35 [.int .u32 0, .int .i64 0, .int .i64 0, .int .i64 0]) := Lib.hid (fun w' hb => by
    rw [hW2] at hb
    exact (Blk.new w 35 [.int .u32 0, .int .i64 0, .int .i64 0, .int .i64 0]).below (below_box hb) (by simp))
  have KB : Hid (∀ w', Below W2.heap.size W2 w' → Blk w' (w.heap.size + 1) 35 [.int .u32 0, .int .i64 0, .int .i64 0, .int .i64 0]) := Lib.hid (fun w' hb => by
    rw [hW2] at hb
    have e : (w.alloc (.cells #[.int .u32 0, .int .i64 0, .int .i64 0, .int .i64 0] 35)).heap.size = w.heap.size + 1 := by simp
    rw [← e]
    exact (Blk.new (w.alloc (.cells #[.int .u32 0, .int .i64 0, .int .i64 0, .int .i64 0] 35)) 35 [.int .u32 0, .int .i64 0, .int .i64 0, .int .i64 0]).below hb (by simp))
  have HW2 := Lib.hid hW2
  have HB0 := Lib.hid hb0
  clear hW2 hb0
  go_enter Tryd.func28, Tryd.ntmps28
  go_wp2_with fail
  go_loop [5] (fun i => ∃ j : Nat, j ≤ l.length ∧ i = .int .i64 (j : Int) ∧ Hid (NoSign l 32 j)) (fun i => l.length - (intOf i).toNat)
  case atStart => exact ⟨0, by omega, rfl, Lib.hid (fun k h => by omega)⟩
  case round =>
    obtain ⟨j, hj, rfl, hN⟩ := hrel
    by_cases hlt0 : j < l.length
    · have hb : j < (⟨l.toArray⟩ : ByteArray).size := by simpa [ByteArray.size] using hlt0
      by_cases hc : l.getD j 0 = 32
      · have hce : (((⟨l.toArray⟩ : ByteArray)[j].toNat : Int) != 32) = false := by rw [ba_at l j hb, hc]; rfl
        have HC := Lib.hid (show (cutL l 32).1 = l.take j by rw [cut_at l 32 j hlt0 hN.out hc])
        have hs : (⟨l.toArray⟩ : ByteArray).extract 0 j = ⟨(l.take j).toArray⟩ := by rw [ba_ext]; simp
        have qP := QP (l.take j) (by unfold maxLen; simp; omega)
        clear hN hc QP
        cases hA : parseP (l.take j) with
        | none =>
          rw [hA] at qP
          have HE := Lib.hid (parseR_none (l := l) (by rw [HC.out]; exact hA))
          simp only [retParse] at qP
          clear hA HC
          go_wp2_with fail
          refine (qP _).out.mono ?_
          rintro e w3 ⟨rfl, g⟩
          rw [← HW2.out] at g
          have ga := g.alloc g.size (.cells #[.int .u32 0, .int .i64 0] 33)
          go_wp2_with fail
          go_loop [8] (fun i => i = .int .i64 0) (fun _ => 0)
          case atStart => rfl
          case round =>
            obtain rfl := hrel
            have hk := KA.out _ ga
            have hkb := KB.out _ ga
            have c0 : (w3.alloc (.cells #[.int .u32 0, .int .i64 0] 33)).cell? ⟨w.heap.size, 0, none⟩ = some (.int .u32 0) := hk.cell 0
            have c1 : (w3.alloc (.cells #[.int .u32 0, .int .i64 0] 33)).cell? ⟨w.heap.size, 1, none⟩ = some (.int .i64 0) := hk.cell 1
            have c2 : (w3.alloc (.cells #[.int .u32 0, .int .i64 0] 33)).cell? ⟨w.heap.size, 2, none⟩ = some (.int .i64 0) := hk.cell 2
            have c3 : (w3.alloc (.cells #[.int .u32 0, .int .i64 0] 33)).cell? ⟨w.heap.size, 3, none⟩ = some (.int .i64 0) := hk.cell 3
            have b0 : (w3.alloc (.cells #[.int .u32 0, .int .i64 0] 33)).cell? ⟨w.heap.size + 1, 0, none⟩ = some (.int .u32 0) := hkb.cell 0
            have b1 : (w3.alloc (.cells #[.int .u32 0, .int .i64 0] 33)).cell? ⟨w.heap.size + 1, 1, none⟩ = some (.int .i64 0) := hkb.cell 1
            have b2 : (w3.alloc (.cells #[.int .u32 0, .int .i64 0] 33)).cell? ⟨w.heap.size + 1, 2, none⟩ = some (.int .i64 0) := hkb.cell 2
            have b3 : (w3.alloc (.cells #[.int .u32 0, .int .i64 0] 33)).cell? ⟨w.heap.size + 1, 3, none⟩ = some (.int .i64 0) := hkb.cell 3
            have f0 := hk.free 0
            have f1 := hk.free 1
            have f2 := hk.free 2
            have f3 := hk.free 3
            have hbe := ((((HB0.out.trans (ga.mono HB0.out.size)).setCell (p := ⟨w.heap.size, 0, none⟩) (Nat.le_refl _) (.int .u32 0)).setCell (p := ⟨w.heap.size, 1, none⟩) (Nat.le_refl _) (.int .i64 0)).setCell (p := ⟨w.heap.size, 2, none⟩) (Nat.le_refl _) (.int .i64 0)).setCell (p := ⟨w.heap.size, 3, none⟩) (Nat.le_refl _) (.int .i64 0)
            go_wp2_with fail
            exact bodyPost_ret (v := retPR none) (by simp [results, Tryd.results28, go_sem, retPR, *]) rfl ⟨by rw [HE.out], hbe⟩
        | some x =>
          obtain ⟨a, n⟩ := x
          have hlt := parseP_lt (l := (l.take j))
          have hlt2 := (parseP_sound hA).2.1
          rw [hA] at qP hlt
          simp only [pA, pN] at hlt
          have HPP := Lib.hid (show parseP (cutL l 32).1 = some (a, n) by rw [HC.out]; exact hA)
          simp only [retParse] at qP
          have QR := fun (k j : Nat) W => Lib.hid (RefRight12_any a (n : Int) (k : Int) (j : Int) W hlt.1 (by omega) (by omega))
          have QT := fun (k j : Nat) W => Lib.hid (RefText12_any a (n : Int) (k : Int) (j : Int) W hlt.1 (by omega) (by omega))
          have HLT := Lib.hid hlt.1
          clear hA HC hlt hlt2
          go_wp2_with fail
          refine (qP _).out.mono ?_
          rintro e w3 ⟨rfl, g⟩
          rw [← HW2.out] at g
          clear qP
          go_wp2_with fail
          have ga := g.alloc g.size (.cells #[.int .u32 (a : Int), .int .i64 (n : Int)] 33)
          have kP := Blk.new w3 33 [.int .u32 (a : Int), .int .i64 (n : Int)]
          have HP3 : Hid (∀ w', Below (w3.alloc (.cells #[.int .u32 (a : Int), .int .i64 (n : Int)] 33)).heap.size (w3.alloc (.cells #[.int .u32 (a : Int), .int .i64 (n : Int)] 33)) w' → Blk w' w3.heap.size 33 [.int .u32 (a : Int), .int .i64 (n : Int)]) := Lib.hid (fun w' hb => kP.below hb (by simp))
          have GA := Lib.hid ga
          clear ga g kP
          go_loopw [8] (fun i wr => Below (w3.alloc (.cells #[.int .u32 (a : Int), .int .i64 (n : Int)] 33)).heap.size (w3.alloc (.cells #[.int .u32 (a : Int), .int .i64 (n : Int)] 33)) wr ∧ ∃ k : Nat, k ≤ 33 ∧ i = .int .i64 (k : Int) ∧ Hid (Missed l a n k k)) (fun i _ => 33 - (intOf i).toNat)
          case atStart => exact ⟨Below.refl _ _, 0, by omega, rfl, Lib.hid (Missed.zero l a n)⟩
          case round =>
            obtain ⟨hbr, k, hk33, rfl, hno⟩ := hrel
            have hbg := GA.out.trans (hbr.mono GA.out.size)
            by_cases h33 : k = 33
            · subst h33
              have HE := Lib.hid (parseR_miss HPP.out hno.out)
              have hk := KA.out _ hbg
              have hkb := KB.out _ hbg
              have c0 : wr.cell? ⟨w.heap.size, 0, none⟩ = some (.int .u32 0) := hk.cell 0
              have c1 : wr.cell? ⟨w.heap.size, 1, none⟩ = some (.int .i64 0) := hk.cell 1
              have c2 : wr.cell? ⟨w.heap.size, 2, none⟩ = some (.int .i64 0) := hk.cell 2
              have c3 : wr.cell? ⟨w.heap.size, 3, none⟩ = some (.int .i64 0) := hk.cell 3
              have b0 : wr.cell? ⟨w.heap.size + 1, 0, none⟩ = some (.int .u32 0) := hkb.cell 0
              have b1 : wr.cell? ⟨w.heap.size + 1, 1, none⟩ = some (.int .i64 0) := hkb.cell 1
              have b2 : wr.cell? ⟨w.heap.size + 1, 2, none⟩ = some (.int .i64 0) := hkb.cell 2
              have b3 : wr.cell? ⟨w.heap.size + 1, 3, none⟩ = some (.int .i64 0) := hkb.cell 3
              have f0 := hk.free 0
              have f1 := hk.free 1
              have f2 := hk.free 2
              have f3 := hk.free 3
              have hbe := ((((HB0.out.trans (hbg.mono HB0.out.size)).setCell (p := ⟨w.heap.size, 0, none⟩) (Nat.le_refl _) (.int .u32 0)).setCell (p := ⟨w.heap.size, 1, none⟩) (Nat.le_refl _) (.int .i64 0)).setCell (p := ⟨w.heap.size, 2, none⟩) (Nat.le_refl _) (.int .i64 0)).setCell (p := ⟨w.heap.size, 3, none⟩) (Nat.le_refl _) (.int .i64 0)
              clear hno hbr hbg QR QT
              go_wp2_with fail
              exact bodyPost_ret (v := retPR none) (by simp [results, Tryd.results28, go_sem, retPR, *]) rfl ⟨by rw [HE.out], hbe⟩
            · have hkI : (k : Int) ≤ 32 := by omega
              clear h33
              go_wp2_with fail
              go_loopw [9] (fun i wi => Below (w3.alloc (.cells #[.int .u32 (a : Int), .int .i64 (n : Int)] 33)).heap.size (w3.alloc (.cells #[.int .u32 (a : Int), .int .i64 (n : Int)] 33)) wi ∧ ∃ q : Nat, k ≤ q ∧ q ≤ 33 ∧ i = .int .i64 (q : Int) ∧ Hid (Missed l a n k q)) (fun i _ => 33 - (intOf i).toNat)
              case atStart => exact ⟨hbr, k, by omega, by omega, rfl, hno⟩
              case round =>
                clear hbr hbg hno
                obtain ⟨hbr, q, hkq, hq33, rfl, hno⟩ := hrel
                by_cases h33 : q = 33
                · subst h33
                  have HN := Lib.hid (hno.out.line (by omega))
                  clear hno QR QT
                  go_wp2_with fail
                  go_roundw
                  case rel => exact ⟨hbr, k + 1, by omega, by go_num, HN⟩
                  case measure => simp [intOf] <;> omega
                · have hqI : (q : Int) ≤ 32 := by omega
                  have qR := fun W => QR k q W
                  have qT := fun W => QT k q W
                  clear QR QT h33
                  have kp := HP3.out _ hbr
                  have p0 : wr.cell? ⟨w3.heap.size, 0, none⟩ = some (.int .u32 (a : Int)) := kp.cell 0
                  have p1 : wr.cell? ⟨w3.heap.size, 1, none⟩ = some (.int .i64 (n : Int)) := kp.cell 1
                  clear kp
                  have hbA := (Below.refl wr.heap.size wr).alloc (Nat.le_refl _) (.cells #[.int .u32 (a : Int), .int .i64 (n : Int), .int .i64 (k : Int), .int .i64 (q : Int)] 35)
                  cases hok : okR (a : Int) (n : Int) (k : Int) (q : Int) with
                  | false =>
                    rw [hok] at qR
                    have HN := Lib.hid (hno.out.step hkq (fun e => by rw [hok] at e; cases e))
                    clear hok hno qT
                    go_wp2_with fail
                    refine (qR _).out.mono ?_
                    rintro e w4 ⟨rfl, hb4⟩
                    have hbB := hbA.trans (hb4.mono hbA.size)
                    go_wp2_with fail
                    go_roundw
                    case rel => exact ⟨hbr.trans (hbB.mono hbr.size), q + 1, by omega, by omega, by go_num, HN⟩
                    case measure => simp [intOf] <;> omega
                  | true =>
                    rw [hok] at qR
                    obtain ⟨T, hT⟩ : ∃ T, T = textR (a : Int) (n : Int) (k : Int) (q : Int) := ⟨_, rfl⟩
                    rw [← hT] at qT
                    have HX : Hid (∀ w', Below (wr.alloc (.cells #[.int .u32 (a : Int), .int .i64 (n : Int), .int .i64 (k : Int), .int .i64 (q : Int)] 35)).heap.size (wr.alloc (.cells #[.int .u32 (a : Int), .int .i64 (n : Int), .int .i64 (k : Int), .int .i64 (q : Int)] 35)) w' → Blk w' wr.heap.size 35 [.int .u32 (a : Int), .int .i64 (n : Int), .int .i64 (k : Int), .int .i64 (q : Int)]) := Lib.hid (fun w' hb => (Blk.new wr 35 [.int .u32 (a : Int), .int .i64 (n : Int), .int .i64 (k : Int), .int .i64 (q : Int)]).below hb (by simp))
                    by_cases hit : T = l
                    · have HE := Lib.hid (parseR_hit (l := l) HLT.out hok (by rw [← hT]; exact hit))
                      have c9 : (T == l) = true := by simp [hit]
                      clear hT hit hno hok
                      go_wp2_with fail
                      refine (qR _).out.mono ?_
                      rintro e w4 ⟨rfl, hb4⟩
                      have hbB := hbA.trans (hb4.mono hbA.size)
                      have kx := HX.out _ hb4
                      have x0 : w4.cell? ⟨wr.heap.size, 0, none⟩ = some (.int .u32 (a : Int)) := kx.cell 0
                      have x1 : w4.cell? ⟨wr.heap.size, 1, none⟩ = some (.int .i64 (n : Int)) := kx.cell 1
                      have x2 : w4.cell? ⟨wr.heap.size, 2, none⟩ = some (.int .i64 (k : Int)) := kx.cell 2
                      have x3 : w4.cell? ⟨wr.heap.size, 3, none⟩ = some (.int .i64 (q : Int)) := kx.cell 3
                      clear kx
                      go_wp2_with fail
                      refine (qT _).out.mono ?_
                      rintro e w5 ⟨rfl, hb5⟩
                      have hb45 := hb4.trans (hb5.mono hb4.size)
                      replace hbB := hbB.trans (hb5.mono hbB.size)
                      have kx := HX.out _ hb45
                      have y0 : w5.cell? ⟨wr.heap.size, 0, none⟩ = some (.int .u32 (a : Int)) := kx.cell 0
                      have y1 : w5.cell? ⟨wr.heap.size, 1, none⟩ = some (.int .i64 (n : Int)) := kx.cell 1
                      have y2 : w5.cell? ⟨wr.heap.size, 2, none⟩ = some (.int .i64 (k : Int)) := kx.cell 2
                      have y3 : w5.cell? ⟨wr.heap.size, 3, none⟩ = some (.int .i64 (q : Int)) := kx.cell 3
                      have hb3 := hbr.trans (hbB.mono hbr.size)
                      have hbg := GA.out.trans (hb3.mono GA.out.size)
                      have hk := KA.out _ hbg
                      have c0 : w5.cell? ⟨w.heap.size, 0, none⟩ = some (.int .u32 0) := hk.cell 0
                      have c1 : w5.cell? ⟨w.heap.size, 1, none⟩ = some (.int .i64 0) := hk.cell 1
                      have c2 : w5.cell? ⟨w.heap.size, 2, none⟩ = some (.int .i64 0) := hk.cell 2
                      have c3 : w5.cell? ⟨w.heap.size, 3, none⟩ = some (.int .i64 0) := hk.cell 3
                      have f0 := hk.free 0
                      have f1 := hk.free 1
                      have f2 := hk.free 2
                      have f3 := hk.free 3
                      have hlt : w.heap.size < wr.heap.size := (KA.out _ (GA.out.trans (hbr.mono GA.out.size))).lt
                      have hne : ¬ w.heap.size = wr.heap.size := by omega
                      have hne2 : ¬ wr.heap.size = w.heap.size := by omega
                      have hbe := ((((HB0.out.trans (hbg.mono HB0.out.size)).setCell (p := ⟨w.heap.size, 0, none⟩) (Nat.le_refl _) (.int .u32 (a : Int))).setCell (p := ⟨w.heap.size, 1, none⟩) (Nat.le_refl _) (.int .i64 (n : Int))).setCell (p := ⟨w.heap.size, 2, none⟩) (Nat.le_refl _) (.int .i64 (k : Int))).setCell (p := ⟨w.heap.size, 3, none⟩) (Nat.le_refl _) (.int .i64 (q : Int))
                      clear kx
                      go_wp2_with fail
                      exact bodyPost_ret (v := retPR (some (a, n, k, q))) (by simp [results, Tryd.results28, go_sem, retPR, *]) rfl ⟨by rw [HE.out], hbe⟩
                    · have HN := Lib.hid (hno.out.step hkq (fun _ => by rw [← hT]; exact hit))
                      have c9 : (T == l) = false := by simpa using hit
                      clear hT hit hno hok
                      go_wp2_with fail
                      refine (qR _).out.mono ?_
                      rintro e w4 ⟨rfl, hb4⟩
                      have hbB := hbA.trans (hb4.mono hbA.size)
                      have kx := HX.out _ hb4
                      have x0 : w4.cell? ⟨wr.heap.size, 0, none⟩ = some (.int .u32 (a : Int)) := kx.cell 0
                      have x1 : w4.cell? ⟨wr.heap.size, 1, none⟩ = some (.int .i64 (n : Int)) := kx.cell 1
                      have x2 : w4.cell? ⟨wr.heap.size, 2, none⟩ = some (.int .i64 (k : Int)) := kx.cell 2
                      have x3 : w4.cell? ⟨wr.heap.size, 3, none⟩ = some (.int .i64 (q : Int)) := kx.cell 3
                      clear kx
                      go_wp2_with fail
                      refine (qT _).out.mono ?_
                      rintro e w5 ⟨rfl, hb5⟩
                      replace hbB := hbB.trans (hb5.mono hbB.size)
                      go_wp2_with fail
                      go_roundw
                      case rel => exact ⟨hbr.trans (hbB.mono hbr.size), q + 1, by omega, by omega, by go_num, HN⟩
                      case measure => simp [intOf] <;> omega
      · have hce : (((⟨l.toArray⟩ : ByteArray)[j].toNat : Int) != 32) = true := by
          rw [ba_at l j hb]
          have : ¬ (l.getD j 0).toNat = 32 := fun e => hc (UInt8.toNat_inj.1 (by rw [e]; rfl))
          simpa using (show ¬ ((l.getD j 0).toNat : Int) = 32 by omega)
        have HN := Lib.hid (hN.out.more (wd := 1) hc (fun k h1 h2 => by omega))
        clear hc hN QP
        go_wp2_with fail
        go_round
        case rel => exact ⟨j + 1, by omega, by go_num, HN⟩
        case measure => simp [intOf] <;> omega
    · obtain rfl : j = l.length := by omega
      have HC := Lib.hid (show (cutL l 32).1 = l by rw [cut_none l 32 hN.out])
      have hs : (⟨l.toArray⟩ : ByteArray).extract 0 l.length = ⟨l.toArray⟩ := by rw [ba_ext]; simp
      have qP := QP l (by unfold maxLen; omega)
      clear hN QP
      cases hA : parseP l with
      | none =>
        rw [hA] at qP
        have HE := Lib.hid (parseR_none (l := l) (by rw [HC.out]; exact hA))
        simp only [retParse] at qP
        clear hA HC
        go_wp2_with fail
        refine (qP _).out.mono ?_
        rintro e w3 ⟨rfl, g⟩
        rw [← HW2.out] at g
        have ga := g.alloc g.size (.cells #[.int .u32 0, .int .i64 0] 33)
        go_wp2_with fail
        go_loop [8] (fun i => i = .int .i64 0) (fun _ => 0)
        case atStart => rfl
        case round =>
          obtain rfl := hrel
          have hk := KA.out _ ga
          have hkb := KB.out _ ga
          have c0 : (w3.alloc (.cells #[.int .u32 0, .int .i64 0] 33)).cell? ⟨w.heap.size, 0, none⟩ = some (.int .u32 0) := hk.cell 0
          have c1 : (w3.alloc (.cells #[.int .u32 0, .int .i64 0] 33)).cell? ⟨w.heap.size, 1, none⟩ = some (.int .i64 0) := hk.cell 1
          have c2 : (w3.alloc (.cells #[.int .u32 0, .int .i64 0] 33)).cell? ⟨w.heap.size, 2, none⟩ = some (.int .i64 0) := hk.cell 2
          have c3 : (w3.alloc (.cells #[.int .u32 0, .int .i64 0] 33)).cell? ⟨w.heap.size, 3, none⟩ = some (.int .i64 0) := hk.cell 3
          have b0 : (w3.alloc (.cells #[.int .u32 0, .int .i64 0] 33)).cell? ⟨w.heap.size + 1, 0, none⟩ = some (.int .u32 0) := hkb.cell 0
          have b1 : (w3.alloc (.cells #[.int .u32 0, .int .i64 0] 33)).cell? ⟨w.heap.size + 1, 1, none⟩ = some (.int .i64 0) := hkb.cell 1
          have b2 : (w3.alloc (.cells #[.int .u32 0, .int .i64 0] 33)).cell? ⟨w.heap.size + 1, 2, none⟩ = some (.int .i64 0) := hkb.cell 2
          have b3 : (w3.alloc (.cells #[.int .u32 0, .int .i64 0] 33)).cell? ⟨w.heap.size + 1, 3, none⟩ = some (.int .i64 0) := hkb.cell 3
          have f0 := hk.free 0
          have f1 := hk.free 1
          have f2 := hk.free 2
          have f3 := hk.free 3
          have hbe := ((((HB0.out.trans (ga.mono HB0.out.size)).setCell (p := ⟨w.heap.size, 0, none⟩) (Nat.le_refl _) (.int .u32 0)).setCell (p := ⟨w.heap.size, 1, none⟩) (Nat.le_refl _) (.int .i64 0)).setCell (p := ⟨w.heap.size, 2, none⟩) (Nat.le_refl _) (.int .i64 0)).setCell (p := ⟨w.heap.size, 3, none⟩) (Nat.le_refl _) (.int .i64 0)
          go_wp2_with fail
          exact bodyPost_ret (v := retPR none) (by simp [results, Tryd.results28, go_sem, retPR, *]) rfl ⟨by rw [HE.out], hbe⟩
      | some x =>
        obtain ⟨a, n⟩ := x
        have hlt := parseP_lt (l := l)
        have hlt2 := (parseP_sound hA).2.1
        rw [hA] at qP hlt
        simp only [pA, pN] at hlt
        have HPP := Lib.hid (show parseP (cutL l 32).1 = some (a, n) by rw [HC.out]; exact hA)
        simp only [retParse] at qP
        have QR := fun (k j : Nat) W => Lib.hid (RefRight12_any a (n : Int) (k : Int) (j : Int) W hlt.1 (by omega) (by omega))
        have QT := fun (k j : Nat) W => Lib.hid (RefText12_any a (n : Int) (k : Int) (j : Int) W hlt.1 (by omega) (by omega))
        have HLT := Lib.hid hlt.1
        clear hA HC hlt hlt2
        go_wp2_with fail
        refine (qP _).out.mono ?_
        rintro e w3 ⟨rfl, g⟩
        rw [← HW2.out] at g
        clear qP
        go_wp2_with fail
        have ga := g.alloc g.size (.cells #[.int .u32 (a : Int), .int .i64 (n : Int)] 33)
        have kP := Blk.new w3 33 [.int .u32 (a : Int), .int .i64 (n : Int)]
        have HP3 : Hid (∀ w', Below (w3.alloc (.cells #[.int .u32 (a : Int), .int .i64 (n : Int)] 33)).heap.size (w3.alloc (.cells #[.int .u32 (a : Int), .int .i64 (n : Int)] 33)) w' → Blk w' w3.heap.size 33 [.int .u32 (a : Int), .int .i64 (n : Int)]) := Lib.hid (fun w' hb => kP.below hb (by simp))
        have GA := Lib.hid ga
        clear ga g kP
        go_loopw [8] (fun i wr => Below (w3.alloc (.cells #[.int .u32 (a : Int), .int .i64 (n : Int)] 33)).heap.size (w3.alloc (.cells #[.int .u32 (a : Int), .int .i64 (n : Int)] 33)) wr ∧ ∃ k : Nat, k ≤ 33 ∧ i = .int .i64 (k : Int) ∧ Hid (Missed l a n k k)) (fun i _ => 33 - (intOf i).toNat)
        case atStart => exact ⟨Below.refl _ _, 0, by omega, rfl, Lib.hid (Missed.zero l a n)⟩
        case round =>
          obtain ⟨hbr, k, hk33, rfl, hno⟩ := hrel
          have hbg := GA.out.trans (hbr.mono GA.out.size)
          by_cases h33 : k = 33
          · subst h33
            have HE := Lib.hid (parseR_miss HPP.out hno.out)
            have hk := KA.out _ hbg
            have hkb := KB.out _ hbg
            have c0 : wr.cell? ⟨w.heap.size, 0, none⟩ = some (.int .u32 0) := hk.cell 0
            have c1 : wr.cell? ⟨w.heap.size, 1, none⟩ = some (.int .i64 0) := hk.cell 1
            have c2 : wr.cell? ⟨w.heap.size, 2, none⟩ = some (.int .i64 0) := hk.cell 2
            have c3 : wr.cell? ⟨w.heap.size, 3, none⟩ = some (.int .i64 0) := hk.cell 3
            have b0 : wr.cell? ⟨w.heap.size + 1, 0, none⟩ = some (.int .u32 0) := hkb.cell 0
            have b1 : wr.cell? ⟨w.heap.size + 1, 1, none⟩ = some (.int .i64 0) := hkb.cell 1
            have b2 : wr.cell? ⟨w.heap.size + 1, 2, none⟩ = some (.int .i64 0) := hkb.cell 2
            have b3 : wr.cell? ⟨w.heap.size + 1, 3, none⟩ = some (.int .i64 0) := hkb.cell 3
            have f0 := hk.free 0
            have f1 := hk.free 1
            have f2 := hk.free 2
            have f3 := hk.free 3
            have hbe := ((((HB0.out.trans (hbg.mono HB0.out.size)).setCell (p := ⟨w.heap.size, 0, none⟩) (Nat.le_refl _) (.int .u32 0)).setCell (p := ⟨w.heap.size, 1, none⟩) (Nat.le_refl _) (.int .i64 0)).setCell (p := ⟨w.heap.size, 2, none⟩) (Nat.le_refl _) (.int .i64 0)).setCell (p := ⟨w.heap.size, 3, none⟩) (Nat.le_refl _) (.int .i64 0)
            clear hno hbr hbg QR QT
            go_wp2_with fail
            exact bodyPost_ret (v := retPR none) (by simp [results, Tryd.results28, go_sem, retPR, *]) rfl ⟨by rw [HE.out], hbe⟩
          · have hkI : (k : Int) ≤ 32 := by omega
            clear h33
            go_wp2_with fail
            go_loopw [9] (fun i wi => Below (w3.alloc (.cells #[.int .u32 (a : Int), .int .i64 (n : Int)] 33)).heap.size (w3.alloc (.cells #[.int .u32 (a : Int), .int .i64 (n : Int)] 33)) wi ∧ ∃ q : Nat, k ≤ q ∧ q ≤ 33 ∧ i = .int .i64 (q : Int) ∧ Hid (Missed l a n k q)) (fun i _ => 33 - (intOf i).toNat)
            case atStart => exact ⟨hbr, k, by omega, by omega, rfl, hno⟩
            case round =>
              clear hbr hbg hno
              obtain ⟨hbr, q, hkq, hq33, rfl, hno⟩ := hrel
              by_cases h33 : q = 33
              · subst h33
                have HN := Lib.hid (hno.out.line (by omega))
                clear hno QR QT
                go_wp2_with fail
                go_roundw
                case rel => exact ⟨hbr, k + 1, by omega, by go_num, HN⟩
                case measure => simp [intOf] <;> omega
              · have hqI : (q : Int) ≤ 32 := by omega
                have qR := fun W => QR k q W
                have qT := fun W => QT k q W
                clear QR QT h33
                have kp := HP3.out _ hbr
                have p0 : wr.cell? ⟨w3.heap.size, 0, none⟩ = some (.int .u32 (a : Int)) := kp.cell 0
                have p1 : wr.cell? ⟨w3.heap.size, 1, none⟩ = some (.int .i64 (n : Int)) := kp.cell 1
                clear kp
                have hbA := (Below.refl wr.heap.size wr).alloc (Nat.le_refl _) (.cells #[.int .u32 (a : Int), .int .i64 (n : Int), .int .i64 (k : Int), .int .i64 (q : Int)] 35)
                cases hok : okR (a : Int) (n : Int) (k : Int) (q : Int) with
                | false =>
                  rw [hok] at qR
                  have HN := Lib.hid (hno.out.step hkq (fun e => by rw [hok] at e; cases e))
                  clear hok hno qT
                  go_wp2_with fail
                  refine (qR _).out.mono ?_
                  rintro e w4 ⟨rfl, hb4⟩
                  have hbB := hbA.trans (hb4.mono hbA.size)
                  go_wp2_with fail
                  go_roundw
                  case rel => exact ⟨hbr.trans (hbB.mono hbr.size), q + 1, by omega, by omega, by go_num, HN⟩
                  case measure => simp [intOf] <;> omega
                | true =>
                  rw [hok] at qR
                  obtain ⟨T, hT⟩ : ∃ T, T = textR (a : Int) (n : Int) (k : Int) (q : Int) := ⟨_, rfl⟩
                  rw [← hT] at qT
                  have HX : Hid (∀ w', Below (wr.alloc (.cells #[.int .u32 (a : Int), .int .i64 (n : Int), .int .i64 (k : Int), .int .i64 (q : Int)] 35)).heap.size (wr.alloc (.cells #[.int .u32 (a : Int), .int .i64 (n : Int), .int .i64 (k : Int), .int .i64 (q : Int)] 35)) w' → Blk w' wr.heap.size 35 [.int .u32 (a : Int), .int .i64 (n : Int), .int .i64 (k : Int), .int .i64 (q : Int)]) := Lib.hid (fun w' hb => (Blk.new wr 35 [.int .u32 (a : Int), .int .i64 (n : Int), .int .i64 (k : Int), .int .i64 (q : Int)]).below hb (by simp))
                  by_cases hit : T = l
                  · have HE := Lib.hid (parseR_hit (l := l) HLT.out hok (by rw [← hT]; exact hit))
                    have c9 : (T == l) = true := by simp [hit]
                    clear hT hit hno hok
                    go_wp2_with fail
                    refine (qR _).out.mono ?_
                    rintro e w4 ⟨rfl, hb4⟩
                    have hbB := hbA.trans (hb4.mono hbA.size)
                    have kx := HX.out _ hb4
                    have x0 : w4.cell? ⟨wr.heap.size, 0, none⟩ = some (.int .u32 (a : Int)) := kx.cell 0
                    have x1 : w4.cell? ⟨wr.heap.size, 1, none⟩ = some (.int .i64 (n : Int)) := kx.cell 1
                    have x2 : w4.cell? ⟨wr.heap.size, 2, none⟩ = some (.int .i64 (k : Int)) := kx.cell 2
                    have x3 : w4.cell? ⟨wr.heap.size, 3, none⟩ = some (.int .i64 (q : Int)) := kx.cell 3
                    clear kx
                    go_wp2_with fail
                    refine (qT _).out.mono ?_
                    rintro e w5 ⟨rfl, hb5⟩
                    have hb45 := hb4.trans (hb5.mono hb4.size)
                    replace hbB := hbB.trans (hb5.mono hbB.size)
                    have kx := HX.out _ hb45
                    have y0 : w5.cell? ⟨wr.heap.size, 0, none⟩ = some (.int .u32 (a : Int)) := kx.cell 0
                    have y1 : w5.cell? ⟨wr.heap.size, 1, none⟩ = some (.int .i64 (n : Int)) := kx.cell 1
                    have y2 : w5.cell? ⟨wr.heap.size, 2, none⟩ = some (.int .i64 (k : Int)) := kx.cell 2
                    have y3 : w5.cell? ⟨wr.heap.size, 3, none⟩ = some (.int .i64 (q : Int)) := kx.cell 3
                    have hb3 := hbr.trans (hbB.mono hbr.size)
                    have hbg := GA.out.trans (hb3.mono GA.out.size)
                    have hk := KA.out _ hbg
                    have c0 : w5.cell? ⟨w.heap.size, 0, none⟩ = some (.int .u32 0) := hk.cell 0
                    have c1 : w5.cell? ⟨w.heap.size, 1, none⟩ = some (.int .i64 0) := hk.cell 1
                    have c2 : w5.cell? ⟨w.heap.size, 2, none⟩ = some (.int .i64 0) := hk.cell 2
                    have c3 : w5.cell? ⟨w.heap.size, 3, none⟩ = some (.int .i64 0) := hk.cell 3
                    have f0 := hk.free 0
                    have f1 := hk.free 1
                    have f2 := hk.free 2
                    have f3 := hk.free 3
                    have hlt : w.heap.size < wr.heap.size := (KA.out _ (GA.out.trans (hbr.mono GA.out.size))).lt
                    have hne : ¬ w.heap.size = wr.heap.size := by omega
                    have hne2 : ¬ wr.heap.size = w.heap.size := by omega
                    have hbe := ((((HB0.out.trans (hbg.mono HB0.out.size)).setCell (p := ⟨w.heap.size, 0, none⟩) (Nat.le_refl _) (.int .u32 (a : Int))).setCell (p := ⟨w.heap.size, 1, none⟩) (Nat.le_refl _) (.int .i64 (n : Int))).setCell (p := ⟨w.heap.size, 2, none⟩) (Nat.le_refl _) (.int .i64 (k : Int))).setCell (p := ⟨w.heap.size, 3, none⟩) (Nat.le_refl _) (.int .i64 (q : Int))
                    clear kx
                    go_wp2_with fail
                    exact bodyPost_ret (v := retPR (some (a, n, k, q))) (by simp [results, Tryd.results28, go_sem, retPR, *]) rfl ⟨by rw [HE.out], hbe⟩
                  · have HN := Lib.hid (hno.out.step hkq (fun _ => by rw [← hT]; exact hit))
                    have c9 : (T == l) = false := by simpa using hit
                    clear hT hit hno hok
                    go_wp2_with fail
                    refine (qR _).out.mono ?_
                    rintro e w4 ⟨rfl, hb4⟩
                    have hbB := hbA.trans (hb4.mono hbA.size)
                    have kx := HX.out _ hb4
                    have x0 : w4.cell? ⟨wr.heap.size, 0, none⟩ = some (.int .u32 (a : Int)) := kx.cell 0
                    have x1 : w4.cell? ⟨wr.heap.size, 1, none⟩ = some (.int .i64 (n : Int)) := kx.cell 1
                    have x2 : w4.cell? ⟨wr.heap.size, 2, none⟩ = some (.int .i64 (k : Int)) := kx.cell 2
                    have x3 : w4.cell? ⟨wr.heap.size, 3, none⟩ = some (.int .i64 (q : Int)) := kx.cell 3
                    clear kx
                    go_wp2_with fail
                    refine (qT _).out.mono ?_
                    rintro e w5 ⟨rfl, hb5⟩
                    replace hbB := hbB.trans (hb5.mono hbB.size)
                    go_wp2_with fail
                    go_roundw
                    case rel => exact ⟨hbr.trans (hbB.mono hbr.size), q + 1, by omega, by omega, by go_num, HN⟩
                    case measure => simp [intOf] <;> omega
end Go.Proofs.YtcjeifpdikojlaaDoor

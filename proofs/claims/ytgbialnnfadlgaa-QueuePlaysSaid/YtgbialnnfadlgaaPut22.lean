/-
  The queue's Put.
-/
import Derived.Test.YtgbialnnfadlgaaLine22
import Derived.Test.YtgbialnnfadlgaaApp22
namespace Go.Proofs.Ytgbialnnfadlgaa
set_option linter.unusedVariables false
set_option linter.unusedSimpArgs false
open Go.RowKit

theorem pass22_no (g : Nat) (M : Int) (v x : Value) (R : List UInt8) (w : World) (h : Que w g M v R false) :
    Calls Try.prog 23 #[.pointer (some ⟨g, 0, none⟩), x] w fun e w' => e = .returned (.int .i64 0) ∧ w = w' := by
  obtain ⟨c0, c1, c2⟩ := cells3 h.1
  clear h
  go_enter Try.func23, Try.ntmps23
  go_wp2_with fail
  go_ret
  exact ⟨rfl, rfl⟩
theorem bytes_take {w : World} {A : Option Addr} {m : List UInt8} (k : Nat) (h : Bytes w A m) : Bytes w A (m.take k) := fun hne => by
  obtain ⟨b, off, rfl, hlt, hc⟩ := h (fun e => hne (by rw [e]; simp))
  exact ⟨b, off, rfl, hlt, fun j hj => by
    rw [List.length_take] at hj
    rw [hc j (by omega)]
    simp [List.getD, List.getElem?_take, show j < k by omega]⟩
theorem bytes_drop {w : World} {A : Option Addr} {b : List UInt8} (n : Nat) (hb : Bytes w A b) : Bytes w (A.map (·.add n)) (b.drop n) := by
  intro hne
  have hl : n < b.length := Decidable.byContradiction fun h => hne (List.drop_eq_nil_of_le (by omega))
  obtain ⟨bl, off, rfl, hlt, hc⟩ := hb (fun e => by subst e; simp at hl)
  refine ⟨bl, off + n, by simp [Addr.add_lit], hlt, fun j hj => ?_⟩
  rw [List.length_drop] at hj
  rw [Nat.add_assoc, hc (n + j) (by omega)]
  simp [List.getD, List.getElem?_drop]
/-- A cut at its head, as the walk writes its address. -/
theorem bytes_cut {w : World} {A AA : Option Addr} {Y : List UInt8} {c n : Nat} (hb : Bytes w A Y) (hc : Y.length ≤ c) (hA : (if c = n then A else A.map (·.add n)) = AA) : Bytes w AA (Y.drop n) := by
  by_cases h : c = n
  · rw [List.drop_eq_nil_of_le (by omega)]
    exact Bytes.nil _ _
  · rw [if_neg h] at hA
    subst hA
    exact bytes_drop n hb
set_option maxHeartbeats 1600000 in
theorem pass22_all (g : Nat) (M : Int) (v : Value) (R : List UInt8) (A : Option Addr) (c : Nat) (l : List UInt8) (w : World) (h : Que w g M v R true) (hy : Bytes w A l) (hA : (A = none ∧ l = [] ∧ c = 0) ∨ ∃ b o, A = some ⟨b, o, none⟩) (he : eolN l = -1) :
    Calls Try.prog 23 #[.pointer (some ⟨g, 0, none⟩), .slice A l.length c] w fun e w' => e = .returned (.int .i64 (l.length : Int)) ∧ w' = w := by
  have Q := Lib.hid (IndexByte22_any A c l w hy hA)
  rw [he] at Q
  obtain ⟨c0, c1, c2⟩ := cells3 h.1
  clear h hy he
  go_enter Try.func23, Try.ntmps23
  go_wp2_with fail
  refine (Q.out).mono ?_
  rintro e w1 ⟨rfl, rfl⟩
  go_wp2_with fail
  go_ret
  exact ⟨rfl, rfl⟩
set_option maxHeartbeats 1600000 in
theorem pass22_some (g : Nat) (M : Int) (v : Value) (R : List UInt8) (A : Option Addr) (c : Nat) (l : List UInt8) (w : World) (h : Que w g M v R true) (hy : Bytes w A l) (hA : (A = none ∧ l = [] ∧ c = 0) ∨ ∃ b o, A = some ⟨b, o, none⟩) (k : Nat) (he : eolN l = (k : Int)) (hl : l.length ≤ 1000000) :
    Calls Try.prog 23 #[.pointer (some ⟨g, 0, none⟩), .slice A l.length c] w fun e w' => e = .returned (.int .i64 ((k + 1 : Nat) : Int)) ∧ w' = w.setCell ⟨g, 2, none⟩ (.bool false) := by
  have Q := Lib.hid (IndexByte22_any A c l w hy hA)
  have hlt := eolN_lt l
  rw [he] at Q hlt
  have hk0 : ¬ (k : Int) < 0 := by omega
  have hkb : (k : Int) ≤ 1000000 := by omega
  obtain ⟨c0, c1, c2⟩ := cells3 h.1
  obtain ⟨f0, f1, f2⟩ := free3 h.1
  clear h hy he hlt hl
  go_enter Try.func23, Try.ntmps23
  go_wp2_with fail
  refine (Q.out).mono ?_
  rintro e w1 ⟨rfl, rfl⟩
  go_wp2_with fail
  go_ret
  exact ⟨by simp, rfl⟩
/-- A flag of the queue's that is written is no byte of a row. -/
theorem bytes_flag {w : World} {g : Nat} {M : Int} {v : Value} {R : List UInt8} {s : Bool} (h : Que w g M v R s) (b : Bool) {A : Option Addr} {l : List UInt8} (hy : Bytes w A l) : Bytes (w.setCell ⟨g, 2, none⟩ (.bool b)) A l := fun hne => by
  obtain ⟨bl, off, rfl, hlt, hc⟩ := hy hne
  refine ⟨bl, off, rfl, by simpa [World.setCell] using hlt, fun j hj => ?_⟩
  have h2 := hc j hj
  by_cases e : (⟨g, 2, none⟩ : Addr) = ⟨bl, off + j, none⟩
  · rw [← e, (cells3 h.1).2.2] at h2
    cases h2
  · exact (World.cell?_setCell_other _ _ _ _ e).trans h2
set_option maxHeartbeats 3200000 in
theorem Put_core (g : Nat) (M : Int) (v : Value) (R : List UInt8) (s s' : Bool) (A : Option Addr) (c K gone : Nat) (m : List UInt8) (w : World) (h : Que w g M v R s) (hm : Bytes w A m) (hc : m.length ≤ c) (hcm : c ≤ maxLen) (hmin : min (m.length : Int) (M - (R.length : Int)) = (K : Int)) (hgo : gone ≤ K)
    (P : ∀ w0, Below w.heap.size w w0 → Calls Try.prog 23 #[.pointer (some ⟨g, 0, none⟩), .slice A K c] w0 fun e w' => e = .returned (.int .i64 (gone : Int)) ∧ Que w' g M v R s' ∧ Keep w0 w' g v v ∧ ∀ A l, Bytes w0 A l → Bytes w' A l) :
    Calls Try.prog 11 #[.pointer (some ⟨g, 0, none⟩), .slice A m.length c] w fun e w' => e = .returned (.int .i64 (K : Int)) ∧ ∃ v', Que w' g M v' (R ++ (m.take K).drop gone) s' ∧ Keep w w' g v v' := by
  have hsm := h.small
  have hM := h.2.2
  have hkm : K ≤ m.length ∧ (R.length : Int) + K ≤ M := by omega
  have Q2 := Lib.hid (Room22_any g M v R s w h)
  obtain ⟨Av, cv, rfl, fv, gv, _⟩ := h.2.1.form
  have hle : (K : Int) ≤ (c : Int) := by omega
  have hk0 : 0 ≤ (K : Int) := by omega
  have hg1 : (gone : Int) ≤ (K : Int) := by omega
  have hg2 : 0 ≤ (gone : Int) := by omega
  have hm1 : c ≤ 9223372036854775807 := by unfold maxLen at hcm; omega
  obtain ⟨AA, hAA⟩ : ∃ AA, (if c = gone then A else A.map (·.add gone)) = AA := ⟨_, rfl⟩
  obtain ⟨Y, hY⟩ : ∃ Y, Y = (m.take K).drop gone := ⟨_, rfl⟩
  have hyl : K - gone = Y.length := by rw [hY, List.length_drop, List.length_take]; omega
  have hyb : Bytes w AA Y := by rw [hY]; exact bytes_cut (bytes_take K hm) (by rw [List.length_take]; omega) hAA
  rw [← hY]
  have HS := Lib.hid h; have HM := Lib.hid hyb; have HL := Lib.hid hyl; have HKM := Lib.hid hkm; have HSM := Lib.hid hsm; have HP := Lib.hid P
  have HG := Lib.hid h.lt; have HMX := Lib.hid hM
  clear h hm hyb hyl hkm hsm hY fv gv hcm hM P hgo
  go_enter Try.func11, Try.ntmps11
  go_wp2_with fail
  refine Q2.out.mono ?_
  rintro e w2 ⟨rfl, hb2⟩
  have hs2 := HS.out.below hb2
  obtain ⟨c0, c1, c2⟩ := cells3 hs2.1
  obtain ⟨f0, f1, f2⟩ := free3 hs2.1
  have HS2 := Lib.hid hs2; have HB2 := Lib.hid hb2
  clear hs2 hb2
  go_wp2_with fail
  go_region_law ((first
    | (go_simp; go_at_call 23; refine (HP.out _ HB2.out.drew).mono ?_; rintro e w4 ⟨rfl, hs4, hk4, hy4⟩; obtain ⟨d0, d1, d2⟩ := cells3 hs4.1; obtain ⟨e0, e1, e2⟩ := free3 hs4.1; have HS4 := Lib.hid hs4; have HK4 := Lib.hid hk4; have HY4 := Lib.hid hy4; clear hs4 hk4 hy4)
    | (have hq4 := HS4.out; clear hq4; refine step_append_tail isBytes rfl (.tmp 19) (.tmp 24) rfl (g + 1) _ R rfl HS4.out.2.1 HS4.out.1.lt AA Y _ (c - gone) rfl HL.out (HY4.out _ _ (HM.out.below HB2.out.drew)) (by have h1 := HL.out; have h2 := HKM.out; have h3 := HSM.out; have h4 := HMX.out; omega) ?_; intro v' w3 ht3 hg3 hn3; have hk3 : Blk w3 g 48 [.int .i64 M, .slice Av R.length cv, .bool s'] := (hg3.block g HS4.out.1.lt (fun e => by have := (HS4.out.2.1.lt e.symm).1; omega)).trans HS4.out.1; have c9 : w3.cell? ⟨g, 1, none⟩ = some (.slice Av R.length cv) := hk3.cell 1; have f9 : w3.frozen? ⟨g, 1, none⟩ = false := hk3.free 1; obtain ⟨A2, n2, rfl, _, _, _⟩ := ht3.form; have HK3 := Lib.hid hk3; have HT3 := Lib.hid ht3; have HG3 := Lib.hid hg3; have HN3 := Lib.hid hn3; clear hk3 ht3 hg3 hn3)))
  all_goals
    go_wp2_with fail
    go_ret
    have hT := HT3.out
    have hN := HN3.out
    simp only [List.length_append] at hT hN
    have HKE : Keep w4 w3 g (.slice Av R.length cv) (.slice A2 (R.length + Y.length) n2) := ⟨HG3.out.os, HG3.out.tape, HG3.out.output, HG3.out.size, fun k hk _ hv => HG3.out.block k hk (fun e => hv e.symm), hN⟩
    exact ⟨rfl, _, ⟨HK3.out.set 1 (.slice A2 (R.length + Y.length) n2), hT.beside (grown_setCell (grown_refl _ _) _ _) (Nat.lt_succ_self _), (by have h1 := HL.out; have h2 := HKM.out; rw [List.length_append]; omega), HMX.out.2⟩, (((Keep.of_below HB2.out).drew).trans (HK4.out.trans HKE)).set 1 _ _ (.inl rfl)⟩
theorem Put22_k (g : Nat) (M : Int) (v : Value) (R : List UInt8) (A : Option Addr) (c k : Nat) (m : List UInt8) (w : World) (h : Que w g M v R false) (hm : Bytes w A m) (hc : m.length ≤ c) (hcm : c ≤ maxLen) (hmin : min (m.length : Int) (M - (R.length : Int)) = (k : Int)) :
    Calls Try.prog 11 #[.pointer (some ⟨g, 0, none⟩), .slice A m.length c] w fun e w' => e = .returned (.int .i64 (k : Int)) ∧ ∃ v', Que w' g M v' (R ++ m.take k) false ∧ Keep w w' g v v' := by
  refine (Put_core g M v R false false A c k 0 m w h hm hc hcm hmin (Nat.zero_le _) fun w0 hb => ?_).mono ?_
  · refine (pass22_no g M v (.slice A k c) R w0 (h.below hb)).mono ?_
    rintro e w1 ⟨rfl, rfl⟩
    exact ⟨by simp, h.below hb, Keep.refl _ _ _, fun _ _ h => h⟩
  · rintro e w1 ⟨rfl, v', hq, hk⟩
    exact ⟨rfl, v', by simpa using hq, hk⟩
/-- Where what comes goes. -/
def passN (s : Bool) (l : List UInt8) : Nat := if s = false then 0 else if eolN l = -1 then l.length else (eolN l).toNat + 1
def passS (s : Bool) (l : List UInt8) : Bool := if s = false then false else if eolN l = -1 then true else false
theorem passN_le (s : Bool) (l : List UInt8) : passN s l ≤ l.length := by
  have h := eolN_lt l
  have h2 := eolN_ge l
  unfold passN
  split
  · omega
  · split <;> omega
theorem Put22_s (g : Nat) (M : Int) (v : Value) (R : List UInt8) (s : Bool) (A : Option Addr) (c k : Nat) (m : List UInt8) (w : World) (h : Que w g M v R s) (hm : Bytes w A m) (hA : (A = none ∧ m = [] ∧ c = 0) ∨ ∃ b o, A = some ⟨b, o, none⟩) (hc : m.length ≤ c) (hcm : c ≤ maxLen) (hmin : min (m.length : Int) (M - (R.length : Int)) = (k : Int)) :
    Calls Try.prog 11 #[.pointer (some ⟨g, 0, none⟩), .slice A m.length c] w fun e w' => e = .returned (.int .i64 (k : Int)) ∧ ∃ v', Que w' g M v' (R ++ (m.take k).drop (passN s (m.take k))) (passS s (m.take k)) ∧ Keep w w' g v v' := by
  have hkm : k ≤ m.length := by omega
  have hM := h.2.2
  have hlt : (m.take k).length = k := by rw [List.length_take]; omega
  refine Put_core g M v R s _ A c k _ m w h hm hc hcm hmin (by have := passN_le s (m.take k); omega) fun w0 hb => ?_
  have h' := h.below hb
  have hA' : (A = none ∧ m.take k = [] ∧ c = 0) ∨ ∃ b o, A = some ⟨b, o, none⟩ := by
    rcases hA with ⟨rfl, rfl, rfl⟩ | h
    · exact .inl ⟨rfl, by simp, rfl⟩
    · exact .inr h
  have hy := (bytes_take k hm).below hb
  unfold passN passS
  cases s with
  | false =>
    refine (pass22_no g M v (.slice A k c) R w0 h').mono ?_
    rintro e w1 ⟨rfl, rfl⟩
    exact ⟨by simp, by simpa using h', Keep.refl _ _ _, fun _ _ h => h⟩
  | true =>
    by_cases he : eolN (m.take k) = -1
    · have := pass22_all g M v R A c (m.take k) w0 h' hy hA' he
      rw [hlt] at this
      refine this.mono ?_
      rintro e w1 ⟨rfl, rfl⟩
      exact ⟨by simp [he, hlt], by simpa [he] using h', Keep.refl _ _ _, fun _ _ h => h⟩
    · have h2 := eolN_ge (m.take k)
      obtain ⟨i, hi⟩ : ∃ i : Nat, eolN (m.take k) = (i : Int) := ⟨(eolN (m.take k)).toNat, by omega⟩
      have := pass22_some g M v R A c (m.take k) w0 h' hy hA' i hi (by rw [hlt]; omega)
      rw [hlt] at this
      refine this.mono ?_
      rintro e w1 ⟨rfl, rfl⟩
      refine ⟨by simp [hi], ?_, (Keep.refl _ _ _).set 2 _ _ (.inl rfl), fun _ _ h => bytes_flag h' false h⟩
      rw [if_neg (by simp), if_neg he]
      exact ⟨h'.1.set 2 (.bool false), h'.2.1.beside (grown_setCell (grown_refl _ _) _ _) (Nat.lt_succ_self _), h'.2.2⟩
/-- Where what comes does not go: as much as there is room for. -/
theorem Put22_any (g : Nat) (M : Int) (v : Value) (R : List UInt8) (A : Option Addr) (c : Nat) (m : List UInt8) (w : World) (h : Que w g M v R false) (hm : Bytes w A m) (hc : m.length ≤ c) (hcm : c ≤ maxLen) :
    ∃ k : Nat, k = min m.length (M.toNat - R.length) ∧ Calls Try.prog 11 #[.pointer (some ⟨g, 0, none⟩), .slice A m.length c] w fun e w' => e = .returned (.int .i64 (k : Int)) ∧ ∃ v', Que w' g M v' (R ++ m.take k) false ∧ Keep w w' g v v' :=
  ⟨_, rfl, Put22_k g M v R A c _ m w h hm hc hcm (by have := h.2.2; omega)⟩
end Go.Proofs.Ytgbialnnfadlgaa

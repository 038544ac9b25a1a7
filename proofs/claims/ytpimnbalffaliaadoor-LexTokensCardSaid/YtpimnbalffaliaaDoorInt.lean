/-
  Which number digits say, as octet reads them and as the document does.
-/
import Derived.Test.YtpimnbalffaliaaDoorRefText
namespace Go.Proofs.YtpimnbalffaliaaDoor
open Go.RowKit

def retInt (r : Option Nat) : Value := .tuple #[.int .i64 ((r.getD 0 : Nat) : Int), .bool r.isSome]

theorem intSpec_none_len {l : List UInt8} (h : l = [] ∨ 10 < l.length) : intSpec l = none := by
  cases hs : intSpec l with
  | none => rfl
  | some n =>
    obtain ⟨h1, h2, _⟩ := intSpec_len hs
    rcases h with rfl | h
    · simp at h1
    · omega
theorem intSpec_none_zero {l : List UInt8} (h1 : 1 < l.length) (h2 : l.headD 0 = 48) : intSpec l = none := by
  cases hs : intSpec l with
  | none => rfl
  | some n =>
    obtain ⟨_, _, _, h3⟩ := intSpec_len hs
    rcases h3 with h3 | h3
    · omega
    · exact absurd h2 h3
theorem intSpec_none_dig {l : List UInt8} {k : Nat} (hk : k < l.length) (h : ¬ isDig (l.getD k 0)) : intSpec l = none := by
  cases hs : intSpec l with
  | none => rfl
  | some n =>
    obtain ⟨_, _, h3, _⟩ := intSpec_len hs
    refine absurd (h3 _ ?_) h
    simp [List.getD, hk]
theorem intSpec_val {l : List UInt8} (hne : l ≠ []) (hd : ∀ c ∈ l, isDig c) (hh : l.length = 1 ∨ l.headD 0 ≠ 48) : intSpec l = if val l ≤ 4294967295 then some (val l) else none := by
  obtain ⟨k, hk⟩ : ∃ k, l.length = k + 1 := ⟨l.length - 1, by have := List.length_pos_iff.2 hne; omega⟩
  have h1 := (dec_val k l hk hd hh).1
  unfold intSpec
  by_cases hv : val l ≤ 4294967295
  · rw [if_pos ⟨h1, hv⟩, if_pos hv]
  · rw [if_neg (fun e => hv e.2), if_neg hv]
theorem digitOf_isDig (c : UInt8) : (0 ≤ digitOf c ∧ digitOf c ≤ 9 → isDig c ∧ digitOf c = ((c.toNat - 48 : Nat) : Int)) ∧ (isDig c → 0 ≤ digitOf c ∧ digitOf c ≤ 9) := by
  constructor
  · intro ⟨h0, h9⟩
    rcases digitOf_range c with h | ⟨_, h16, hd⟩
    · omega
    · have h2 := dg_toNat (digitOf c).toNat (by omega)
      rw [hd] at h2
      unfold isDig
      omega
  · intro h
    unfold isDig at h
    have h1 : dg (c.toNat - 48) = c := by
      rw [dg_dec _ (by omega)]
      have e : 48 + (c.toNat - 48) = c.toNat := by omega
      rw [e]; simp
    have h2 := digitOf_dg (c.toNat - 48) (by omega)
    rw [h1] at h2
    omega
theorem val_lt : ∀ (n : Nat) (l : List UInt8), l.length = n → (∀ c ∈ l, isDig c) → val l < 10 ^ n := by
  intro n
  induction n with
  | zero => intro l h _; obtain rfl := List.eq_nil_of_length_eq_zero h; simp [val]
  | succ n ih =>
    intro l h hd
    obtain ⟨l', b, rfl⟩ : ∃ l' b, l = l' ++ [b] := ⟨l.dropLast, l.getLast (by intro e; subst e; simp at h), (List.dropLast_concat_getLast _).symm⟩
    have h1 := ih l' (by simpa using h) (fun c hc => hd c (by simp [hc]))
    have h2 := hd b (by simp)
    unfold isDig at h2
    rw [val_snoc, Nat.pow_succ]
    omega

theorem ba_at (l : List UInt8) (j : Nat) (hj : j < (⟨l.toArray⟩ : ByteArray).size) : (⟨l.toArray⟩ : ByteArray)[j] = l.getD j 0 := by
  have h2 : j < l.length := by simpa [ByteArray.size] using hj
  simp [List.getD, h2]
  rfl
theorem digit_at (l : List UInt8) (j : Nat) (_h : j < l.length) (D : Int) (hD : D = digitOf (l.getD j 0)) (w : World) (ht : Tab w) (hj : j < (⟨l.toArray⟩ : ByteArray).size) :
    Calls Tryd.prog 62 #[.int .u8 (((⟨l.toArray⟩ : ByteArray)[j].toNat : Nat) : Int)] w fun e w' => e = .returned (.int .i64 D) ∧ w = w' := by
  have h1 := digit_any (l.getD j 0) w ht
  rw [← hD] at h1
  rw [ba_at l j hj]
  exact h1
theorem val_lt10 {l : List UInt8} {j : Nat} (hl : l.length ≤ 10) (hd : ∀ c ∈ l.take j, isDig c) : val (l.take j) < 10000000000 := by
  have h1 := val_lt _ (l.take j) rfl hd
  have h2 : 10 ^ (l.take j).length ≤ 10 ^ 10 := Nat.pow_le_pow_right (by decide) (by simp; omega)
  have h3 : (10 : Nat) ^ 10 = 10000000000 := by decide
  omega
theorem val_take {l : List UInt8} {j : Nat} (h : j < l.length) (D : Int) (hD : D = (((l.getD j 0).toNat - 48 : Nat) : Int)) : ((val (l.take (j + 1)) : Nat) : Int) = (val (l.take j) : Nat) * 10 + D := by
  rw [take_snoc l j h, val_snoc, hD]
  omega
theorem digs_take {l : List UInt8} {j : Nat} (h : j < l.length) (hd : ∀ c ∈ l.take j, isDig c) (hg : isDig (l.getD j 0)) : ∀ c ∈ l.take (j + 1), isDig c := by
  rw [take_snoc l j h]
  intro c hc
  rcases List.mem_append.1 hc with h1 | h1
  · exact hd c h1
  · obtain rfl : c = l.getD j 0 := by simpa using h1
    exact hg

set_option maxHeartbeats 1600000 in
theorem Int_loop (l : List UInt8) (w : World) (hl : l.length ≤ 10) (hne : l ≠ []) (hh : l.length = 1 ∨ l.headD 0 ≠ 48) (hz : (((l.length : Int) == 0) = false)) (h10 : ¬ (10 : Int) < (l.length : Int)) (ht : Tab w) :
    Calls Tryd.prog 55 #[.string ⟨l.toArray⟩] w fun e w' => e = .returned (retInt (intSpec l)) ∧ w = w' := by
  have HT := Lib.hid ht; have HN := Lib.hid hne; have HH := Lib.hid hh
  clear ht hne hh
  by_cases h1 : l.length = 1
  · have h1n : ¬ (1 : Int) < (l.length : Int) := by omega
    clear h1
    go_enter Tryd.func55, Tryd.ntmps55
    go_wp2_with fail
    go_loop [4, 5, 6, 27] (fun n _ _ i => ∃ j : Nat, j ≤ l.length ∧ i = .int .i64 (j : Int) ∧ n = .int .i64 (val (l.take j) : Nat) ∧ Hid (∀ c ∈ l.take j, isDig c)) (fun _ _ _ i => l.length - (intOf i).toNat)
    case atStart => exact ⟨0, Nat.zero_le _, rfl, rfl, Lib.hid (by simp)⟩
    case round =>
      obtain ⟨j, hj, rfl, rfl, hd⟩ := hrel
      have hv := val_lt10 (by omega) hd.out
      by_cases hlt : j < l.length
      · obtain ⟨D, hD⟩ : ∃ D, D = digitOf (l.getD j 0) := ⟨_, rfl⟩
        have hQ := Lib.hid (digit_at l j hlt D hD w HT.out)
        by_cases hg : isDig (l.getD j 0)
        · obtain ⟨g1, g2⟩ := (digitOf_isDig (l.getD j 0)).2 hg
          have g3 := ((digitOf_isDig (l.getD j 0)).1 ⟨g1, g2⟩).2
          rw [← hD] at g1 g2 g3
          have gd : decide (D < 0) = false := by simp; omega
          have gn : ¬ D < 0 := by omega
          have g9 : ¬ 9 < D := by omega
          have hV := Lib.hid (val_take hlt D g3)
          have hA := Lib.hid (digs_take hlt hd.out hg)
          clear hD g3 hd
          go_wp2_with (refine (hQ.out _).mono ?_; rintro e w1 ⟨rfl, rfl⟩)
          go_round
          case rel => first | exact ⟨j + 1, by omega, by go_num, by rw [hV.out], hA⟩ | ((repeat apply Exists.intro); exact ⟨⟨j + 1, by omega, by go_num, by rw [hV.out], hA⟩, rfl⟩)
          case measure => simp [intOf]; omega
        · have hn := Lib.hid (intSpec_none_dig hlt hg)
          have g0 : D < 0 ∨ 9 < D := by
            rw [hD]
            rcases Classical.em (0 ≤ digitOf (l.getD j 0) ∧ digitOf (l.getD j 0) ≤ 9) with h1 | h1
            · exact absurd ((digitOf_isDig (l.getD j 0)).1 h1).1 hg
            · omega
          clear hD hd
          rcases g0 with g1 | g1
          · go_wp2_with (refine (hQ.out _).mono ?_; rintro e w1 ⟨rfl, rfl⟩)
            go_ret2
            exact ⟨by rw [hn.out]; rfl, rfl⟩
          · have gn : ¬ D < 0 := by omega
            go_wp2_with (refine (hQ.out _).mono ?_; rintro e w1 ⟨rfl, rfl⟩)
            go_ret2
            exact ⟨by rw [hn.out]; rfl, rfl⟩
      · obtain rfl : j = l.length := by omega
        have hA := hd.out
        rw [List.take_length] at hA hv
        have hI := Lib.hid (intSpec_val HN.out hA HH.out)
        clear hd hA
        by_cases hm : val l ≤ 4294967295
        · have hm1 : ¬ (4294967295 : Int) < (val l : Nat) := by omega
          go_wp2
          go_ret2
          exact ⟨by rw [hI.out, if_pos hm]; rfl, rfl⟩
        · have hm1 : (4294967295 : Int) < (val l : Nat) := by omega
          go_wp2
          go_ret2
          exact ⟨by rw [hI.out, if_neg hm]; rfl, rfl⟩
  · have h1n : (1 : Int) < (l.length : Int) := by
      have := List.length_pos_iff.2 HN.out
      omega
    have hp : 0 < l.length := by omega
    have hb : (0 : Nat) < (⟨l.toArray⟩ : ByteArray).size := by simpa [ByteArray.size] using hp
    have hx : ((((⟨l.toArray⟩ : ByteArray)[0].toNat : Nat) : Int) == 48) = false := by
      rw [ba_at l 0 hb]
      have h2 : l.headD 0 ≠ 48 := by
        rcases HH.out with h2 | h2
        · exact absurd h2 h1
        · exact h2
      have h3 : l.getD 0 0 = l.headD 0 := by cases l <;> rfl
      have h5 : (48 : UInt8).toNat = 48 := rfl
      simp only [beq_eq_false_iff_ne, ne_eq]
      intro h6
      exact h2 (h3 ▸ UInt8.toNat_inj.1 (by rw [h5]; omega))
    clear h1
    go_enter Tryd.func55, Tryd.ntmps55
    go_wp2_with fail
    go_loop [4, 5, 6, 27] (fun n _ _ i => ∃ j : Nat, j ≤ l.length ∧ i = .int .i64 (j : Int) ∧ n = .int .i64 (val (l.take j) : Nat) ∧ Hid (∀ c ∈ l.take j, isDig c)) (fun _ _ _ i => l.length - (intOf i).toNat)
    case atStart => exact ⟨0, Nat.zero_le _, rfl, rfl, Lib.hid (by simp)⟩
    case round =>
      obtain ⟨j, hj, rfl, rfl, hd⟩ := hrel
      have hv := val_lt10 (by omega) hd.out
      by_cases hlt : j < l.length
      · obtain ⟨D, hD⟩ : ∃ D, D = digitOf (l.getD j 0) := ⟨_, rfl⟩
        have hQ := Lib.hid (digit_at l j hlt D hD w HT.out)
        by_cases hg : isDig (l.getD j 0)
        · obtain ⟨g1, g2⟩ := (digitOf_isDig (l.getD j 0)).2 hg
          have g3 := ((digitOf_isDig (l.getD j 0)).1 ⟨g1, g2⟩).2
          rw [← hD] at g1 g2 g3
          have gd : decide (D < 0) = false := by simp; omega
          have gn : ¬ D < 0 := by omega
          have g9 : ¬ 9 < D := by omega
          have hV := Lib.hid (val_take hlt D g3)
          have hA := Lib.hid (digs_take hlt hd.out hg)
          clear hD g3 hd
          go_wp2_with (refine (hQ.out _).mono ?_; rintro e w1 ⟨rfl, rfl⟩)
          go_round
          case rel => first | exact ⟨j + 1, by omega, by go_num, by rw [hV.out], hA⟩ | ((repeat apply Exists.intro); exact ⟨⟨j + 1, by omega, by go_num, by rw [hV.out], hA⟩, rfl⟩)
          case measure => simp [intOf]; omega
        · have hn := Lib.hid (intSpec_none_dig hlt hg)
          have g0 : D < 0 ∨ 9 < D := by
            rw [hD]
            rcases Classical.em (0 ≤ digitOf (l.getD j 0) ∧ digitOf (l.getD j 0) ≤ 9) with h1 | h1
            · exact absurd ((digitOf_isDig (l.getD j 0)).1 h1).1 hg
            · omega
          clear hD hd
          rcases g0 with g1 | g1
          · go_wp2_with (refine (hQ.out _).mono ?_; rintro e w1 ⟨rfl, rfl⟩)
            go_ret2
            exact ⟨by rw [hn.out]; rfl, rfl⟩
          · have gn : ¬ D < 0 := by omega
            go_wp2_with (refine (hQ.out _).mono ?_; rintro e w1 ⟨rfl, rfl⟩)
            go_ret2
            exact ⟨by rw [hn.out]; rfl, rfl⟩
      · obtain rfl : j = l.length := by omega
        have hA := hd.out
        rw [List.take_length] at hA hv
        have hI := Lib.hid (intSpec_val HN.out hA HH.out)
        clear hd hA
        by_cases hm : val l ≤ 4294967295
        · have hm1 : ¬ (4294967295 : Int) < (val l : Nat) := by omega
          go_wp2
          go_ret2
          exact ⟨by rw [hI.out, if_pos hm]; rfl, rfl⟩
        · have hm1 : (4294967295 : Int) < (val l : Nat) := by omega
          go_wp2
          go_ret2
          exact ⟨by rw [hI.out, if_neg hm]; rfl, rfl⟩

theorem Int_any (l : List UInt8) (w : World) (hm : l.length ≤ maxLen) (ht : Tab w) :
    Calls Tryd.prog 55 #[.string ⟨l.toArray⟩] w fun e w' => e = .returned (retInt (intSpec l)) ∧ w = w' := by
  unfold maxLen at hm
  by_cases hne : l = []
  · subst hne
    have hn := Lib.hid (intSpec_none_len (l := []) (.inl rfl))
    clear ht
    go_enter Tryd.func55, Tryd.ntmps55
    go_wp2_with fail
    go_ret2
    exact ⟨by rw [hn.out]; rfl, rfl⟩
  · have hp := List.length_pos_iff.2 hne
    have hz : (((l.length : Int) == 0) = false) := by simp; omega
    by_cases h10 : 10 < l.length
    · have hn := Lib.hid (intSpec_none_len (l := l) (.inr h10))
      have h11 : (10 : Int) < (l.length : Int) := by omega
      clear ht hne
      go_enter Tryd.func55, Tryd.ntmps55
      go_wp2_with fail
      go_ret2
      exact ⟨by rw [hn.out]; rfl, rfl⟩
    · by_cases hh : l.length = 1 ∨ l.headD 0 ≠ 48
      · exact Int_loop l w (by omega) hne hh hz (by omega) ht
      · have h1 : (1 : Int) < (l.length : Int) := by omega
        have h2 : l.headD 0 = 48 := Classical.byContradiction fun e => hh (.inr e)
        have hn := Lib.hid (intSpec_none_zero (l := l) (by omega) h2)
        have h11 : ¬ (10 : Int) < (l.length : Int) := by omega
        have H2 := Lib.hid h2
        clear ht hne hh h2
        go_enter Tryd.func55, Tryd.ntmps55
        go_wp2_with fail
        · go_ret2
          exact ⟨by rw [hn.out]; rfl, rfl⟩
        · have hb : (0 : Nat) < (⟨l.toArray⟩ : ByteArray).size := by simpa [ByteArray.size] using hp
          have hx : ((((⟨l.toArray⟩ : ByteArray)[0].toNat : Nat) : Int) == 48) = false := by assumption
          rw [ba_at l 0 hb] at hx
          exfalso
          have h4 : l.getD 0 0 = 48 := by
            have := H2.out
            cases l with
            | nil => simp at hp
            | cons a r => simpa using this
          rw [h4] at hx
          simp at hx
end Go.Proofs.YtpimnbalffaliaaDoor

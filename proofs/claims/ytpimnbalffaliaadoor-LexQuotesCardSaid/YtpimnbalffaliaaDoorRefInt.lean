/-
  Which number digits say, as the document reads them.
-/
import Derived.Test.YtpimnbalffaliaaDoorInt
namespace Go.Proofs.YtpimnbalffaliaaDoor
open Go.RowKit

def refVal (l : List UInt8) : Int := l.foldl (fun a c => 10 * a + (c.toNat : Int) - 48) 0
theorem byte_lt' (b : UInt8) : (b.toNat : Int) < 256 := by have := b.toNat_lt; omega
theorem refVal_snoc (l : List UInt8) (c : UInt8) : refVal (l ++ [c]) = 10 * refVal l + (c.toNat : Int) - 48 := by simp [refVal]
theorem refVal_take {l : List UInt8} {j : Nat} (h : j < l.length) : refVal (l.take (j + 1)) = 10 * refVal (l.take j) + ((l.getD j 0).toNat : Int) - 48 := by
  rw [take_snoc l j h, refVal_snoc]
theorem refVal_bound : ∀ (n : Nat) (l : List UInt8), l.length = n → -(23 * (10 ^ n - 1) : Int) ≤ refVal l ∧ refVal l ≤ 23 * (10 ^ n - 1) := by
  intro n
  induction n with
  | zero => intro l h; obtain rfl := List.eq_nil_of_length_eq_zero h; simp [refVal]
  | succ n ih =>
    intro l h
    obtain ⟨l', b, rfl⟩ : ∃ l' b, l = l' ++ [b] := ⟨l.dropLast, l.getLast (by intro e; subst e; simp at h), (List.dropLast_concat_getLast _).symm⟩
    have h1 := ih l' (by simpa using h)
    have h2 := b.toNat_lt
    rw [refVal_snoc, Int.pow_succ]
    omega
theorem refVal_small {l : List UInt8} (h : l.length ≤ 12) : -23000000000000 ≤ refVal l ∧ refVal l ≤ 23000000000000 := by
  have h1 := refVal_bound _ l rfl
  have h2 : 10 ^ l.length ≤ 10 ^ 12 := Nat.pow_le_pow_right (by decide) h
  have h3 : (10 : Nat) ^ 12 = 1000000000000 := by decide
  have h4 : ((10 : Int) ^ l.length) = ((10 ^ l.length : Nat) : Int) := by simp
  rw [h4] at h1
  omega
theorem refVal_digs : ∀ (n : Nat) (l : List UInt8), l.length = n → (∀ c ∈ l, isDig c) → refVal l = (val l : Nat) := by
  intro n
  induction n with
  | zero => intro l h _; obtain rfl := List.eq_nil_of_length_eq_zero h; rfl
  | succ n ih =>
    intro l h hd
    obtain ⟨l', b, rfl⟩ : ∃ l' b, l = l' ++ [b] := ⟨l.dropLast, l.getLast (by intro e; subst e; simp at h), (List.dropLast_concat_getLast _).symm⟩
    have h1 := ih l' (by simpa using h) (fun c hc => hd c (by simp [hc]))
    have h2 := hd b (by simp)
    unfold isDig at h2
    rw [refVal_snoc, val_snoc, h1]
    omega
theorem refVal_of {l : List UInt8} {n : Nat} (h : intSpec l = some n) : refVal (l.take 12) = n := by
  obtain ⟨h1, h2, h3, _⟩ := intSpec_len h
  obtain ⟨h4, _⟩ := intSpec_some h
  rw [List.take_of_length_le (by omega), refVal_digs _ l rfl h3, ← h4, val_dec]
theorem refInt_none_range {l : List UInt8} (h : refVal (l.take 12) < 0 ∨ 4294967295 < refVal (l.take 12)) : intSpec l = none := by
  cases hs : intSpec l with
  | none => rfl
  | some n =>
    have h1 := refVal_of hs
    have h2 := (intSpec_some hs).2
    omega
theorem refInt_is {l : List UInt8} {V : Nat} (hV : refVal (l.take 12) = V) (h : V ≤ 4294967295) : intSpec l = if dec V = l then some V else none := by
  by_cases hd : dec V = l
  · rw [if_pos hd, intSpec_of hd h]
  · rw [if_neg hd]
    cases hs : intSpec l with
    | none => rfl
    | some n =>
      have h1 := refVal_of hs
      obtain rfl : V = n := by omega
      exact absurd (intSpec_some hs).1 hd

theorem ref_step {V : Int} (h0 : -23000000000000 ≤ V) (h1 : V ≤ 23000000000000) (c : UInt8) : wrap64 (wrap64 (10 * V + wrap64 (c.toNat : Int)) - 48) = 10 * V + (c.toNat : Int) - 48 := by
  have hc := c.toNat_lt
  rw [IntWalk.wrap64_in (c.toNat : Int) ⟨by omega, by omega⟩, IntWalk.wrap64_in (10 * V + (c.toNat : Int)) ⟨by omega, by omega⟩, IntWalk.wrap64_in _ ⟨by omega, by omega⟩]
theorem refTake12 {l : List UInt8} {j : Nat} (h1 : j ≤ l.length) (h2 : j ≤ 12) (h : ¬ (j < l.length ∧ j < 12)) : refVal (l.take j) = refVal (l.take 12) := by
  rcases (show j = 12 ∨ (j = l.length ∧ l.length ≤ 12) by omega) with rfl | ⟨rfl, h3⟩
  · rfl
  · rw [List.take_length, List.take_of_length_le h3]

set_option maxHeartbeats 1600000 in
theorem refInt_any (l : List UInt8) (w : World) (hm : l.length ≤ maxLen) :
    Calls Tryd.prog 24 #[.string ⟨l.toArray⟩] w fun e w' => e = .returned (retInt (intSpec l)) ∧ w = w' := by
  unfold maxLen at hm
  go_enter Tryd.func24, Tryd.ntmps24
  go_wp2_with fail
  go_loop [4, 5] (fun n i => ∃ j : Nat, j ≤ l.length ∧ j ≤ 12 ∧ i = .int .i64 (j : Int) ∧ n = .int .i64 (refVal (l.take j))) (fun _ i => 12 - (intOf i).toNat)
  case atStart => exact ⟨0, Nat.zero_le _, by omega, rfl, rfl⟩
  case round =>
    obtain ⟨j, hj, hj2, rfl, rfl⟩ := hrel
    have hb := refVal_small (l := l.take j) (by simp; omega)
    by_cases hlt : j < l.length ∧ j < 12
    · have hx1 : j < (⟨l.toArray⟩ : ByteArray).size := by simpa [ByteArray.size] using hlt.1
      have hv := Lib.hid (refVal_take hlt.1)
      have hlt1 := hlt.1
      have hlt2 := hlt.2
      clear hlt
      have hst := Lib.hid (ref_step hb.1 hb.2 (l.getD j 0))
      go_wp2
      go_round
      case rel => exact ⟨j + 1, by omega, by omega, by go_num, by rw [hv.out, ba_at l j hx1, hst.out]⟩
      case measure => simp [intOf]; omega
    · have he := Lib.hid (refTake12 hj hj2 hlt)
      have ex : ¬ j < l.length ∨ (j < l.length ∧ ¬ j < 12) := by omega
      obtain ⟨V, hV⟩ : ∃ V, V = refVal (l.take j) := ⟨_, rfl⟩
      rw [← hV] at hb ⊢
      have HV := Lib.hid (hV.trans he.out)
      clear hV he hlt
      rcases (show V < 0 ∨ (0 ≤ V ∧ 4294967295 < V) ∨ (0 ≤ V ∧ V ≤ 4294967295) by omega) with h1 | h1 | h1
      · have hn := Lib.hid (refInt_none_range (l := l) (.inl (by rw [← HV.out]; exact h1)))
        have hd : decide (V < 0) = true := by simpa using h1
        rcases ex with ex | ex
        all_goals go_wp2_with fail
        all_goals go_ret2
        all_goals exact ⟨by rw [hn.out]; rfl, rfl⟩
      · obtain ⟨h0, h1⟩ := h1
        have hn := Lib.hid (refInt_none_range (l := l) (.inr (by rw [← HV.out]; exact h1)))
        have hd : decide (V < 0) = false := by simpa using h0
        rcases ex with ex | ex
        all_goals go_wp2_with fail
        all_goals go_ret2
        all_goals exact ⟨by rw [hn.out]; rfl, rfl⟩
      · obtain ⟨h0, h1⟩ := h1
        obtain ⟨N, rfl⟩ := Int.eq_ofNat_of_zero_le h0
        have hi := refInt_is HV.out.symm (by omega)
        have hT := refText_any (N : Int) w (by omega) (by omega)
        rw [textL_pos] at hT
        have HT := Lib.hid hT
        have h2 : ¬ (4294967295 : Int) < (N : Int) := by omega
        clear hT h0 h1
        by_cases hdl : dec N = l
        · rw [if_pos hdl] at hi
          have HI := Lib.hid hi
          subst hdl
          clear hi
          rcases ex with ex | ex
          all_goals go_wp2_with fail
          all_goals (refine HT.out.mono ?_; rintro e w1 ⟨rfl, rfl⟩)
          all_goals go_wp2_with fail
          all_goals go_ret2
          all_goals exact ⟨by rw [HI.out]; rfl, rfl⟩
        · rw [if_neg hdl] at hi
          have HI := Lib.hid hi
          have hq : (dec N == l) = false := by simpa using hdl
          clear hi hdl
          rcases ex with ex | ex
          all_goals go_wp2_with fail
          all_goals (refine HT.out.mono ?_; rintro e w1 ⟨rfl, rfl⟩)
          all_goals go_wp2_with fail
          all_goals go_ret2
          all_goals exact ⟨by rw [HI.out]; rfl, rfl⟩
end Go.Proofs.YtpimnbalffaliaaDoor

/-
  A prefix's text is read again: on lists of bytes, no program stands here.
-/
import Derived.Test.YtcjeifpdikojlaaDoorParse
import Derived.Test.YtcjeifpdikojlaaDoorPText
namespace Go.Proofs.YtcjeifpdikojlaaDoor

theorem cutL_app (p r : List UInt8) (c : UInt8) (h : ∀ x ∈ p, x ≠ c) : cutL (p ++ c :: r) c = (p, r) := by
  unfold cutL
  rw [List.takeWhile_append_of_pos (by intro x hx; simpa using h x hx), List.dropWhile_append_of_pos (by intro x hx; simpa using h x hx)]
  simp
theorem dec_no (n : Nat) {c : UInt8} (hc : c.toNat < 48) : ∀ x ∈ dec n, x ≠ c := by
  intro x hx e
  subst e
  have := (dec_digs n x hx).1
  omega
theorem part8_dec {n : Nat} (h : n ≤ 255) : part8 (dec n) = some n := by
  unfold part8
  rw [intSpec_of rfl (by omega)]
  simp [h]
theorem addrL_flat (a : Nat) : addrL a = dec (a / 16777216) ++ 46 :: (dec (a / 65536 % 256) ++ 46 :: (dec (a / 256 % 256) ++ 46 :: dec (a % 256))) := by
  simp [addrL, addrP]
theorem addrOf_addrL {a : Nat} (ha : a < 4294967296) : addrOf (addrL a) = some a := by
  have h0 : a / 16777216 ≤ 255 := by omega
  have h1 : a / 65536 % 256 ≤ 255 := by omega
  have h2 : a / 256 % 256 ≤ 255 := by omega
  have h3 : a % 256 ≤ 255 := by omega
  have hc : (46 : UInt8).toNat < 48 := by decide
  rw [addrL_flat]
  unfold addrOf
  simp only [pa, cutL_app _ _ _ (dec_no _ hc), part8_dec h0, part8_dec h1, part8_dec h2, part8_dec h3, Option.map_some]
  congr 1
  omega
theorem addrL_no (a : Nat) : ∀ x ∈ addrL a, x ≠ 47 := by
  have hc : (47 : UInt8).toNat < 48 := by decide
  intro x hx
  rw [addrL_flat] at hx
  simp only [List.mem_append, List.mem_cons] at hx
  rcases hx with h | rfl | h | rfl | h | rfl | h
  · exact dec_no _ hc x h
  · decide
  · exact dec_no _ hc x h
  · decide
  · exact dec_no _ hc x h
  · decide
  · exact dec_no _ hc x h
theorem parseP_none {l : List UInt8} (h : addrOf (cutL l 47).1 = none) : parseP l = none := by
  unfold parseP
  rw [h]
theorem part8_nil : part8 [] = none := by
  unfold part8
  rw [intSpec_none_len (.inl rfl)]
theorem parseP_textP (a : Nat) (n : Int) (ha : a < 4294967296) : parseP (textP (a : Int) n) = if okP (a : Int) n then some (a, n.toNat) else none := by
  cases hok : okP (a : Int) n with
  | false =>
    have e : textP (a : Int) n = [] := by unfold textP; rw [hok]; rfl
    rw [e]
    refine parseP_none ?_
    have e2 : cutL [] 47 = ([], []) := rfl
    rw [e2]
    have e3 : cutL [] 46 = ([], []) := rfl
    unfold addrOf
    simp only [pa, e3, part8_nil]
  | true =>
    have hr := okP_range hok
    obtain ⟨k, rfl⟩ := Int.eq_ofNat_of_zero_le hr.1
    have e : textP (a : Int) (k : Int) = addrL a ++ 47 :: dec k := by unfold textP; rw [hok]; simp
    rw [e]
    unfold parseP
    rw [cutL_app _ _ _ (addrL_no a)]
    simp only [addrOf_addrL ha, intSpec_of (rfl : dec k = dec k) (by omega), hok, if_true]
    rfl
theorem textP_len {a : Nat} {n : Int} (ha : a < 4294967296) : (textP (a : Int) n).length ≤ 20 := by
  unfold textP
  split
  · rename_i h
    have h1 := addrP_len ha 3
    have hr := okP_range h
    have h2 := dec_len 1 n.toNat (by omega)
    have e : ((a : Int)).toNat = a := rfl
    rw [e]
    simp only [List.length_append, List.length_cons, List.length_nil]
    unfold addrL
    omega
  · simp
end Go.Proofs.YtcjeifpdikojlaaDoor

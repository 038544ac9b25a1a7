/-
  The queue's Put, of any bytes.
-/
import Derived.Test.YtgbialnnfadlgaaPut22
namespace Go.Proofs.Ytgbialnnfadlgaa
set_option linter.unusedVariables false
set_option linter.unusedSimpArgs false
open Go.RowKit

set_option maxHeartbeats 1600000 in
theorem pass22_allA (g : Nat) (M : Int) (v : Value) (R : List UInt8) (A : Option Addr) (c : Nat) (l : List UInt8) (w : World) (h : Que w g M v R true) (hy : Bytes w A l) (he : eolN l = -1) :
    Calls Try.prog 23 #[.pointer (some ⟨g, 0, none⟩), .slice A l.length c] w fun e w' => e = .returned (.int .i64 (l.length : Int)) ∧ w' = w := by
  have Q := Lib.hid (IndexByte22_all A c l w hy)
  rw [he] at Q
  obtain ⟨c0, c1, c2⟩ := cells3 h.1
  clear h hy he
  go_enter Try.func23, Try.ntmps23
  go_wp2_with fail
  refine (Q.out).mono ?_
  rintro e w1 ⟨rfl, rfl⟩
  go_wp2_with fail
  go_ret
  exact ⟨rfl, rfl⟩
set_option maxHeartbeats 1600000 in
theorem pass22_someA (g : Nat) (M : Int) (v : Value) (R : List UInt8) (A : Option Addr) (c : Nat) (l : List UInt8) (w : World) (h : Que w g M v R true) (hy : Bytes w A l) (k : Nat) (he : eolN l = (k : Int)) (hl : l.length ≤ 1000000) :
    Calls Try.prog 23 #[.pointer (some ⟨g, 0, none⟩), .slice A l.length c] w fun e w' => e = .returned (.int .i64 ((k + 1 : Nat) : Int)) ∧ w' = w.setCell ⟨g, 2, none⟩ (.bool false) := by
  have Q := Lib.hid (IndexByte22_all A c l w hy)
  have hlt := eolN_lt l
  rw [he] at Q hlt
  have hk0 : ¬ (k : Int) < 0 := by omega
  have hkb : (k : Int) ≤ 1000000 := by omega
  obtain ⟨c0, c1, c2⟩ := cells3 h.1
  obtain ⟨f0, f1, f2⟩ := free3 h.1
  clear h hy he hlt hl
  go_enter Try.func23, Try.ntmps23
  go_wp2_with fail
  refine (Q.out).mono ?_
  rintro e w1 ⟨rfl, rfl⟩
  go_wp2_with fail
  go_ret
  exact ⟨by simp, rfl⟩
theorem Put22_all (g : Nat) (M : Int) (v : Value) (R : List UInt8) (s : Bool) (A : Option Addr) (c k : Nat) (m : List UInt8) (w : World) (h : Que w g M v R s) (hm : Bytes w A m) (hc : m.length ≤ c) (hcm : c ≤ maxLen) (hmin : min (m.length : Int) (M - (R.length : Int)) = (k : Int)) :
    Calls Try.prog 11 #[.pointer (some ⟨g, 0, none⟩), .slice A m.length c] w fun e w' => e = .returned (.int .i64 (k : Int)) ∧ ∃ v', Que w' g M v' (R ++ (m.take k).drop (passN s (m.take k))) (passS s (m.take k)) ∧ Keep w w' g v v' := by
  have hkm : k ≤ m.length := by omega
  have hM := h.2.2
  have hlt : (m.take k).length = k := by rw [List.length_take]; omega
  refine Put_core g M v R s _ A c k _ m w h hm hc hcm hmin (by have := passN_le s (m.take k); omega) fun w0 hb => ?_
  have h' := h.below hb
  have hy := (bytes_take k hm).below hb
  unfold passN passS
  cases s with
  | false =>
    refine (pass22_no g M v (.slice A k c) R w0 h').mono ?_
    rintro e w1 ⟨rfl, rfl⟩
    exact ⟨by simp, by simpa using h', Keep.refl _ _ _, fun _ _ h => h⟩
  | true =>
    by_cases he : eolN (m.take k) = -1
    · have := pass22_allA g M v R A c (m.take k) w0 h' hy he
      rw [hlt] at this
      refine this.mono ?_
      rintro e w1 ⟨rfl, rfl⟩
      exact ⟨by simp [he, hlt], by simpa [he] using h', Keep.refl _ _ _, fun _ _ h => h⟩
    · have h2 := eolN_ge (m.take k)
      obtain ⟨i, hi⟩ : ∃ i : Nat, eolN (m.take k) = (i : Int) := ⟨(eolN (m.take k)).toNat, by omega⟩
      have := pass22_someA g M v R A c (m.take k) w0 h' hy i hi (by rw [hlt]; omega)
      rw [hlt] at this
      refine this.mono ?_
      rintro e w1 ⟨rfl, rfl⟩
      refine ⟨by simp [hi], ?_, (Keep.refl _ _ _).set 2 _ _ (.inl rfl), fun _ _ h => bytes_flag h' false h⟩
      rw [if_neg (by simp), if_neg he]
      exact ⟨h'.1.set 2 (.bool false), h'.2.1.beside (grown_setCell (grown_refl _ _) _ _) (Nat.lt_succ_self _), h'.2.2⟩
end Go.Proofs.Ytgbialnnfadlgaa

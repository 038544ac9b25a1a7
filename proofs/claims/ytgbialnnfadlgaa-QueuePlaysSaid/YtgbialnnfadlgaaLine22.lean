/-
  The queue's Line.
-/
import Derived.Test.YtgbialnnfadlgaaTake22
import Derived.Test.YtgbialnnfadlgaaIdx22
namespace Go.Proofs.Ytgbialnnfadlgaa
set_option linter.unusedVariables false
set_option linter.unusedSimpArgs false
open Go.RowKit

theorem Tl.form' {w : World} {B : Nat} {v : Value} {l : List UInt8} (h : Tl w B v l) : ∃ A c, v = .slice A l.length c ∧ Bytes w A l ∧ ((A = none ∧ l = [] ∧ c = 0) ∨ ∃ b o, A = some ⟨b, o, none⟩) := by
  rcases h with ⟨rfl, rfl⟩ | ⟨g, off, c, rfl, hB, hg, h1, h2, hty, hs, hc⟩
  · exact ⟨none, 0, rfl, Bytes.nil _ _, .inl ⟨rfl, rfl, rfl⟩⟩
  · exact ⟨_, c, rfl, fun _ => ⟨g, off, rfl, hg, hc⟩, .inr ⟨g, off, rfl⟩⟩
theorem eolN_ge (l : List UInt8) : -1 ≤ eolN l := Lib.indexByte_ge l 10
theorem eolN_lt : ∀ l : List UInt8, eolN l < (l.length : Int)
  | [] => by unfold eolN Lib.indexByte; simp
  | b :: l => by
    have h := eolN_lt l
    have h2 := eolN_ge l
    unfold eolN at h h2 ⊢
    unfold Lib.indexByte
    split
    · simp <;> omega
    · split
      · simp <;> omega
      · simp <;> omega
theorem takeN_nat {R : List UInt8} {k : Nat} (h : k ≤ R.length) : takeN (k : Int) R = k := by
  unfold takeN
  rw [if_neg (by omega), if_neg (by omega), Int.toNat_natCast]
set_option maxHeartbeats 1600000 in
theorem Line_far_neg (g : Nat) (M : Int) (v : Value) (R : List UInt8) (s : Bool) (m : Int) (w : World) (h : Que w g M v R s) (hm : m < 0) (k : Nat) (he : eolN R = (k : Int)) (hk : 0 < (k : Int)) :
    Calls Try.prog 16 #[.pointer (some ⟨g, 0, none⟩), .int .i64 m] w fun e w' => ∃ v', e = .returned (.tuple #[.slice none 0 0, .bool true, .bool true]) ∧ Que w' g M v' (R.drop (k + 1)) s ∧ Keep w w' g v v' := by
  have hlt := eolN_lt R
  rw [he] at hlt
  have T := Take22_any g M v R s ((k : Int) + 1) w h
  rw [show ((k : Int) + 1) = ((k + 1 : Nat) : Int) by omega, takeN_nat (by omega)] at T
  rw [show (((k + 1 : Nat) : Int)) = ((k : Int) + 1) by omega] at T
  have TT := Lib.hid T
  clear T
  obtain ⟨A, c, rfl, hy, hA⟩ := h.2.1.form'
  have Q := Lib.hid (IndexByte22_any A c R w hy hA)
  have hsm := h.small
  obtain ⟨c0, c1, c2⟩ := cells3 h.1
  obtain ⟨f0, f1, f2⟩ := free3 h.1
  rw [he] at Q
  have hw : wrap64 ((k : Int) + 1) = (k : Int) + 1 := by unfold wrap64; omega
  clear h hy he
  go_enter Try.func16, Try.ntmps16
  go_wp2_with fail
  refine (Q.out).mono ?_
  rintro e w1 ⟨rfl, rfl⟩
  go_wp2_with fail
  refine (TT.out).mono ?_
  rintro e w2 ⟨A1, n1, v', rfl, p1, p2, ho, hq, hkp, hob⟩
  have HQ := Lib.hid hq; have HK := Lib.hid hkp
  clear ho hq hkp hob p1 p2
  go_wp2_with fail
  go_ret3
  exact ⟨_, rfl, HQ.out, HK.out⟩
set_option maxHeartbeats 1600000 in
theorem Line_in_neg (g : Nat) (M : Int) (v : Value) (R : List UInt8) (s : Bool) (m : Int) (w : World) (h : Que w g M v R s) (hm : m < 0) (k : Nat) (he : eolN R = (k : Int)) (hk : ¬ 0 < (k : Int)) :
    Calls Try.prog 16 #[.pointer (some ⟨g, 0, none⟩), .int .i64 m] w fun e w' => ∃ A1 n1 v', e = .returned (.tuple #[.slice A1 (R.take k).length n1, .bool true, .bool false]) ∧ (R.take k).length ≤ n1 ∧ n1 ≤ maxLen ∧ Own w' w.heap.size 5 (.slice A1 (R.take k).length n1) (R.take k) ∧ Que w' g M v' (R.drop (k + 1)) s ∧ Keep w w' g v v' := by
  have hlt := eolN_lt R
  rw [he] at hlt
  have T := Take22_any g M v R s (k : Int) w h
  rw [takeN_nat (by omega)] at T
  have TT := Lib.hid T
  have T2 := Lib.hid (fun v' (W : World) (hq : Que W g M v' (R.drop k) s) => (show Calls Try.prog 14 #[.pointer (some ⟨g, 0, none⟩), .int .i64 1] W (TakePost W g M v' (R.drop k) s 1) by
    have := Take22_any g M v' (R.drop k) s ((1 : Nat) : Int) W hq
    rw [takeN_nat (by rw [List.length_drop]; omega)] at this
    exact this))
  have HH := Lib.hid h
  clear T
  obtain ⟨A, c, rfl, hy, hA⟩ := h.2.1.form'
  have Q := Lib.hid (IndexByte22_any A c R w hy hA)
  have hsm := h.small
  obtain ⟨c0, c1, c2⟩ := cells3 h.1
  obtain ⟨f0, f1, f2⟩ := free3 h.1
  rw [he] at Q
  have hk0 : ¬ (k : Int) < 0 := by omega
  have hk1 : 0 ≤ (k : Int) := by omega
  clear h hy he
  obtain ⟨L, hL⟩ : ∃ L, L = R.take k := ⟨_, rfl⟩
  unfold TakePost at TT
  rw [← hL] at TT ⊢
  clear hL
  go_enter Try.func16, Try.ntmps16
  go_wp2_with fail
  refine (Q.out).mono ?_
  rintro e w1 ⟨rfl, rfl⟩
  go_wp2_with fail
  refine (TT.out).mono ?_
  rintro e w2 ⟨A1, n1, v', rfl, p1, p2, ho, hq, hkp, hob⟩
  have HQ := Lib.hid hq; have HK := Lib.hid hkp; have HO := Lib.hid ho; have HP := Lib.hid (And.intro p1 p2); have HB := Lib.hid hob
  clear ho hq hkp hob p1 p2
  go_wp2_with fail
  refine (T2.out v' w2 HQ.out).mono ?_
  rintro e w3 ⟨A2, n2, v2, rfl, _, _, _, hq2, hkp2, hob2⟩
  have HQ2 := Lib.hid hq2; have HK2 := Lib.hid hkp2
  clear hq2 hkp2 hob2
  go_wp2_with fail
  go_ret3
  refine ⟨_, _, _, rfl, HP.out.1, HP.out.2, HO.out.keep HK2.out HH.out.lt (fun i hi => ?_), ?_, HK.out.trans HK2.out⟩
  · rw [HB.out] at hi
    exact (HH.out.2.1.lt hi).2
  · have := HQ2.out
    rw [List.drop_drop] at this
    first | exact this | (rw [Nat.add_comm] at this; exact this)
set_option maxHeartbeats 1600000 in
theorem Line_many_neg (g : Nat) (M : Int) (v : Value) (R : List UInt8) (s : Bool) (m : Int) (w : World) (h : Que w g M v R s) (hm : m < 0) (he : eolN R = -1) (hk : 0 < (R.length : Int)) :
    Calls Try.prog 16 #[.pointer (some ⟨g, 0, none⟩), .int .i64 m] w fun e w' => e = .returned (.tuple #[.slice none 0 0, .bool true, .bool true]) ∧ Que w' g M (.slice none 0 0) [] true ∧ Keep w w' g v (.slice none 0 0) := by
  have TT := Lib.hid (Clear22_any g M v R s w h)
  obtain ⟨A, c, rfl, hy, hA⟩ := h.2.1.form'
  have Q := Lib.hid (IndexByte22_any A c R w hy hA)
  have hsm := h.small
  obtain ⟨c0, c1, c2⟩ := cells3 h.1
  obtain ⟨f0, f1, f2⟩ := free3 h.1
  rw [he] at Q
  have hk0 : ¬ 0 < (-1 : Int) := by omega
  clear h hy he
  go_enter Try.func16, Try.ntmps16
  go_wp2_with fail
  refine (Q.out).mono ?_
  rintro e w1 ⟨rfl, rfl⟩
  go_wp2_with fail
  refine (TT.out).mono ?_
  rintro e w2 ⟨rfl, hq, hkp⟩
  obtain ⟨q0, q1, q2⟩ := cells3 hq.1
  obtain ⟨t0, t1, t2⟩ := free3 hq.1
  have HQ := Lib.hid hq; have HK := Lib.hid hkp
  clear hq hkp c0 c1 c2 f0 f1 f2
  go_wp2_with fail
  go_ret3
  exact ⟨rfl, ⟨HQ.out.1.set 2 (.bool true), Tl.nil _ _, HQ.out.2.2⟩, HK.out.set 2 _ _ (.inl rfl)⟩
set_option maxHeartbeats 1600000 in
theorem Line_none_neg (g : Nat) (M : Int) (v : Value) (R : List UInt8) (s : Bool) (m : Int) (w : World) (h : Que w g M v R s) (hm : m < 0) (he : eolN R = -1) (hk : ¬ 0 < (R.length : Int)) :
    Calls Try.prog 16 #[.pointer (some ⟨g, 0, none⟩), .int .i64 m] w fun e w' => e = .returned (.tuple #[.slice none 0 0, .bool false, .bool false]) ∧ w' = w := by
  obtain ⟨A, c, rfl, hy, hA⟩ := h.2.1.form'
  have Q := Lib.hid (IndexByte22_any A c R w hy hA)
  have hsm := h.small
  obtain ⟨c0, c1, c2⟩ := cells3 h.1
  obtain ⟨f0, f1, f2⟩ := free3 h.1
  rw [he] at Q
  have hk0 : ¬ 0 < (-1 : Int) := by omega
  clear h hy he
  go_enter Try.func16, Try.ntmps16
  go_wp2_with fail
  refine (Q.out).mono ?_
  rintro e w1 ⟨rfl, rfl⟩
  go_wp2_with fail
  go_ret3
  exact ⟨rfl, rfl⟩
set_option maxHeartbeats 1600000 in
theorem Line_far_pos (g : Nat) (M : Int) (v : Value) (R : List UInt8) (s : Bool) (m : Int) (w : World) (h : Que w g M v R s) (hm : ¬ m < 0) (k : Nat) (he : eolN R = (k : Int)) (hk : m < (k : Int)) :
    Calls Try.prog 16 #[.pointer (some ⟨g, 0, none⟩), .int .i64 m] w fun e w' => ∃ v', e = .returned (.tuple #[.slice none 0 0, .bool true, .bool true]) ∧ Que w' g M v' (R.drop (k + 1)) s ∧ Keep w w' g v v' := by
  have hlt := eolN_lt R
  rw [he] at hlt
  have T := Take22_any g M v R s ((k : Int) + 1) w h
  rw [show ((k : Int) + 1) = ((k + 1 : Nat) : Int) by omega, takeN_nat (by omega)] at T
  rw [show (((k + 1 : Nat) : Int)) = ((k : Int) + 1) by omega] at T
  have TT := Lib.hid T
  clear T
  obtain ⟨A, c, rfl, hy, hA⟩ := h.2.1.form'
  have Q := Lib.hid (IndexByte22_any A c R w hy hA)
  have hsm := h.small
  obtain ⟨c0, c1, c2⟩ := cells3 h.1
  obtain ⟨f0, f1, f2⟩ := free3 h.1
  rw [he] at Q
  have hw : wrap64 ((k : Int) + 1) = (k : Int) + 1 := by unfold wrap64; omega
  clear h hy he
  go_enter Try.func16, Try.ntmps16
  go_wp2_with fail
  refine (Q.out).mono ?_
  rintro e w1 ⟨rfl, rfl⟩
  go_wp2_with fail
  refine (TT.out).mono ?_
  rintro e w2 ⟨A1, n1, v', rfl, p1, p2, ho, hq, hkp, hob⟩
  have HQ := Lib.hid hq; have HK := Lib.hid hkp
  clear ho hq hkp hob p1 p2
  go_wp2_with fail
  go_ret3
  exact ⟨_, rfl, HQ.out, HK.out⟩
set_option maxHeartbeats 1600000 in
theorem Line_in_pos (g : Nat) (M : Int) (v : Value) (R : List UInt8) (s : Bool) (m : Int) (w : World) (h : Que w g M v R s) (hm : ¬ m < 0) (k : Nat) (he : eolN R = (k : Int)) (hk : ¬ m < (k : Int)) :
    Calls Try.prog 16 #[.pointer (some ⟨g, 0, none⟩), .int .i64 m] w fun e w' => ∃ A1 n1 v', e = .returned (.tuple #[.slice A1 (R.take k).length n1, .bool true, .bool false]) ∧ (R.take k).length ≤ n1 ∧ n1 ≤ maxLen ∧ Own w' w.heap.size 5 (.slice A1 (R.take k).length n1) (R.take k) ∧ Que w' g M v' (R.drop (k + 1)) s ∧ Keep w w' g v v' := by
  have hlt := eolN_lt R
  rw [he] at hlt
  have T := Take22_any g M v R s (k : Int) w h
  rw [takeN_nat (by omega)] at T
  have TT := Lib.hid T
  have T2 := Lib.hid (fun v' (W : World) (hq : Que W g M v' (R.drop k) s) => (show Calls Try.prog 14 #[.pointer (some ⟨g, 0, none⟩), .int .i64 1] W (TakePost W g M v' (R.drop k) s 1) by
    have := Take22_any g M v' (R.drop k) s ((1 : Nat) : Int) W hq
    rw [takeN_nat (by rw [List.length_drop]; omega)] at this
    exact this))
  have HH := Lib.hid h
  clear T
  obtain ⟨A, c, rfl, hy, hA⟩ := h.2.1.form'
  have Q := Lib.hid (IndexByte22_any A c R w hy hA)
  have hsm := h.small
  obtain ⟨c0, c1, c2⟩ := cells3 h.1
  obtain ⟨f0, f1, f2⟩ := free3 h.1
  rw [he] at Q
  have hk0 : ¬ (k : Int) < 0 := by omega
  have hk1 : 0 ≤ (k : Int) := by omega
  clear h hy he
  obtain ⟨L, hL⟩ : ∃ L, L = R.take k := ⟨_, rfl⟩
  unfold TakePost at TT
  rw [← hL] at TT ⊢
  clear hL
  go_enter Try.func16, Try.ntmps16
  go_wp2_with fail
  refine (Q.out).mono ?_
  rintro e w1 ⟨rfl, rfl⟩
  go_wp2_with fail
  refine (TT.out).mono ?_
  rintro e w2 ⟨A1, n1, v', rfl, p1, p2, ho, hq, hkp, hob⟩
  have HQ := Lib.hid hq; have HK := Lib.hid hkp; have HO := Lib.hid ho; have HP := Lib.hid (And.intro p1 p2); have HB := Lib.hid hob
  clear ho hq hkp hob p1 p2
  go_wp2_with fail
  refine (T2.out v' w2 HQ.out).mono ?_
  rintro e w3 ⟨A2, n2, v2, rfl, _, _, _, hq2, hkp2, hob2⟩
  have HQ2 := Lib.hid hq2; have HK2 := Lib.hid hkp2
  clear hq2 hkp2 hob2
  go_wp2_with fail
  go_ret3
  refine ⟨_, _, _, rfl, HP.out.1, HP.out.2, HO.out.keep HK2.out HH.out.lt (fun i hi => ?_), ?_, HK.out.trans HK2.out⟩
  · rw [HB.out] at hi
    exact (HH.out.2.1.lt hi).2
  · have := HQ2.out
    rw [List.drop_drop] at this
    first | exact this | (rw [Nat.add_comm] at this; exact this)
set_option maxHeartbeats 1600000 in
theorem Line_many_pos (g : Nat) (M : Int) (v : Value) (R : List UInt8) (s : Bool) (m : Int) (w : World) (h : Que w g M v R s) (hm : ¬ m < 0) (he : eolN R = -1) (hk : m < (R.length : Int)) :
    Calls Try.prog 16 #[.pointer (some ⟨g, 0, none⟩), .int .i64 m] w fun e w' => e = .returned (.tuple #[.slice none 0 0, .bool true, .bool true]) ∧ Que w' g M (.slice none 0 0) [] true ∧ Keep w w' g v (.slice none 0 0) := by
  have TT := Lib.hid (Clear22_any g M v R s w h)
  obtain ⟨A, c, rfl, hy, hA⟩ := h.2.1.form'
  have Q := Lib.hid (IndexByte22_any A c R w hy hA)
  have hsm := h.small
  obtain ⟨c0, c1, c2⟩ := cells3 h.1
  obtain ⟨f0, f1, f2⟩ := free3 h.1
  rw [he] at Q
  have hk0 : ¬ m < (-1 : Int) := by omega
  clear h hy he
  go_enter Try.func16, Try.ntmps16
  go_wp2_with fail
  refine (Q.out).mono ?_
  rintro e w1 ⟨rfl, rfl⟩
  go_wp2_with fail
  refine (TT.out).mono ?_
  rintro e w2 ⟨rfl, hq, hkp⟩
  obtain ⟨q0, q1, q2⟩ := cells3 hq.1
  obtain ⟨t0, t1, t2⟩ := free3 hq.1
  have HQ := Lib.hid hq; have HK := Lib.hid hkp
  clear hq hkp c0 c1 c2 f0 f1 f2
  go_wp2_with fail
  go_ret3
  exact ⟨rfl, ⟨HQ.out.1.set 2 (.bool true), Tl.nil _ _, HQ.out.2.2⟩, HK.out.set 2 _ _ (.inl rfl)⟩
set_option maxHeartbeats 1600000 in
theorem Line_none_pos (g : Nat) (M : Int) (v : Value) (R : List UInt8) (s : Bool) (m : Int) (w : World) (h : Que w g M v R s) (hm : ¬ m < 0) (he : eolN R = -1) (hk : ¬ m < (R.length : Int)) :
    Calls Try.prog 16 #[.pointer (some ⟨g, 0, none⟩), .int .i64 m] w fun e w' => e = .returned (.tuple #[.slice none 0 0, .bool false, .bool false]) ∧ w' = w := by
  obtain ⟨A, c, rfl, hy, hA⟩ := h.2.1.form'
  have Q := Lib.hid (IndexByte22_any A c R w hy hA)
  have hsm := h.small
  obtain ⟨c0, c1, c2⟩ := cells3 h.1
  obtain ⟨f0, f1, f2⟩ := free3 h.1
  rw [he] at Q
  have hk0 : ¬ m < (-1 : Int) := by omega
  clear h hy he
  go_enter Try.func16, Try.ntmps16
  go_wp2_with fail
  refine (Q.out).mono ?_
  rintro e w1 ⟨rfl, rfl⟩
  go_wp2_with fail
  go_ret3
  exact ⟨rfl, rfl⟩
end Go.Proofs.Ytgbialnnfadlgaa

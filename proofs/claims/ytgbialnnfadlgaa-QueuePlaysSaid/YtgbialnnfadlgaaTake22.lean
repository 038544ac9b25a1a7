/-
  The queue's Take.
-/
import Derived.Test.YtgbialnnfadlgaaQue22
namespace Go.Proofs.Ytgbialnnfadlgaa
set_option linter.unusedVariables false
set_option linter.unusedSimpArgs false
open Go.RowKit

/-- What Take leaves that takes k bytes. -/
def TakePost (w : World) (g : Nat) (M : Int) (v : Value) (R : List UInt8) (s : Bool) (k : Nat) (e : Ending) (w' : World) : Prop :=
  ∃ A1 c1 v', e = .returned (.slice A1 (R.take k).length c1) ∧ (R.take k).length ≤ c1 ∧ c1 ≤ maxLen ∧ Own w' w.heap.size 5 (.slice A1 (R.take k).length c1) (R.take k) ∧ Que w' g M v' (R.drop k) s ∧ Keep w w' g v v' ∧ v'.ownBlock = v.ownBlock
theorem take_ok {w W : World} {g : Nat} {M : Int} {A A' A1 : Option Addr} {R : List UInt8} {s : Bool} {c c' n' k c1 : Nat} (hs : Que W g M (.slice A R.length c) R s) (hb : Below w.heap.size w W) (hg : g < w.heap.size)
    (ht : Tl (W.setCell ⟨g, 1, none⟩ (.slice A' n' c')) (g + 1) (.slice A R.length c) R → Tl (W.setCell ⟨g, 1, none⟩ (.slice A' n' c')) (g + 1) (.slice A' n' c') (R.drop k)) (p1 : (R.take k).length ≤ c1) (p2 : c1 ≤ maxLen)
    (ho : Own W w.heap.size 5 (.slice A1 (R.take k).length c1) (R.take k)) (hA : (Value.slice A' n' c').ownBlock = (Value.slice A R.length c).ownBlock) :
    TakePost w g M (.slice A R.length c) R s k (.returned (.slice A1 (R.take k).length c1)) (W.setCell ⟨g, 1, none⟩ (.slice A' n' c')) := by
  refine ⟨A1, c1, _, rfl, p1, p2, ho.beside (grown_setCell (grown_refl _ _) _ _) hg, ⟨hs.1.set 1 (.slice A' n' c'), ht (hs.2.1.beside (grown_setCell (grown_refl _ _) _ _) (Nat.lt_succ_self _)), ?_, hs.2.2.2⟩, (Keep.of_below hb).set 1 _ _ (.inl hA), hA⟩
  have := hs.2.2.1
  rw [List.length_drop]
  omega
/-- How many bytes Take takes. -/
def takeN (n : Int) (R : List UInt8) : Nat := if n < 0 then 0 else if (R.length : Int) < n then R.length else n.toNat
theorem take_arg {A : Option Addr} {c k : Nat} {R : List UInt8} {w : World} (h : Bytes w A R) (hk : k ≤ R.length) (hl : R.length ≤ 1000000) :
    Calls Try.prog 25 #[.slice A k c] w (RetBytes w (R.take k)) := by
  have hy : Bytes w A (R.take k) := fun hne => by
    obtain ⟨b, off, rfl, hlt, hc⟩ := h (fun e => hne (by rw [e]; simp))
    exact ⟨b, off, rfl, hlt, fun j hj => by
      rw [List.length_take] at hj
      rw [hc j (by omega)]
      simp [List.getD, List.getElem?_take, show j < k by omega]⟩
  have := Copied22_any A c (R.take k) w hy (by rw [List.length_take]; omega)
  rw [List.length_take, Nat.min_eq_left hk] at this
  exact this
set_option maxHeartbeats 1600000 in
theorem Take_in0 (g : Nat) (M : Int) (A : Option Addr) (c k : Nat) (R : List UInt8) (s : Bool) (w : World) (h : Que w g M (.slice A R.length c) R s) (hk : k ≤ R.length) (hkc : c = k) (hn0 : ¬ (k : Int) < 0) (hnl : ¬ (R.length : Int) < (k : Int)) :
    Calls Try.prog 14 #[.pointer (some ⟨g, 0, none⟩), .int .i64 (k : Int)] w (TakePost w g M (.slice A R.length c) R s k) := by
  have hsm := h.small
  have hnc : R.length ≤ c ∧ c ≤ maxLen ∧ Bytes w A R := by
    obtain ⟨A', c', e, f1, g1, hy⟩ := h.2.1.form
    injection e with e1 e2 e3
    subst e1; subst e3
    exact ⟨f1, g1, hy⟩
  obtain ⟨hnc, hcm, hy⟩ := hnc
  have Q := Lib.hid (take_arg (c := c) hy hk (by omega))
  have hkR : (k : Int) ≤ (R.length : Int) := by omega
  have hkC : (k : Int) ≤ (c : Int) := by omega
  have hRC : (R.length : Int) ≤ (c : Int) := by omega
  have hm1 : c ≤ 9223372036854775807 := by unfold maxLen at hcm; omega
  have hl0 : ¬ (R.length : Int) < 0 := by omega
  obtain ⟨c0, c1, c2⟩ := cells3 h.1
  have HS := Lib.hid h
  have HTD := Lib.hid (fun (w' : World) (h : Tl w' (g + 1) (.slice A R.length c) R) => h.drop hk)
  subst hkc
  have hrc : R.length - c = 0 := by omega
  have HTE := Lib.hid (fun (w' : World) (h : Tl w' (g + 1) (.slice A R.length c) R) => (show Tl w' (g + 1) (.slice A 0 0) (R.drop c) from by
    have h1 := HTD.out w' h
    first | rw [if_pos trivial] at h1 | rw [if_pos rfl] at h1
    rw [hrc, Nat.sub_self] at h1
    exact h1))
  clear hrc HTD h hy
  obtain ⟨L, hL⟩ : ∃ L, L = R.take c := ⟨_, rfl⟩
  rw [← hL] at Q
  have HL := Lib.hid hL
  clear hL
  go_enter Try.func14, Try.ntmps14
  go_wp2_with fail
  refine Q.out.mono ?_
  rintro e w1 ⟨A1, n1, rfl, p1, p2, ho, hb⟩
  have hs1 := HS.out.below hb
  obtain ⟨k0, k1, k2⟩ := cells3 hs1.1
  obtain ⟨kf0, kf1, kf2⟩ := free3 hs1.1
  have HS1 := Lib.hid hs1; have HB1 := Lib.hid hb; have HO1 := Lib.hid ho; have HP := Lib.hid (And.intro p1 p2)
  have HGL := Lib.hid HS.out.lt
  clear hs1 hb ho p1 p2 Q c0 c1 c2
  go_wp2_with fail
  go_ret
  have hL := HL.out
  subst hL
  exact take_ok HS1.out HB1.out HGL.out (HTE.out _) HP.out.1 HP.out.2 HO1.out (by cases A <;> rfl)
set_option maxHeartbeats 1600000 in
theorem Take_in1 (g : Nat) (M : Int) (A : Option Addr) (c k : Nat) (R : List UInt8) (s : Bool) (w : World) (h : Que w g M (.slice A R.length c) R s) (hk : k ≤ R.length) (hkc : ¬ c = k) (hn0 : ¬ (k : Int) < 0) (hnl : ¬ (R.length : Int) < (k : Int)) :
    Calls Try.prog 14 #[.pointer (some ⟨g, 0, none⟩), .int .i64 (k : Int)] w (TakePost w g M (.slice A R.length c) R s k) := by
  have hsm := h.small
  have hnc : R.length ≤ c ∧ c ≤ maxLen ∧ Bytes w A R := by
    obtain ⟨A', c', e, f1, g1, hy⟩ := h.2.1.form
    injection e with e1 e2 e3
    subst e1; subst e3
    exact ⟨f1, g1, hy⟩
  obtain ⟨hnc, hcm, hy⟩ := hnc
  have Q := Lib.hid (take_arg (c := c) hy hk (by omega))
  have hkR : (k : Int) ≤ (R.length : Int) := by omega
  have hkC : (k : Int) ≤ (c : Int) := by omega
  have hRC : (R.length : Int) ≤ (c : Int) := by omega
  have hm1 : c ≤ 9223372036854775807 := by unfold maxLen at hcm; omega
  have hl0 : ¬ (R.length : Int) < 0 := by omega
  obtain ⟨c0, c1, c2⟩ := cells3 h.1
  have HS := Lib.hid h
  have HTD := Lib.hid (fun (w' : World) (h : Tl w' (g + 1) (.slice A R.length c) R) => h.drop hk)
  have HTE := Lib.hid (fun (w' : World) (h : Tl w' (g + 1) (.slice A R.length c) R) => (show Tl w' (g + 1) (.slice (A.map (·.add k)) (R.length - k) (c - k)) (R.drop k) from by
    have h1 := HTD.out w' h
    rw [if_neg hkc] at h1
    exact h1))
  clear HTD h hy
  obtain ⟨L, hL⟩ : ∃ L, L = R.take k := ⟨_, rfl⟩
  rw [← hL] at Q
  have HL := Lib.hid hL
  clear hL
  go_enter Try.func14, Try.ntmps14
  go_wp2_with fail
  refine Q.out.mono ?_
  rintro e w1 ⟨A1, n1, rfl, p1, p2, ho, hb⟩
  have hs1 := HS.out.below hb
  obtain ⟨k0, k1, k2⟩ := cells3 hs1.1
  obtain ⟨kf0, kf1, kf2⟩ := free3 hs1.1
  have HS1 := Lib.hid hs1; have HB1 := Lib.hid hb; have HO1 := Lib.hid ho; have HP := Lib.hid (And.intro p1 p2)
  have HGL := Lib.hid HS.out.lt
  clear hs1 hb ho p1 p2 Q c0 c1 c2
  go_wp2_with fail
  go_ret
  have hL := HL.out
  subst hL
  exact take_ok HS1.out HB1.out HGL.out (HTE.out _) HP.out.1 HP.out.2 HO1.out (block_add _ _ _ _ _ _)
set_option maxHeartbeats 1600000 in
theorem Take_neg0 (g : Nat) (M : Int) (A : Option Addr) (c : Nat) (R : List UInt8) (s : Bool) (n : Int) (w : World) (h : Que w g M (.slice A R.length c) R s) (hk : 0 ≤ R.length) (hkc : c = 0) (hn0 : n < 0) :
    Calls Try.prog 14 #[.pointer (some ⟨g, 0, none⟩), .int .i64 n] w (TakePost w g M (.slice A R.length c) R s 0) := by
  have hsm := h.small
  have hnc : R.length ≤ c ∧ c ≤ maxLen ∧ Bytes w A R := by
    obtain ⟨A', c', e, f1, g1, hy⟩ := h.2.1.form
    injection e with e1 e2 e3
    subst e1; subst e3
    exact ⟨f1, g1, hy⟩
  obtain ⟨hnc, hcm, hy⟩ := hnc
  have Q := Lib.hid (take_arg (c := c) hy hk (by omega))
  have hkR : (0 : Int) ≤ (R.length : Int) := by omega
  have hkC : (0 : Int) ≤ (c : Int) := by omega
  have hRC : (R.length : Int) ≤ (c : Int) := by omega
  have hm1 : c ≤ 9223372036854775807 := by unfold maxLen at hcm; omega
  have hl0 : ¬ (R.length : Int) < 0 := by omega
  obtain ⟨c0, c1, c2⟩ := cells3 h.1
  have HS := Lib.hid h
  have HTD := Lib.hid (fun (w' : World) (h : Tl w' (g + 1) (.slice A R.length c) R) => h.drop hk)
  subst hkc
  have hrc : R.length - 0 = 0 := by omega
  have HTE := Lib.hid (fun (w' : World) (h : Tl w' (g + 1) (.slice A R.length 0) R) => (show Tl w' (g + 1) (.slice A 0 0) (R.drop 0) from by
    have h1 := HTD.out w' h
    first | rw [if_pos trivial] at h1 | rw [if_pos rfl] at h1
    rw [hrc, Nat.sub_self] at h1
    exact h1))
  clear hrc HTD h hy
  obtain ⟨L, hL⟩ : ∃ L, L = R.take 0 := ⟨_, rfl⟩
  rw [← hL] at Q
  have HL := Lib.hid hL
  clear hL
  go_enter Try.func14, Try.ntmps14
  go_wp2_with fail
  refine Q.out.mono ?_
  rintro e w1 ⟨A1, n1, rfl, p1, p2, ho, hb⟩
  have hs1 := HS.out.below hb
  obtain ⟨k0, k1, k2⟩ := cells3 hs1.1
  obtain ⟨kf0, kf1, kf2⟩ := free3 hs1.1
  have HS1 := Lib.hid hs1; have HB1 := Lib.hid hb; have HO1 := Lib.hid ho; have HP := Lib.hid (And.intro p1 p2)
  have HGL := Lib.hid HS.out.lt
  clear hs1 hb ho p1 p2 Q c0 c1 c2
  go_wp2_with fail
  go_ret
  have hL := HL.out
  subst hL
  exact take_ok HS1.out HB1.out HGL.out (HTE.out _) HP.out.1 HP.out.2 HO1.out (by cases A <;> rfl)
set_option maxHeartbeats 1600000 in
theorem Take_neg1 (g : Nat) (M : Int) (A : Option Addr) (c : Nat) (R : List UInt8) (s : Bool) (n : Int) (w : World) (h : Que w g M (.slice A R.length c) R s) (hk : 0 ≤ R.length) (hkc : ¬ c = 0) (hn0 : n < 0) :
    Calls Try.prog 14 #[.pointer (some ⟨g, 0, none⟩), .int .i64 n] w (TakePost w g M (.slice A R.length c) R s 0) := by
  have hsm := h.small
  have hnc : R.length ≤ c ∧ c ≤ maxLen ∧ Bytes w A R := by
    obtain ⟨A', c', e, f1, g1, hy⟩ := h.2.1.form
    injection e with e1 e2 e3
    subst e1; subst e3
    exact ⟨f1, g1, hy⟩
  obtain ⟨hnc, hcm, hy⟩ := hnc
  have Q := Lib.hid (take_arg (c := c) hy hk (by omega))
  have hkR : (0 : Int) ≤ (R.length : Int) := by omega
  have hkC : (0 : Int) ≤ (c : Int) := by omega
  have hRC : (R.length : Int) ≤ (c : Int) := by omega
  have hm1 : c ≤ 9223372036854775807 := by unfold maxLen at hcm; omega
  have hl0 : ¬ (R.length : Int) < 0 := by omega
  obtain ⟨c0, c1, c2⟩ := cells3 h.1
  have HS := Lib.hid h
  have HTD := Lib.hid (fun (w' : World) (h : Tl w' (g + 1) (.slice A R.length c) R) => h.drop hk)
  have HTE := Lib.hid (fun (w' : World) (h : Tl w' (g + 1) (.slice A R.length c) R) => (show Tl w' (g + 1) (.slice (A.map (·.add 0)) (R.length - 0) (c - 0)) (R.drop 0) from by
    have h1 := HTD.out w' h
    rw [if_neg hkc] at h1
    exact h1))
  clear HTD h hy
  obtain ⟨L, hL⟩ : ∃ L, L = R.take 0 := ⟨_, rfl⟩
  rw [← hL] at Q
  have HL := Lib.hid hL
  clear hL
  go_enter Try.func14, Try.ntmps14
  go_wp2_with fail
  refine Q.out.mono ?_
  rintro e w1 ⟨A1, n1, rfl, p1, p2, ho, hb⟩
  have hs1 := HS.out.below hb
  obtain ⟨k0, k1, k2⟩ := cells3 hs1.1
  obtain ⟨kf0, kf1, kf2⟩ := free3 hs1.1
  have HS1 := Lib.hid hs1; have HB1 := Lib.hid hb; have HO1 := Lib.hid ho; have HP := Lib.hid (And.intro p1 p2)
  have HGL := Lib.hid HS.out.lt
  clear hs1 hb ho p1 p2 Q c0 c1 c2
  go_wp2_with fail
  go_ret
  have hL := HL.out
  subst hL
  exact take_ok HS1.out HB1.out HGL.out (fun h => by simpa using h) HP.out.1 HP.out.2 HO1.out rfl
set_option maxHeartbeats 1600000 in
theorem Take_far0 (g : Nat) (M : Int) (A : Option Addr) (c : Nat) (R : List UInt8) (s : Bool) (n : Int) (w : World) (h : Que w g M (.slice A R.length c) R s) (hk : R.length ≤ R.length) (hkc : c = R.length) (hn0 : ¬ n < 0) (hnl : (R.length : Int) < n) :
    Calls Try.prog 14 #[.pointer (some ⟨g, 0, none⟩), .int .i64 n] w (TakePost w g M (.slice A R.length c) R s R.length) := by
  have hsm := h.small
  have hnc : R.length ≤ c ∧ c ≤ maxLen ∧ Bytes w A R := by
    obtain ⟨A', c', e, f1, g1, hy⟩ := h.2.1.form
    injection e with e1 e2 e3
    subst e1; subst e3
    exact ⟨f1, g1, hy⟩
  obtain ⟨hnc, hcm, hy⟩ := hnc
  have Q := Lib.hid (take_arg (c := c) hy hk (by omega))
  have hkR : (R.length : Int) ≤ (R.length : Int) := by omega
  have hkC : (R.length : Int) ≤ (c : Int) := by omega
  have hRC : (R.length : Int) ≤ (c : Int) := by omega
  have hm1 : c ≤ 9223372036854775807 := by unfold maxLen at hcm; omega
  have hl0 : ¬ (R.length : Int) < 0 := by omega
  obtain ⟨c0, c1, c2⟩ := cells3 h.1
  have HS := Lib.hid h
  have HTD := Lib.hid (fun (w' : World) (h : Tl w' (g + 1) (.slice A R.length c) R) => h.drop hk)
  subst hkc
  have hrc : R.length - R.length = 0 := by omega
  have HTE := Lib.hid (fun (w' : World) (h : Tl w' (g + 1) (.slice A R.length R.length) R) => (show Tl w' (g + 1) (.slice A 0 0) (R.drop R.length) from by
    have h1 := HTD.out w' h
    first | rw [if_pos trivial] at h1 | rw [if_pos rfl] at h1
    rw [hrc] at h1
    exact h1))
  clear hrc HTD h hy
  obtain ⟨L, hL⟩ : ∃ L, L = R.take R.length := ⟨_, rfl⟩
  rw [← hL] at Q
  have HL := Lib.hid hL
  clear hL
  go_enter Try.func14, Try.ntmps14
  go_wp2_with fail
  refine Q.out.mono ?_
  rintro e w1 ⟨A1, n1, rfl, p1, p2, ho, hb⟩
  have hs1 := HS.out.below hb
  obtain ⟨k0, k1, k2⟩ := cells3 hs1.1
  obtain ⟨kf0, kf1, kf2⟩ := free3 hs1.1
  have HS1 := Lib.hid hs1; have HB1 := Lib.hid hb; have HO1 := Lib.hid ho; have HP := Lib.hid (And.intro p1 p2)
  have HGL := Lib.hid HS.out.lt
  clear hs1 hb ho p1 p2 Q c0 c1 c2
  go_wp2_with fail
  go_ret
  have hL := HL.out
  subst hL
  exact take_ok HS1.out HB1.out HGL.out (HTE.out _) HP.out.1 HP.out.2 HO1.out (by cases A <;> rfl)
set_option maxHeartbeats 1600000 in
theorem Take_far1 (g : Nat) (M : Int) (A : Option Addr) (c : Nat) (R : List UInt8) (s : Bool) (n : Int) (w : World) (h : Que w g M (.slice A R.length c) R s) (hk : R.length ≤ R.length) (hkc : ¬ c = R.length) (hn0 : ¬ n < 0) (hnl : (R.length : Int) < n) :
    Calls Try.prog 14 #[.pointer (some ⟨g, 0, none⟩), .int .i64 n] w (TakePost w g M (.slice A R.length c) R s R.length) := by
  have hsm := h.small
  have hnc : R.length ≤ c ∧ c ≤ maxLen ∧ Bytes w A R := by
    obtain ⟨A', c', e, f1, g1, hy⟩ := h.2.1.form
    injection e with e1 e2 e3
    subst e1; subst e3
    exact ⟨f1, g1, hy⟩
  obtain ⟨hnc, hcm, hy⟩ := hnc
  have Q := Lib.hid (take_arg (c := c) hy hk (by omega))
  have hkR : (R.length : Int) ≤ (R.length : Int) := by omega
  have hkC : (R.length : Int) ≤ (c : Int) := by omega
  have hRC : (R.length : Int) ≤ (c : Int) := by omega
  have hm1 : c ≤ 9223372036854775807 := by unfold maxLen at hcm; omega
  have hl0 : ¬ (R.length : Int) < 0 := by omega
  obtain ⟨c0, c1, c2⟩ := cells3 h.1
  have HS := Lib.hid h
  have HTD := Lib.hid (fun (w' : World) (h : Tl w' (g + 1) (.slice A R.length c) R) => h.drop hk)
  have HTE := Lib.hid (fun (w' : World) (h : Tl w' (g + 1) (.slice A R.length c) R) => (show Tl w' (g + 1) (.slice (A.map (·.add R.length)) 0 (c - R.length)) (R.drop R.length) from by
    have h1 := HTD.out w' h
    rw [if_neg hkc, Nat.sub_self] at h1
    exact h1))
  clear HTD h hy
  obtain ⟨L, hL⟩ : ∃ L, L = R.take R.length := ⟨_, rfl⟩
  rw [← hL] at Q
  have HL := Lib.hid hL
  clear hL
  go_enter Try.func14, Try.ntmps14
  go_wp2_with fail
  refine Q.out.mono ?_
  rintro e w1 ⟨A1, n1, rfl, p1, p2, ho, hb⟩
  have hs1 := HS.out.below hb
  obtain ⟨k0, k1, k2⟩ := cells3 hs1.1
  obtain ⟨kf0, kf1, kf2⟩ := free3 hs1.1
  have HS1 := Lib.hid hs1; have HB1 := Lib.hid hb; have HO1 := Lib.hid ho; have HP := Lib.hid (And.intro p1 p2)
  have HGL := Lib.hid HS.out.lt
  clear hs1 hb ho p1 p2 Q c0 c1 c2
  go_wp2_with fail
  go_ret
  have hL := HL.out
  subst hL
  exact take_ok HS1.out HB1.out HGL.out (HTE.out _) HP.out.1 HP.out.2 HO1.out (block_add _ _ _ _ _ _)
theorem Take22_any (g : Nat) (M : Int) (v : Value) (R : List UInt8) (s : Bool) (n : Int) (w : World) (h : Que w g M v R s) :
    Calls Try.prog 14 #[.pointer (some ⟨g, 0, none⟩), .int .i64 n] w (TakePost w g M v R s (takeN n R)) := by
  obtain ⟨A, c, rfl, hnc, hcm, hy⟩ := h.2.1.form
  unfold takeN
  by_cases h1 : n < 0
  · rw [if_pos h1]
    by_cases hc : c = 0
    · exact Take_neg0 g M A c R s n w h (Nat.zero_le _) hc h1
    · exact Take_neg1 g M A c R s n w h (Nat.zero_le _) hc h1
  · rw [if_neg h1]
    by_cases h2 : (R.length : Int) < n
    · rw [if_pos h2]
      by_cases hc : c = R.length
      · exact Take_far0 g M A c R s n w h (Nat.le_refl _) hc h1 h2
      · exact Take_far1 g M A c R s n w h (Nat.le_refl _) hc h1 h2
    · rw [if_neg h2]
      obtain ⟨k, rfl⟩ : ∃ k : Nat, n = (k : Int) := ⟨n.toNat, by omega⟩
      rw [Int.toNat_natCast]
      by_cases hc : c = k
      · exact Take_in0 g M A c k R s w h (by omega) hc h1 h2
      · exact Take_in1 g M A c k R s w h (by omega) hc h1 h2
end Go.Proofs.Ytgbialnnfadlgaa

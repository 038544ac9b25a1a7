/-
  P20.2: skipped however far, a clock comes just to its first time, if one runs; none comes to 0 ahead of it: the walk.
-/
import Derived.Test.YteihadheplcccaaAwake20
import Derived.Test.YteihadheplcccaaSk20
import Derived.Test.YteihadheplcccaaEq20
import Derived.Deep.RegionHeld3
import Derived.Laws.Shifts
namespace Go.Proofs.Yteihadheplcccaa.ClockFar
set_option linter.unusedVariables false
set_option linter.unusedSimpArgs false
open Go.RowKit

theorem less_run {k x : Int} (hk : 0 ≤ k) (h : 0 < less k x) : 0 < x ∧ less k x = x - k := by
  unfold less at h ⊢
  by_cases hx : 0 < x
  · rw [if_pos hx] at h ⊢
    exact ⟨hx, rfl⟩
  · rw [if_neg hx] at h
    exact absurd h hx
theorem less_is {k x : Int} (hx : 0 < x) : less k x = x - k := by unfold less; rw [if_pos hx]
/-- Behind some ticks that are fewer than the first time's, it has the rest. -/
theorem first_less {k : Int} {t : Tri} (hk : 0 ≤ k) (h : k < fstN t 3) : fstN (passN k t 3) 3 = fstN t 3 - k := by
  obtain ⟨a, b, c⟩ := t
  obtain ⟨f0, f1, f2⟩ := first_fits ⟨a, b, c⟩
  have fi := first_is ⟨a, b, c⟩
  obtain ⟨q0, q1, q2, q3⟩ := f1 (by omega)
  rw [passN_is]
  obtain ⟨g0, g1, g2⟩ := first_fits ⟨less k a, less k b, less k c⟩
  have gi := first_is ⟨less k a, less k b, less k c⟩
  generalize hf : fstN ⟨a, b, c⟩ 3 = f at *
  generalize hg : fstN ⟨less k a, less k b, less k c⟩ 3 = g at *
  dsimp only at *
  have hpos : 0 < g := by
    by_cases e : g = 0
    · obtain ⟨r1, r2, r3⟩ := g2 e
      rcases fi with p | ⟨p, p'⟩ | ⟨p, p'⟩ | ⟨p, p'⟩
      · omega
      · rw [less_is p'] at r1; omega
      · rw [less_is p'] at r2; omega
      · rw [less_is p'] at r3; omega
    · omega
  obtain ⟨s0, s1, s2, s3⟩ := g1 hpos
  have hle : g ≤ f - k := by
    rcases fi with p | ⟨p, p'⟩ | ⟨p, p'⟩ | ⟨p, p'⟩
    · omega
    · have := s1 (by dsimp only; rw [less_is p']; omega); dsimp only at this; rw [less_is p'] at this; omega
    · have := s2 (by dsimp only; rw [less_is p']; omega); dsimp only at this; rw [less_is p'] at this; omega
    · have := s3 (by dsimp only; rw [less_is p']; omega); dsimp only at this; rw [less_is p'] at this; omega
  have hge : f - k ≤ g := by
    rcases gi with p | ⟨p, p'⟩ | ⟨p, p'⟩ | ⟨p, p'⟩
    · omega
    · obtain ⟨u1, u2⟩ := less_run hk p'; have := q1 u1; omega
    · obtain ⟨u1, u2⟩ := less_run hk p'; have := q2 u1; omega
    · obtain ⟨u1, u2⟩ := less_run hk p'; have := q3 u1; omega
  omega
theorem none_runs {k : Int} {t : Tri} (h : fstN t 3 = 0) : passN k t 3 = t ∧ endN k t 3 = [] := by
  obtain ⟨a, b, c⟩ := t
  obtain ⟨f0, f1, f2⟩ := first_fits ⟨a, b, c⟩
  obtain ⟨r1, r2, r3⟩ := f2 h
  dsimp only at r1 r2 r3
  refine ⟨?_, nil_end ⟨by dsimp only; omega, by dsimp only; omega, by dsimp only; omega⟩⟩
  rw [passN_is]
  unfold less
  rw [if_neg (by omega), if_neg (by omega), if_neg (by omega)]
theorem end_ahead {k : Int} {t : Tri} (hk : 0 ≤ k) (h : k < fstN t 3) : endN k t 3 = [] := by
  obtain ⟨f0, f1, f2⟩ := first_fits t
  obtain ⟨q0, q1, q2, q3⟩ := f1 (by omega)
  exact nil_end ⟨fun q => by have := q1 q.1; omega, fun q => by have := q2 q.1; omega, fun q => by have := q3 q.1; omega⟩
/-- The first one that comes to 0 at the first time. -/
theorem end_first {t : Tri} (h : 0 < fstN t 3) : (0 < t.a ∧ t.a = fstN t 3 ∧ ∃ l, endN (fstN t 3) t 3 = 0 :: l) ∨ (0 < t.b ∧ t.b = fstN t 3 ∧ ∃ l, endN (fstN t 3) t 3 = 1 :: l) ∨ (0 < t.c ∧ t.c = fstN t 3 ∧ ∃ l, endN (fstN t 3) t 3 = 2 :: l) := by
  have fi := first_is t
  obtain ⟨a, b, c⟩ := t
  generalize hf : fstN ⟨a, b, c⟩ 3 = f at *
  dsimp only at *
  rw [endN_is]
  by_cases ha : 0 < a ∧ a = f
  · exact .inl ⟨ha.1, ha.2, _, by unfold end1; rw [if_pos ha]; rfl⟩
  · by_cases hb : 0 < b ∧ b = f
    · exact .inr (.inl ⟨hb.1, hb.2, _, by unfold end1; rw [if_neg ha, if_pos hb]; rfl⟩)
    · have hc : 0 < c ∧ c = f := by omega
      exact .inr (.inr ⟨hc.1, hc.2, _, by unfold end1; rw [if_neg ha, if_neg hb, if_pos hc]; rfl⟩)
theorem first_max20 (t : Tri) (h : t.I64) : fstN t 3 ≤ 9223372036854775807 := by
  obtain ⟨h1, h2, h3⟩ := h
  rcases first_is t with e | ⟨e, _⟩ | ⟨e, _⟩ | ⟨e, _⟩ <;> omega
theorem tri_eta20 (t : Tri) : ∃ x y z, t = ⟨x, y, z⟩ := ⟨t.a, t.b, t.c, rfl⟩
theorem skip_far {f k : Int} (hk : 0 ≤ k) (hf : 0 ≤ f) : skipK f k = if f = 0 then k else if k < f then k else f := by
  unfold skipK
  rw [if_neg (show ¬ k < 0 by omega)]
  by_cases h0 : f = 0
  · rw [if_neg (show ¬ 0 < f by omega), if_pos h0]
  · rw [if_pos (show 0 < f by omega), if_neg h0]
    by_cases hl : k < f
    · rw [if_neg (by omega), if_pos hl]
    · rw [if_neg hl]
      by_cases h2 : f < k
      · rw [if_pos h2]
      · rw [if_neg h2]; omega
set_option maxRecDepth 100000 in
set_option maxHeartbeats 12800000 in
theorem w_none (a b c n far f : Int) (w : World) (ht : (⟨a, b, c⟩ : Tri).I64) (hn : 0 ≤ n ∧ n ≤ 18446744073709551615) (hfar : far = n / 2) (hF : fstN ⟨a, b, c⟩ 3 = f) (h0 : f = 0) :
    Calls Try.prog 6 #[.agg #[.int .i64 a, .int .i64 b, .int .i64 c], .int .u64 n] w fun e w' => e = .returned (.bool true) ∧ Below w.heap.size w w' := by
  have hfar0 : 0 ≤ far := by omega
  have hf0 : 0 ≤ f := by rw [← hF]; exact (first_fits ⟨a, b, c⟩).1
  have hK := skip_far hfar0 hf0
  rw [if_pos h0] at hK
  have hP := none_runs (k := far) (hF.trans h0)
  have Q1 := Lib.hid (fun W => First_any a b c W)
  have Q2 := Lib.hid (fun W => Skip_any a b c far W ht)
  have Q4 := Lib.hid (fun W => awake20_any W)
  rw [hF] at Q1
  rw [hF, hK, hP.1, hP.2] at Q2
  have hq := fun W => eqC a b c W
  have h0b : (f == 0) = true := by simpa using h0
  clear hP h0
  have HWR := Lib.hid (show wrap64 (n / 2) = far by rw [hfar]; unfold wrap64; omega)
  have hb0 : Below w.heap.size w (w.alloc (.cells #[.int .i64 a, .int .i64 b, .int .i64 c] 22)) := (Below.refl _ _).alloc (Nat.le_refl _) _
  obtain ⟨hb0, k1, k2, hz⟩ := box2 w (.int .i64 a) (.int .i64 b) (.int .i64 c) (.int .i64 a) (.int .i64 b) (.int .i64 c) 22 24
  have HB := Lib.hid hb0; have K2 := Lib.hid k2
  have c2 := cells3 k2
  have HFN := Lib.hid hn
  clear hb0 k1 k2 hz hn hfar hF hK ht
  go_enter Try.func6, Try.ntmps6
  go_wp2_with fail
  refine (Q1.out _).mono ?_
  rintro e w1 ⟨rfl, hb1⟩
  have k2 := K2.out.below hb1 K2.out.lt
  have HK2 := Lib.hid k2
  have d2 := cells3 k2
  have HB1 := Lib.hid (HB.out.trans (hb1.mono HB.out.size))
  clear hb1 k2 c2
  go_wp2_with fail
  rw [HWR.out]
  refine (Q2.out _).mono ?_
  rintro e w2 ⟨A1, d1, rfl, ho2, hb2⟩
  have k2 := HK2.out.below hb2 HK2.out.lt
  have e2 := cells3 k2
  have HB2 := Lib.hid (HB1.out.trans (hb2.mono HB1.out.size))
  have l2 : w.heap.size + 1 < w2.heap.size := k2.lt
  have HK3 := Lib.hid k2
  have HB3 := Lib.hid (HB2.out.alloc HB2.out.size (.cells #[.int .i64 a, .int .i64 b, .int .i64 c] 24))
  clear ho2 hb2 k2 d2
  go_wp2_with fail
  refine (Q4.out _).mono ?_
  rintro e w5 ⟨rfl, hb5⟩
  have HB5 := Lib.hid (HB3.out.trans (hb5.mono HB3.out.size))
  clear hb5
  go_wp2_with fail
  go_ret
  exact ⟨rfl, HB5.out⟩
set_option maxRecDepth 100000 in
set_option maxHeartbeats 12800000 in
theorem w_ahead (a b c n far f : Int) (w : World) (ht : (⟨a, b, c⟩ : Tri).I64) (hn : 0 ≤ n ∧ n ≤ 18446744073709551615) (hfar : far = n / 2) (hF : fstN ⟨a, b, c⟩ 3 = f) (h0 : f ≠ 0) (hl : far < f) :
    Calls Try.prog 6 #[.agg #[.int .i64 a, .int .i64 b, .int .i64 c], .int .u64 n] w fun e w' => e = .returned (.bool true) ∧ Below w.heap.size w w' := by
  have hfar0 : 0 ≤ far := by omega
  have hf0 : 0 ≤ f := by rw [← hF]; exact (first_fits ⟨a, b, c⟩).1
  have hK := skip_far hfar0 hf0
  rw [if_neg h0, if_pos hl] at hK
  have hE := end_ahead (k := far) (t := ⟨a, b, c⟩) hfar0 (by rw [hF]; exact hl)
  have hG := first_less (k := far) (t := ⟨a, b, c⟩) hfar0 (by rw [hF]; exact hl)
  rw [hF] at hG
  obtain ⟨x, y, s, hP⟩ := tri_eta20 (passN far ⟨a, b, c⟩ 3)
  rw [hP] at hG
  have Q1 := Lib.hid (fun W => First_any a b c W)
  have Q2 := Lib.hid (fun W => Skip_any a b c far W ht)
  have Q4 := Lib.hid (fun W => awake20_any W)
  rw [hF] at Q1
  rw [hF, hK, hP, hE] at Q2
  have Q3 := Lib.hid (fun W => First_any x y s W)
  rw [hG] at Q3
  have h0b : (f == 0) = false := by simpa using h0
  obtain ⟨g, hg⟩ : ∃ g, g = f - far := ⟨_, rfl⟩
  have w1 : IntKind.i64.wrap (f - far) = g := by
    rw [hg]
    refine IntWalk.i64_in _ ⟨by omega, ?_⟩
    have hm := first_max20 _ ht
    rw [hF] at hm
    omega
  rw [← hg] at Q3
  clear hP h0 hE hG hg
  have HWR := Lib.hid (show wrap64 (n / 2) = far by rw [hfar]; unfold wrap64; omega)
  have hb0 : Below w.heap.size w (w.alloc (.cells #[.int .i64 a, .int .i64 b, .int .i64 c] 22)) := (Below.refl _ _).alloc (Nat.le_refl _) _
  obtain ⟨hb0, k1, k2, hz⟩ := box2 w (.int .i64 a) (.int .i64 b) (.int .i64 c) (.int .i64 a) (.int .i64 b) (.int .i64 c) 22 24
  have HB := Lib.hid hb0; have K2 := Lib.hid k2
  have c2 := cells3 k2
  have HFN := Lib.hid hn
  clear hb0 k1 k2 hz hn hfar hF hK ht
  go_enter Try.func6, Try.ntmps6
  go_wp2_with fail
  refine (Q1.out _).mono ?_
  rintro e w1 ⟨rfl, hb1⟩
  have k2 := K2.out.below hb1 K2.out.lt
  have HK2 := Lib.hid k2
  have d2 := cells3 k2
  have HB1 := Lib.hid (HB.out.trans (hb1.mono HB.out.size))
  clear hb1 k2 c2
  go_wp2_with fail
  rw [HWR.out]
  refine (Q2.out _).mono ?_
  rintro e w2 ⟨A1, d1, rfl, ho2, hb2⟩
  have k2 := HK2.out.below hb2 HK2.out.lt
  have e2 := cells3 k2
  have HB2 := Lib.hid (HB1.out.trans (hb2.mono HB1.out.size))
  have l2 : w.heap.size + 1 < w2.heap.size := k2.lt
  have HK3 := Lib.hid k2
  have HB3 := Lib.hid (HB2.out.alloc HB2.out.size (.cells #[.int .i64 x, .int .i64 y, .int .i64 s] 24))
  clear ho2 hb2 k2 d2
  go_wp2_with fail
  refine (Q3.out _).mono ?_
  rintro e w4 ⟨rfl, hb4⟩
  replace HB3 := Lib.hid (HB3.out.trans (hb4.mono HB3.out.size))
  clear hb4
  go_wp2_with fail
  refine (Q4.out _).mono ?_
  rintro e w5 ⟨rfl, hb5⟩
  have HB5 := Lib.hid (HB3.out.trans (hb5.mono HB3.out.size))
  clear hb5
  go_wp2_with fail
  go_ret
  exact ⟨rfl, HB5.out⟩
set_option maxRecDepth 100000 in
set_option maxHeartbeats 12800000 in
theorem w_at0 (a b c n far f : Int) (w : World) (ht : (⟨a, b, c⟩ : Tri).I64) (hn : 0 ≤ n ∧ n ≤ 18446744073709551615) (hfar : far = n / 2) (hF : fstN ⟨a, b, c⟩ 3 = f) (h0 : f ≠ 0) (hl : ¬ far < f) (z : List Int) (hE : endN f ⟨a, b, c⟩ 3 = 0 :: z) (hx : a = f) :
    Calls Try.prog 6 #[.agg #[.int .i64 a, .int .i64 b, .int .i64 c], .int .u64 n] w fun e w' => e = .returned (.bool true) ∧ Below w.heap.size w w' := by
  have hfar0 : 0 ≤ far := by omega
  have hf0 : 0 ≤ f := by rw [← hF]; exact (first_fits ⟨a, b, c⟩).1
  have hK := skip_far hfar0 hf0
  rw [if_neg h0, if_neg hl] at hK
  obtain ⟨x, y, s, hP⟩ := tri_eta20 (passN f ⟨a, b, c⟩ 3)
  have hx0 : x = 0 := by
    have e := hP
    rw [passN_is] at e
    injection e with e1 e2 e3
    rw [← e1, less_is (by omega)]
    omega
  have HZ := Lib.hid (show (endN f ⟨a, b, c⟩ 3).length ≤ 3 from endN_len _ _ _)
  have Q1 := Lib.hid (fun W => First_any a b c W)
  have Q2 := Lib.hid (fun W => Skip_any a b c far W ht)
  have Q4 := Lib.hid (fun W => awake20_any W)
  rw [hF] at Q1
  rw [hF, hK, hP, hE] at Q2
  have Q3 := Lib.hid (fun W => Runs_0f x y s W (by omega))
  have h0b : (f == 0) = false := by simpa using h0
  have hlb : decide (far < f) = false := by simpa using hl
  clear hP h0 hE hx0 hx hl
  have HWR := Lib.hid (show wrap64 (n / 2) = far by rw [hfar]; unfold wrap64; omega)
  have hb0 : Below w.heap.size w (w.alloc (.cells #[.int .i64 a, .int .i64 b, .int .i64 c] 22)) := (Below.refl _ _).alloc (Nat.le_refl _) _
  obtain ⟨hb0, k1, k2, hz⟩ := box2 w (.int .i64 a) (.int .i64 b) (.int .i64 c) (.int .i64 a) (.int .i64 b) (.int .i64 c) 22 24
  have HB := Lib.hid hb0; have K2 := Lib.hid k2
  have c2 := cells3 k2
  have HFN := Lib.hid hn
  clear hb0 k1 k2 hz hn hfar hF hK ht
  go_enter Try.func6, Try.ntmps6
  go_wp2_with fail
  refine (Q1.out _).mono ?_
  rintro e w1 ⟨rfl, hb1⟩
  have k2 := K2.out.below hb1 K2.out.lt
  have HK2 := Lib.hid k2
  have d2 := cells3 k2
  have HB1 := Lib.hid (HB.out.trans (hb1.mono HB.out.size))
  clear hb1 k2 c2
  go_wp2_with fail
  rw [HWR.out]
  refine (Q2.out _).mono ?_
  rintro e w2 ⟨A1, d1, rfl, ho2, hb2⟩
  have k2 := HK2.out.below hb2 HK2.out.lt
  have e2 := cells3 k2
  have HB2 := Lib.hid (HB1.out.trans (hb2.mono HB1.out.size))
  have l2 : w.heap.size + 1 < w2.heap.size := k2.lt
  have HK3 := Lib.hid k2
  obtain ⟨b1, o1, rfl, hlt, hc⟩ := ho2.at (by simp)
  have hc0 : w2.cell? ⟨b1, o1, none⟩ = some (.int .i64 0) := hc 0 0 rfl
  have HBA := Lib.hid (show Below w2.heap.size w2 (w2.alloc (.cells #[.int .i64 x, .int .i64 y, .int .i64 s] 24)) from (Below.refl _ _).alloc (Nat.le_refl _) _)
  have HCL := Lib.hid (fun W (h : Below w2.heap.size w2 W) => (h.cell (p := ⟨b1, o1, none⟩) hlt).trans hc0)
  have HYL := Lib.hid (fun W (h : Below (w2.alloc (.cells #[.int .i64 x, .int .i64 y, .int .i64 s] 24)).heap.size (w2.alloc (.cells #[.int .i64 x, .int .i64 y, .int .i64 s] 24)) W) => cells3 ((Blk.new w2 24 [.int .i64 x, .int .i64 y, .int .i64 s]).below h (by simp)))
  have hbc : Below (w2.alloc (.cells #[.int .i64 x, .int .i64 y, .int .i64 s] 24)).heap.size (w2.alloc (.cells #[.int .i64 x, .int .i64 y, .int .i64 s] 24)) (w2.alloc (.cells #[.int .i64 x, .int .i64 y, .int .i64 s] 24)).drew := (Below.refl _ _).drew
  have HBW := Lib.hid (fun W (h : Below (w2.alloc (.cells #[.int .i64 x, .int .i64 y, .int .i64 s] 24)).heap.size (w2.alloc (.cells #[.int .i64 x, .int .i64 y, .int .i64 s] 24)) W) => (HB2.out.alloc HB2.out.size (.cells #[.int .i64 x, .int .i64 y, .int .i64 s] 24)).trans (h.mono (Nat.le_trans HB2.out.size HBA.out.size)))
  have HY := HYL.out _ hbc
  have HC := HCL.out _ (HBA.out.trans (hbc.mono HBA.out.size))
  have hz1 : (0 : Int) < (z.length : Int) + 1 := by omega
  have hz2 : 0 < z.length + 1 := by omega
  clear ho2 hb2 k2 d2 hc0 hlt hc
  go_wp2_with fail
  go_region_held3 (fun w' => w'.cell? ⟨b1, o1, none⟩ = some (.int .i64 0) ∧ w'.cell? ⟨w2.heap.size, 0, none⟩ = some (.int .i64 x) ∧ w'.cell? ⟨w2.heap.size, 1, none⟩ = some (.int .i64 y) ∧ w'.cell? ⟨w2.heap.size, 2, none⟩ = some (.int .i64 s)) (exact ⟨HCL.out _ (HBA.out.trans (hbc.mono HBA.out.size)), HYL.out _ hbc⟩) ((first
    | (go_at_call 9; refine (Q3.out _).mono ?_; rintro e wx ⟨rfl, hg⟩; replace hbc := hbc.trans (hg.mono hbc.size); clear hg)
    | (go_at_call 10; refine (Q4.out _).mono ?_; rintro e wx ⟨rfl, hg⟩; replace hbc := hbc.trans (hg.mono hbc.size); clear hg)))
  go_wp2_with fail
  go_ret
  exact ⟨rfl, HBW.out _ hbc⟩
set_option maxRecDepth 100000 in
set_option maxHeartbeats 12800000 in
theorem w_at1 (a b c n far f : Int) (w : World) (ht : (⟨a, b, c⟩ : Tri).I64) (hn : 0 ≤ n ∧ n ≤ 18446744073709551615) (hfar : far = n / 2) (hF : fstN ⟨a, b, c⟩ 3 = f) (h0 : f ≠ 0) (hl : ¬ far < f) (z : List Int) (hE : endN f ⟨a, b, c⟩ 3 = 1 :: z) (hx : b = f) :
    Calls Try.prog 6 #[.agg #[.int .i64 a, .int .i64 b, .int .i64 c], .int .u64 n] w fun e w' => e = .returned (.bool true) ∧ Below w.heap.size w w' := by
  have hfar0 : 0 ≤ far := by omega
  have hf0 : 0 ≤ f := by rw [← hF]; exact (first_fits ⟨a, b, c⟩).1
  have hK := skip_far hfar0 hf0
  rw [if_neg h0, if_neg hl] at hK
  obtain ⟨x, y, s, hP⟩ := tri_eta20 (passN f ⟨a, b, c⟩ 3)
  have hx0 : y = 0 := by
    have e := hP
    rw [passN_is] at e
    injection e with e1 e2 e3
    rw [← e2, less_is (by omega)]
    omega
  have HZ := Lib.hid (show (endN f ⟨a, b, c⟩ 3).length ≤ 3 from endN_len _ _ _)
  have Q1 := Lib.hid (fun W => First_any a b c W)
  have Q2 := Lib.hid (fun W => Skip_any a b c far W ht)
  have Q4 := Lib.hid (fun W => awake20_any W)
  rw [hF] at Q1
  rw [hF, hK, hP, hE] at Q2
  have Q3 := Lib.hid (fun W => Runs_1f x y s W (by omega))
  have h0b : (f == 0) = false := by simpa using h0
  have hlb : decide (far < f) = false := by simpa using hl
  clear hP h0 hE hx0 hx hl
  have HWR := Lib.hid (show wrap64 (n / 2) = far by rw [hfar]; unfold wrap64; omega)
  have hb0 : Below w.heap.size w (w.alloc (.cells #[.int .i64 a, .int .i64 b, .int .i64 c] 22)) := (Below.refl _ _).alloc (Nat.le_refl _) _
  obtain ⟨hb0, k1, k2, hz⟩ := box2 w (.int .i64 a) (.int .i64 b) (.int .i64 c) (.int .i64 a) (.int .i64 b) (.int .i64 c) 22 24
  have HB := Lib.hid hb0; have K2 := Lib.hid k2
  have c2 := cells3 k2
  have HFN := Lib.hid hn
  clear hb0 k1 k2 hz hn hfar hF hK ht
  go_enter Try.func6, Try.ntmps6
  go_wp2_with fail
  refine (Q1.out _).mono ?_
  rintro e w1 ⟨rfl, hb1⟩
  have k2 := K2.out.below hb1 K2.out.lt
  have HK2 := Lib.hid k2
  have d2 := cells3 k2
  have HB1 := Lib.hid (HB.out.trans (hb1.mono HB.out.size))
  clear hb1 k2 c2
  go_wp2_with fail
  rw [HWR.out]
  refine (Q2.out _).mono ?_
  rintro e w2 ⟨A1, d1, rfl, ho2, hb2⟩
  have k2 := HK2.out.below hb2 HK2.out.lt
  have e2 := cells3 k2
  have HB2 := Lib.hid (HB1.out.trans (hb2.mono HB1.out.size))
  have l2 : w.heap.size + 1 < w2.heap.size := k2.lt
  have HK3 := Lib.hid k2
  obtain ⟨b1, o1, rfl, hlt, hc⟩ := ho2.at (by simp)
  have hc0 : w2.cell? ⟨b1, o1, none⟩ = some (.int .i64 1) := hc 0 1 rfl
  have HBA := Lib.hid (show Below w2.heap.size w2 (w2.alloc (.cells #[.int .i64 x, .int .i64 y, .int .i64 s] 24)) from (Below.refl _ _).alloc (Nat.le_refl _) _)
  have HCL := Lib.hid (fun W (h : Below w2.heap.size w2 W) => (h.cell (p := ⟨b1, o1, none⟩) hlt).trans hc0)
  have HYL := Lib.hid (fun W (h : Below (w2.alloc (.cells #[.int .i64 x, .int .i64 y, .int .i64 s] 24)).heap.size (w2.alloc (.cells #[.int .i64 x, .int .i64 y, .int .i64 s] 24)) W) => cells3 ((Blk.new w2 24 [.int .i64 x, .int .i64 y, .int .i64 s]).below h (by simp)))
  have hbc : Below (w2.alloc (.cells #[.int .i64 x, .int .i64 y, .int .i64 s] 24)).heap.size (w2.alloc (.cells #[.int .i64 x, .int .i64 y, .int .i64 s] 24)) (w2.alloc (.cells #[.int .i64 x, .int .i64 y, .int .i64 s] 24)).drew := (Below.refl _ _).drew
  have HBW := Lib.hid (fun W (h : Below (w2.alloc (.cells #[.int .i64 x, .int .i64 y, .int .i64 s] 24)).heap.size (w2.alloc (.cells #[.int .i64 x, .int .i64 y, .int .i64 s] 24)) W) => (HB2.out.alloc HB2.out.size (.cells #[.int .i64 x, .int .i64 y, .int .i64 s] 24)).trans (h.mono (Nat.le_trans HB2.out.size HBA.out.size)))
  have HY := HYL.out _ hbc
  have HC := HCL.out _ (HBA.out.trans (hbc.mono HBA.out.size))
  have hz1 : (0 : Int) < (z.length : Int) + 1 := by omega
  have hz2 : 0 < z.length + 1 := by omega
  clear ho2 hb2 k2 d2 hc0 hlt hc
  go_wp2_with fail
  go_region_held3 (fun w' => w'.cell? ⟨b1, o1, none⟩ = some (.int .i64 1) ∧ w'.cell? ⟨w2.heap.size, 0, none⟩ = some (.int .i64 x) ∧ w'.cell? ⟨w2.heap.size, 1, none⟩ = some (.int .i64 y) ∧ w'.cell? ⟨w2.heap.size, 2, none⟩ = some (.int .i64 s)) (exact ⟨HCL.out _ (HBA.out.trans (hbc.mono HBA.out.size)), HYL.out _ hbc⟩) ((first
    | (go_at_call 9; refine (Q3.out _).mono ?_; rintro e wx ⟨rfl, hg⟩; replace hbc := hbc.trans (hg.mono hbc.size); clear hg)
    | (go_at_call 10; refine (Q4.out _).mono ?_; rintro e wx ⟨rfl, hg⟩; replace hbc := hbc.trans (hg.mono hbc.size); clear hg)))
  go_wp2_with fail
  go_ret
  exact ⟨rfl, HBW.out _ hbc⟩
set_option maxRecDepth 100000 in
set_option maxHeartbeats 12800000 in
theorem w_at2 (a b c n far f : Int) (w : World) (ht : (⟨a, b, c⟩ : Tri).I64) (hn : 0 ≤ n ∧ n ≤ 18446744073709551615) (hfar : far = n / 2) (hF : fstN ⟨a, b, c⟩ 3 = f) (h0 : f ≠ 0) (hl : ¬ far < f) (z : List Int) (hE : endN f ⟨a, b, c⟩ 3 = 2 :: z) (hx : c = f) :
    Calls Try.prog 6 #[.agg #[.int .i64 a, .int .i64 b, .int .i64 c], .int .u64 n] w fun e w' => e = .returned (.bool true) ∧ Below w.heap.size w w' := by
  have hfar0 : 0 ≤ far := by omega
  have hf0 : 0 ≤ f := by rw [← hF]; exact (first_fits ⟨a, b, c⟩).1
  have hK := skip_far hfar0 hf0
  rw [if_neg h0, if_neg hl] at hK
  obtain ⟨x, y, s, hP⟩ := tri_eta20 (passN f ⟨a, b, c⟩ 3)
  have hx0 : s = 0 := by
    have e := hP
    rw [passN_is] at e
    injection e with e1 e2 e3
    rw [← e3, less_is (by omega)]
    omega
  have HZ := Lib.hid (show (endN f ⟨a, b, c⟩ 3).length ≤ 3 from endN_len _ _ _)
  have Q1 := Lib.hid (fun W => First_any a b c W)
  have Q2 := Lib.hid (fun W => Skip_any a b c far W ht)
  have Q4 := Lib.hid (fun W => awake20_any W)
  rw [hF] at Q1
  rw [hF, hK, hP, hE] at Q2
  have Q3 := Lib.hid (fun W => Runs_2f x y s W (by omega))
  have h0b : (f == 0) = false := by simpa using h0
  have hlb : decide (far < f) = false := by simpa using hl
  clear hP h0 hE hx0 hx hl
  have HWR := Lib.hid (show wrap64 (n / 2) = far by rw [hfar]; unfold wrap64; omega)
  have hb0 : Below w.heap.size w (w.alloc (.cells #[.int .i64 a, .int .i64 b, .int .i64 c] 22)) := (Below.refl _ _).alloc (Nat.le_refl _) _
  obtain ⟨hb0, k1, k2, hz⟩ := box2 w (.int .i64 a) (.int .i64 b) (.int .i64 c) (.int .i64 a) (.int .i64 b) (.int .i64 c) 22 24
  have HB := Lib.hid hb0; have K2 := Lib.hid k2
  have c2 := cells3 k2
  have HFN := Lib.hid hn
  clear hb0 k1 k2 hz hn hfar hF hK ht
  go_enter Try.func6, Try.ntmps6
  go_wp2_with fail
  refine (Q1.out _).mono ?_
  rintro e w1 ⟨rfl, hb1⟩
  have k2 := K2.out.below hb1 K2.out.lt
  have HK2 := Lib.hid k2
  have d2 := cells3 k2
  have HB1 := Lib.hid (HB.out.trans (hb1.mono HB.out.size))
  clear hb1 k2 c2
  go_wp2_with fail
  rw [HWR.out]
  refine (Q2.out _).mono ?_
  rintro e w2 ⟨A1, d1, rfl, ho2, hb2⟩
  have k2 := HK2.out.below hb2 HK2.out.lt
  have e2 := cells3 k2
  have HB2 := Lib.hid (HB1.out.trans (hb2.mono HB1.out.size))
  have l2 : w.heap.size + 1 < w2.heap.size := k2.lt
  have HK3 := Lib.hid k2
  obtain ⟨b1, o1, rfl, hlt, hc⟩ := ho2.at (by simp)
  have hc0 : w2.cell? ⟨b1, o1, none⟩ = some (.int .i64 2) := hc 0 2 rfl
  have HBA := Lib.hid (show Below w2.heap.size w2 (w2.alloc (.cells #[.int .i64 x, .int .i64 y, .int .i64 s] 24)) from (Below.refl _ _).alloc (Nat.le_refl _) _)
  have HCL := Lib.hid (fun W (h : Below w2.heap.size w2 W) => (h.cell (p := ⟨b1, o1, none⟩) hlt).trans hc0)
  have HYL := Lib.hid (fun W (h : Below (w2.alloc (.cells #[.int .i64 x, .int .i64 y, .int .i64 s] 24)).heap.size (w2.alloc (.cells #[.int .i64 x, .int .i64 y, .int .i64 s] 24)) W) => cells3 ((Blk.new w2 24 [.int .i64 x, .int .i64 y, .int .i64 s]).below h (by simp)))
  have hbc : Below (w2.alloc (.cells #[.int .i64 x, .int .i64 y, .int .i64 s] 24)).heap.size (w2.alloc (.cells #[.int .i64 x, .int .i64 y, .int .i64 s] 24)) (w2.alloc (.cells #[.int .i64 x, .int .i64 y, .int .i64 s] 24)).drew := (Below.refl _ _).drew
  have HBW := Lib.hid (fun W (h : Below (w2.alloc (.cells #[.int .i64 x, .int .i64 y, .int .i64 s] 24)).heap.size (w2.alloc (.cells #[.int .i64 x, .int .i64 y, .int .i64 s] 24)) W) => (HB2.out.alloc HB2.out.size (.cells #[.int .i64 x, .int .i64 y, .int .i64 s] 24)).trans (h.mono (Nat.le_trans HB2.out.size HBA.out.size)))
  have HY := HYL.out _ hbc
  have HC := HCL.out _ (HBA.out.trans (hbc.mono HBA.out.size))
  have hz1 : (0 : Int) < (z.length : Int) + 1 := by omega
  have hz2 : 0 < z.length + 1 := by omega
  clear ho2 hb2 k2 d2 hc0 hlt hc
  go_wp2_with fail
  go_region_held3 (fun w' => w'.cell? ⟨b1, o1, none⟩ = some (.int .i64 2) ∧ w'.cell? ⟨w2.heap.size, 0, none⟩ = some (.int .i64 x) ∧ w'.cell? ⟨w2.heap.size, 1, none⟩ = some (.int .i64 y) ∧ w'.cell? ⟨w2.heap.size, 2, none⟩ = some (.int .i64 s)) (exact ⟨HCL.out _ (HBA.out.trans (hbc.mono HBA.out.size)), HYL.out _ hbc⟩) ((first
    | (go_at_call 9; refine (Q3.out _).mono ?_; rintro e wx ⟨rfl, hg⟩; replace hbc := hbc.trans (hg.mono hbc.size); clear hg)
    | (go_at_call 10; refine (Q4.out _).mono ?_; rintro e wx ⟨rfl, hg⟩; replace hbc := hbc.trans (hg.mono hbc.size); clear hg)))
  go_wp2_with fail
  go_ret
  exact ⟨rfl, HBW.out _ hbc⟩
theorem walk (a b c n : Int) (w : World) (ht : (⟨a, b, c⟩ : Tri).I64) (hn : 0 ≤ n ∧ n ≤ 18446744073709551615) :
    Calls Try.prog 6 #[.agg #[.int .i64 a, .int .i64 b, .int .i64 c], .int .u64 n] w fun e w' => e = .returned (.bool true) ∧ Below w.heap.size w w' := by
  obtain ⟨f, hF⟩ : ∃ f, fstN ⟨a, b, c⟩ 3 = f := ⟨_, rfl⟩
  by_cases h0 : f = 0
  · exact w_none a b c n _ f w ht hn rfl hF h0
  by_cases hl : n / 2 < f
  · exact w_ahead a b c n _ f w ht hn rfl hF h0 hl
  have hp : 0 < fstN ⟨a, b, c⟩ 3 := by have := (first_fits ⟨a, b, c⟩).1; omega
  have he := end_first hp
  rw [hF] at he
  rcases he with ⟨_, h2, z, hz⟩ | ⟨_, h2, z, hz⟩ | ⟨_, h2, z, hz⟩
  · exact w_at0 a b c n _ f w ht hn rfl hF h0 hl z hz h2
  · exact w_at1 a b c n _ f w ht hn rfl hF h0 hl z hz h2
  · exact w_at2 a b c n _ f w ht hn rfl hF h0 hl z hz h2
end Go.Proofs.Yteihadheplcccaa.ClockFar

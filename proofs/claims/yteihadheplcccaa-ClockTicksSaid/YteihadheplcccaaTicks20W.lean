/-
  P20.2: any clock a tick later, and which times came to 0; in how many ticks the first one does: the walk.
-/
import Derived.Test.YteihadheplcccaaAwake20
import Derived.Test.YteihadheplcccaaRefT20
import Derived.Test.YteihadheplcccaaEq20
namespace Go.Proofs.Yteihadheplcccaa.ClockTicks
set_option linter.unusedVariables false
set_option linter.unusedSimpArgs false
open Go.RowKit

theorem ints_go {w : World} {B : Nat} {A : Option Addr} {n c : Nat} {z : List Int} (h : OwnI w B (.slice A n c) z) : ∀ W, Below w.heap.size w W → IntsAt W W.heap.size A z := fun W hb => h.at.go hb
def LRel (W1 : World) (a b c : Int) (f i : Value) (wr : World) : Prop := W1 = wr ∧ ∃ (j : Nat) (F : Int), j ≤ 3 ∧ i = .int .i64 (j : Int) ∧ f = .int .i64 F ∧ Hid (F = fstN ⟨a, b, c⟩ j)
set_option maxRecDepth 100000 in
set_option maxHeartbeats 12800000 in
theorem walk (a b c : Int) (w : World) (ht : (⟨a, b, c⟩ : Tri).I64) :
    Calls Try.prog 4 #[.agg #[.int .i64 a, .int .i64 b, .int .i64 c]] w fun e w' => e = .returned (.bool true) ∧ Below w.heap.size w w' := by
  have Q1 := Lib.hid (fun W => Tick_any a b c W ht)
  have Q2 := Lib.hid (fun W => RefTick_any a b c W ht)
  have Q3 := Lib.hid (fun W => First_any a b c W)
  have Q4 := Lib.hid (fun W => awake20_any W)
  have HZL := Lib.hid (endN_len 1 ⟨a, b, c⟩ 3)
  obtain ⟨⟨x, y, s⟩, hT⟩ : ∃ t, t = passN 1 ⟨a, b, c⟩ 3 := ⟨_, rfl⟩
  obtain ⟨z, hzz⟩ : ∃ z, z = endN 1 ⟨a, b, c⟩ 3 := ⟨_, rfl⟩
  rw [← hT, ← hzz] at Q1 Q2
  rw [← hzz] at HZL
  have q1 := fun W => eq3 x y s W
  have hb0 : Below w.heap.size w (w.alloc (.cells #[.int .i64 a, .int .i64 b, .int .i64 c] 22)) := (Below.refl _ _).alloc (Nat.le_refl _) _
  have k1 := Blk.new w 22 [.int .i64 a, .int .i64 b, .int .i64 c]
  have K1 := Lib.hid k1; have HB0 := Lib.hid hb0
  have c1 := cells3 k1
  clear hT hzz ht k1 hb0
  go_enter Try.func4, Try.ntmps4
  go_wp2_with fail
  refine (Q1.out _).mono ?_
  rintro e w1 ⟨A1, d1, rfl, ho1, hb1⟩
  have HI1 := Lib.hid (ints_go ho1)
  have HB1 := Lib.hid (HB0.out.trans (hb1.mono HB0.out.size))
  have k2 := K1.out.below hb1 K1.out.lt
  have HK2 := Lib.hid k2
  have HAL1 := Lib.hid (show Below w1.heap.size w1 (w1.alloc (.cells #[.int .i64 x, .int .i64 y, .int .i64 s] 24)) from (Below.refl _ _).alloc (Nat.le_refl _) _)
  have k3 := Blk.new w1 24 [.int .i64 x, .int .i64 y, .int .i64 s]
  have HK3 := Lib.hid k3
  have HK2a := Lib.hid (k2.below HAL1.out k2.lt)
  have c2 := cells3 k2
  have l1 : w.heap.size < w1.heap.size := k2.lt
  clear ho1 hb1 k2 k3 c1
  go_wp2_with fail
  refine (Q2.out _).mono ?_
  rintro e w2 ⟨A2, d2, rfl, ho2, hb2⟩
  have HI2 := Lib.hid (ints_go ho2)
  have HI1b := Lib.hid (fun W (h : Below w2.heap.size w2 W) => HI1.out W (HAL1.out.trans ((hb2.mono HAL1.out.size).trans (h.mono (Nat.le_trans HAL1.out.size hb2.size)))))
  have HB2 := Lib.hid ((HB1.out.trans (HAL1.out.mono HB1.out.size)).trans (hb2.mono (Nat.le_trans HB1.out.size HAL1.out.size)))
  obtain ⟨W2, hW2⟩ : ∃ W2, W2 = w2.alloc (.cells #[.int .i64 x, .int .i64 y, .int .i64 s] 22) := ⟨_, rfl⟩
  have hal2 : Below w2.heap.size w2 W2 := by rw [hW2]; exact (Below.refl _ _).alloc (Nat.le_refl _) _
  have k1 := (HK2a.out.below hb2 HK2a.out.lt).below hal2 (HK2a.out.below hb2 HK2a.out.lt).lt
  have k3 := (HK3.out.below hb2 HK3.out.lt).below hal2 (HK3.out.below hb2 HK3.out.lt).lt
  have k5 : Blk W2 w2.heap.size 22 [.int .i64 x, .int .i64 y, .int .i64 s] := by rw [hW2]; exact Blk.new _ _ _
  have c1 := cells3 k1; have c3 := cells3 k3; have c5 := cells3 k5
  have HK1 := Lib.hid k1; have HK3 := Lib.hid k3; have HK5 := Lib.hid k5
  have HAL2 := Lib.hid hal2
  have HWE := Lib.hid hW2
  clear ho2 hb2 k1 k3 k5 hal2 hW2 c2 HK2 HK2a
  go_wp2_with fail
  rw [← HWE.out]
  go_loopw [7, 8] (fun f i wr => LRel W2 a b c f i wr) (fun _ i _ => 3 - (intOf i).toNat)
  case atStart => exact ⟨rfl, 0, 0, by omega, rfl, rfl, Lib.hid rfl⟩
  case round =>
    obtain ⟨rfl, j, F, hj, rfl, rfl, HF⟩ := hrel
    rcases (show j = 0 ∨ j = 1 ∨ j = 2 ∨ j = 3 by omega) with rfl | rfl | rfl | rfl
    · have HN := Lib.hid (show fstN ⟨a, b, c⟩ 1 = fst2 F a by rw [HF.out]; rfl)
      by_cases h0 : 0 < a
      · have d0 : decide (0 < a) = true := by simpa using h0
        by_cases hf : F = 0
        · have d1 : (F == 0) = true := by simpa using hf
          have HV := Lib.hid (show fst2 F a = a by unfold fst2; rw [if_pos ⟨h0, .inl hf⟩])
          clear hf
          go_wp2_with fail
          go_roundw
          case rel => exact ⟨rfl, 1, a, by omega, by go_num, rfl, Lib.hid (by rw [HN.out, HV.out])⟩
          case measure => simp [intOf]

        · have d1 : (F == 0) = false := by simpa using hf
          by_cases hl : a < F
          · have HV := Lib.hid (show fst2 F a = a by unfold fst2; rw [if_pos ⟨h0, .inr hl⟩])
            clear hf
            go_wp2_with fail
            go_roundw
            case rel => exact ⟨rfl, 1, a, by omega, by go_num, rfl, Lib.hid (by rw [HN.out, HV.out])⟩
            case measure => simp [intOf]

          · have d2 : decide (a < F) = false := by simpa using hl
            have HV := Lib.hid (show fst2 F a = F by unfold fst2; rw [if_neg (fun q => q.2.elim hf hl)])
            clear hf
            go_wp2_with fail
            go_roundw
            case rel => exact ⟨rfl, 1, F, by omega, by go_num, rfl, Lib.hid (by rw [HN.out, HV.out])⟩
            case measure => simp [intOf]

      · have d0 : decide (0 < a) = false := by simpa using h0
        have HV := Lib.hid (show fst2 F a = F by unfold fst2; rw [if_neg (fun q => h0 q.1)])
        go_wp2_with fail
        go_roundw
        case rel => exact ⟨rfl, 1, F, by omega, by go_num, rfl, Lib.hid (by rw [HN.out, HV.out])⟩
        case measure => simp [intOf]

    · have HN := Lib.hid (show fstN ⟨a, b, c⟩ 2 = fst2 F b by rw [HF.out]; rfl)
      by_cases h0 : 0 < b
      · have d0 : decide (0 < b) = true := by simpa using h0
        by_cases hf : F = 0
        · have d1 : (F == 0) = true := by simpa using hf
          have HV := Lib.hid (show fst2 F b = b by unfold fst2; rw [if_pos ⟨h0, .inl hf⟩])
          clear hf
          go_wp2_with fail
          go_roundw
          case rel => exact ⟨rfl, 2, b, by omega, by go_num, rfl, Lib.hid (by rw [HN.out, HV.out])⟩
          case measure => simp [intOf]

        · have d1 : (F == 0) = false := by simpa using hf
          by_cases hl : b < F
          · have HV := Lib.hid (show fst2 F b = b by unfold fst2; rw [if_pos ⟨h0, .inr hl⟩])
            clear hf
            go_wp2_with fail
            go_roundw
            case rel => exact ⟨rfl, 2, b, by omega, by go_num, rfl, Lib.hid (by rw [HN.out, HV.out])⟩
            case measure => simp [intOf]

          · have d2 : decide (b < F) = false := by simpa using hl
            have HV := Lib.hid (show fst2 F b = F by unfold fst2; rw [if_neg (fun q => q.2.elim hf hl)])
            clear hf
            go_wp2_with fail
            go_roundw
            case rel => exact ⟨rfl, 2, F, by omega, by go_num, rfl, Lib.hid (by rw [HN.out, HV.out])⟩
            case measure => simp [intOf]

      · have d0 : decide (0 < b) = false := by simpa using h0
        have HV := Lib.hid (show fst2 F b = F by unfold fst2; rw [if_neg (fun q => h0 q.1)])
        go_wp2_with fail
        go_roundw
        case rel => exact ⟨rfl, 2, F, by omega, by go_num, rfl, Lib.hid (by rw [HN.out, HV.out])⟩
        case measure => simp [intOf]

    · have HN := Lib.hid (show fstN ⟨a, b, c⟩ 3 = fst2 F c by rw [HF.out]; rfl)
      by_cases h0 : 0 < c
      · have d0 : decide (0 < c) = true := by simpa using h0
        by_cases hf : F = 0
        · have d1 : (F == 0) = true := by simpa using hf
          have HV := Lib.hid (show fst2 F c = c by unfold fst2; rw [if_pos ⟨h0, .inl hf⟩])
          clear hf
          go_wp2_with fail
          go_roundw
          case rel => exact ⟨rfl, 3, c, by omega, by go_num, rfl, Lib.hid (by rw [HN.out, HV.out])⟩
          case measure => simp [intOf]

        · have d1 : (F == 0) = false := by simpa using hf
          by_cases hl : c < F
          · have HV := Lib.hid (show fst2 F c = c by unfold fst2; rw [if_pos ⟨h0, .inr hl⟩])
            clear hf
            go_wp2_with fail
            go_roundw
            case rel => exact ⟨rfl, 3, c, by omega, by go_num, rfl, Lib.hid (by rw [HN.out, HV.out])⟩
            case measure => simp [intOf]

          · have d2 : decide (c < F) = false := by simpa using hl
            have HV := Lib.hid (show fst2 F c = F by unfold fst2; rw [if_neg (fun q => q.2.elim hf hl)])
            clear hf
            go_wp2_with fail
            go_roundw
            case rel => exact ⟨rfl, 3, F, by omega, by go_num, rfl, Lib.hid (by rw [HN.out, HV.out])⟩
            case measure => simp [intOf]

      · have d0 : decide (0 < c) = false := by simpa using h0
        have HV := Lib.hid (show fst2 F c = F by unfold fst2; rw [if_neg (fun q => h0 q.1)])
        go_wp2_with fail
        go_roundw
        case rel => exact ⟨rfl, 3, F, by omega, by go_num, rfl, Lib.hid (by rw [HN.out, HV.out])⟩
        case measure => simp [intOf]

    · rw [← HF.out] at Q3
      have lz : w2.heap.size < W2.heap.size := HK5.out.lt
      have HB3 := Lib.hid (HB2.out.trans (HAL2.out.mono HB2.out.size))
      have HA4 := Lib.hid (show Below W2.heap.size W2 (W2.alloc (.cells #[.int .i64 a, .int .i64 b, .int .i64 c] 24)) from (Below.refl _ _).alloc (Nat.le_refl _) _)
      have l3 : w1.heap.size < W2.heap.size := HK3.out.lt
      have QS := Lib.hid (fun W (h : Below W2.heap.size W2 W) => Same20_any A1 A2 d1 d2 z W (by have := HZL.out; omega) (HI1b.out W (HAL2.out.trans (h.mono HAL2.out.size))) (HI2.out W (HAL2.out.trans (h.mono HAL2.out.size))))
      go_wp2_with fail
      refine (QS.out _ HA4.out).mono ?_
      rintro e w3 ⟨rfl, n, hn⟩
      subst hn
      go_wp2_with fail
      refine (Q3.out _).mono ?_
      rintro e w4 ⟨rfl, hb4⟩
      have HB4 := Lib.hid ((HB3.out.trans (HA4.out.mono HB3.out.size)).trans ((below_drewN (Below.refl _ _) n).trans (hb4.mono (Nat.le_trans HB3.out.size HA4.out.size))))
      clear hb4
      go_wp2_with fail
      refine (Q4.out _).mono ?_
      rintro e w5 ⟨rfl, hb5⟩
      have HB5 := Lib.hid (HB4.out.trans (hb5.mono HB4.out.size))
      clear hb5
      go_wp2_with fail
      go_ret
      exact ⟨rfl, HB5.out⟩
end Go.Proofs.Yteihadheplcccaa.ClockTicks

/-
  P20.2, P20.3: any clock any ticks later, up to the first that comes to 0, is one that ticked so often: the walk.
-/
import Derived.Test.YteihadheplcccaaAwake20
import Derived.Test.YteihadheplcccaaRefK20
import Derived.Test.YteihadheplcccaaEq20
namespace Go.Proofs.Yteihadheplcccaa.ClockSkips
set_option linter.unusedVariables false
set_option linter.unusedSimpArgs false
open Go.RowKit

theorem ints_go {w : World} {B : Nat} {A : Option Addr} {n c : Nat} {z : List Int} (h : OwnI w B (.slice A n c) z) : ∀ W, Below w.heap.size w W → IntsAt W W.heap.size A z := fun W hb => h.at.go hb
set_option maxRecDepth 100000 in
set_option maxHeartbeats 12800000 in
theorem walk (a b c n : Int) (w : World) (ht : (⟨a, b, c⟩ : Tri).I64) :
    Calls Try.prog 5 #[.agg #[.int .i64 a, .int .i64 b, .int .i64 c], .int .i64 n] w fun e w' => e = .returned (.bool true) ∧ Below w.heap.size w w' := by
  have Q4 := Lib.hid (fun W => awake20_any W)
  have hb0 : Below w.heap.size w (w.alloc (.cells #[.int .i64 a, .int .i64 b, .int .i64 c] 22)) := (Below.refl _ _).alloc (Nat.le_refl _) _
  have HB0 := Lib.hid hb0
  by_cases hn : 5000 < n
  · clear hb0
    go_enter Try.func5, Try.ntmps5
    go_wp2_with fail
    refine (Q4.out _).mono ?_
    rintro e w5 ⟨rfl, hb5⟩
    have HB5 := Lib.hid (HB0.out.trans (hb5.mono HB0.out.size))
    clear hb5
    go_wp2_with fail
    go_ret
    exact ⟨rfl, HB5.out⟩
  have Q1 := Lib.hid (fun W => Skip_any a b c n W ht)
  have Q2 := Lib.hid (fun W => RefSkip_any a b c n W ht (by omega))
  obtain ⟨K, hK⟩ : ∃ K, K = skipK (fstN ⟨a, b, c⟩ 3) n := ⟨_, rfl⟩
  rw [← hK] at Q1 Q2
  have HZL := Lib.hid (endN_len K ⟨a, b, c⟩ 3)
  obtain ⟨⟨x, y, s⟩, hT⟩ : ∃ t, t = passN K ⟨a, b, c⟩ 3 := ⟨_, rfl⟩
  obtain ⟨z, hzz⟩ : ∃ z, z = endN K ⟨a, b, c⟩ 3 := ⟨_, rfl⟩
  rw [← hT, ← hzz] at Q1 Q2
  rw [← hzz] at HZL
  have q1 := fun W => eq3 x y s W
  have k1 := Blk.new w 22 [.int .i64 a, .int .i64 b, .int .i64 c]
  have K1 := Lib.hid k1
  have c1 := cells3 k1
  clear hT hzz ht k1 hb0 hK
  go_enter Try.func5, Try.ntmps5
  go_wp2_with fail
  refine (Q1.out _).mono ?_
  rintro e w1 ⟨A1, d1, rfl, ho1, hb1⟩
  have HI1 := Lib.hid (ints_go ho1)
  have HB1 := Lib.hid (HB0.out.trans (hb1.mono HB0.out.size))
  have k2 := K1.out.below hb1 K1.out.lt
  have HAL1 := Lib.hid (show Below w1.heap.size w1 (w1.alloc (.cells #[.int .i64 x, .int .i64 y, .int .i64 s] 24)) from (Below.refl _ _).alloc (Nat.le_refl _) _)
  have k3 := Blk.new w1 24 [.int .i64 x, .int .i64 y, .int .i64 s]
  have HK3 := Lib.hid k3
  have c2 := cells3 k2
  have l1 : w.heap.size < w1.heap.size := k2.lt
  clear ho1 hb1 k2 k3 c1
  go_wp2_with fail
  refine (Q2.out _).mono ?_
  rintro e w2 ⟨A2, d2, rfl, ho2, hb2⟩
  have HI2 := Lib.hid (ints_go ho2)
  have HI1b := Lib.hid (fun W (h : Below w2.heap.size w2 W) => HI1.out W (HAL1.out.trans ((hb2.mono HAL1.out.size).trans (h.mono (Nat.le_trans HAL1.out.size hb2.size)))))
  have HB2 := Lib.hid ((HB1.out.trans (HAL1.out.mono HB1.out.size)).trans (hb2.mono (Nat.le_trans HB1.out.size HAL1.out.size)))
  have k3 := HK3.out.below hb2 HK3.out.lt
  have c3 := cells3 k3
  have l3 : w1.heap.size < w2.heap.size := k3.lt
  have HA4 := Lib.hid (show Below w2.heap.size w2 (w2.alloc (.cells #[.int .i64 x, .int .i64 y, .int .i64 s] 22)) from (Below.refl _ _).alloc (Nat.le_refl _) _)
  have QS := Lib.hid (fun W (h : Below w2.heap.size w2 W) => Same20_any A1 A2 d1 d2 z W (by have := HZL.out; omega) (HI1b.out W h) (HI2.out W h))
  clear ho2 hb2 k3 c2
  go_wp2_with fail
  refine (QS.out _ HA4.out).mono ?_
  rintro e w3 ⟨rfl, m, hm⟩
  subst hm
  have HB4 := Lib.hid (below_drewN (HB2.out.trans (HA4.out.mono HB2.out.size)) m)
  go_wp2_with fail
  refine (Q4.out _).mono ?_
  rintro e w5 ⟨rfl, hb5⟩
  have HB5 := Lib.hid (HB4.out.trans (hb5.mono HB4.out.size))
  clear hb5
  go_wp2_with fail
  go_ret
  exact ⟨rfl, HB5.out⟩
end Go.Proofs.Yteihadheplcccaa.ClockSkips

/-
  The document's clock some ticks later, tick by tick.
-/
import Derived.Test.YteihadheplcccaaRefT20
import Derived.Test.YteihadheplcccaaSk20
namespace Go.Proofs.Yteihadheplcccaa
set_option linter.unusedVariables false
set_option linter.unusedSimpArgs false
open Go.RowKit

def RSkipRel (w : World) (t : Tri) (n : Int) (i : Value) (wr : World) : Prop :=
  Below w.heap.size w wr ∧ ∃ j : Nat, j ≤ 5000 ∧ ((j : Int) ≤ n ∨ j = 0) ∧ i = .int .i64 (j : Int) ∧ Alive j t ∧ Blk wr (w.heap.size + 1) 22 [.int .i64 0, .int .i64 0, .int .i64 0] ∧ Blk wr (w.heap.size + 2) 22 (triL (passN j t 3))
set_option maxRecDepth 100000 in
set_option maxHeartbeats 12800000 in
theorem RefSkip_any (a b c n : Int) (w : World) (ht : (⟨a, b, c⟩ : Tri).I64) (hn : n ≤ 5000) :
    Calls Try.prog 16 #[.agg #[.int .i64 a, .int .i64 b, .int .i64 c], .int .i64 n] w (SkipPost w (passN (skipK (fstN ⟨a, b, c⟩ 3) n) ⟨a, b, c⟩ 3) (endN (skipK (fstN ⟨a, b, c⟩ 3) n) ⟨a, b, c⟩ 3) (skipK (fstN ⟨a, b, c⟩ 3) n)) := by
  obtain ⟨hb0, k1, k2, k3, hz⟩ := box3 w (.int .i64 a) (.int .i64 b) (.int .i64 c) (.int .i64 0) (.int .i64 0) (.int .i64 0) (.int .i64 a) (.int .i64 b) (.int .i64 c) 22 22 22
  have HB := Lib.hid hb0; have K1 := Lib.hid k1; have K2 := Lib.hid k2; have K3 := Lib.hid k3; have HZ := Lib.hid hz
  clear hb0 k1 k2 k3 hz
  have HTT := Lib.hid ht
  obtain ⟨T, hT⟩ : ∃ t : Tri, t = ⟨a, b, c⟩ := ⟨_, rfl⟩
  have K3a := Lib.hid (show Blk _ (w.heap.size + 2) 22 (triL (passN 0 T 3)) by rw [pass_zero, hT]; exact K3.out)
  rw [← hT] at HTT ⊢
  clear ht hT
  go_enter Try.func16, Try.ntmps16
  go_wp2_with fail
  go_loopw [8] (fun i wr => RSkipRel w T n i wr) (fun i _ => (n - intOf i).toNat)
  case atStart => exact ⟨HB.out, 0, by omega, .inr rfl, rfl, alive_zero _, K2.out, K3a.out⟩
  case round =>
    clear HB K1 K2 K3 K3a
    obtain ⟨hbr, j, hj, hjn, rfl, hal, k2, k3⟩ := hrel
    obtain ⟨⟨x, y, z⟩, hP⟩ : ∃ t, t = passN j T 3 := ⟨_, rfl⟩
    rw [← hP] at k3
    replace k3 : Blk wr (w.heap.size + 2) 22 [.int .i64 x, .int .i64 y, .int .i64 z] := k3
    have HB := Lib.hid hbr; have K2 := Lib.hid k2; have K3 := Lib.hid k3; have HAL := Lib.hid hal
    have c3 := cells3 k3
    have HZ2 := Lib.hid (show w.heap.size + 3 ≤ wr.heap.size from k3.lt)
    by_cases hlt : (j : Int) < n
    · have Q := Lib.hid (fun W => RefTick_any x y z W (by rw [hP]; exact pass_i64 (by omega) hal HTT.out))
      have e1 : passN 1 ⟨x, y, z⟩ 3 = passN ((j + 1 : Nat) : Int) T 3 := by rw [hP]; exact tick_pass j T (by omega) hal
      have e2 : endN 1 ⟨x, y, z⟩ 3 = endN ((j + 1 : Nat) : Int) T 3 := by rw [hP]; exact tick_end j T (by omega) hal
      rw [e1, e2] at Q
      have HH := Lib.hid (fun (h : endN ((j + 1 : Nat) : Int) T 3 ≠ []) => show skipK (fstN T 3) n = ((j + 1 : Nat) : Int) from skip_hit (by omega) hal hlt h)
      have HS := Lib.hid (fun (h : endN ((j + 1 : Nat) : Int) T 3 = []) => show Alive ((j + 1 : Nat) : Int) T from alive_step hal h)
      have hj1 : j + 1 ≤ 5000 := by omega
      obtain ⟨⟨x1, y1, z1⟩, hP1⟩ : ∃ t, t = passN ((j + 1 : Nat) : Int) T 3 := ⟨_, rfl⟩
      obtain ⟨zz, hE⟩ : ∃ z, z = endN ((j + 1 : Nat) : Int) T 3 := ⟨_, rfl⟩
      rw [← hP1, ← hE] at Q
      rw [← hE] at HH HS
      have HP1 := Lib.hid hP1; have HE := Lib.hid hE
      clear hP hP1 hE e1 e2 hbr k2 k3 hal
      go_wp2_with fail
      refine (Q.out _).mono ?_
      rintro e w1 ⟨A1, c1, rfl, ho, hb1⟩
      have k2 := K2.out.below hb1 K2.out.lt
      have k3 := K3.out.below hb1 K3.out.lt
      have f3 := free3 k3; have g3 := cells3 k3
      have k3n := Blk.set3 (.int .i64 x1) (.int .i64 y1) (.int .i64 z1) k3
      have k2n := ((k2.other (i := 0) (u := .int .i64 x1) (show w.heap.size + 1 ≠ w.heap.size + 2 by omega)).other (i := 1) (u := .int .i64 y1) (show w.heap.size + 1 ≠ w.heap.size + 2 by omega)).other (i := 2) (u := .int .i64 z1) (show w.heap.size + 1 ≠ w.heap.size + 2 by omega)
      have hbn : Below (((w1.setCell ⟨w.heap.size + 2, 0, none⟩ (.int .i64 x1)).setCell ⟨w.heap.size + 2, 1, none⟩ (.int .i64 y1)).setCell ⟨w.heap.size + 2, 2, none⟩ (.int .i64 z1)).heap.size (((w1.setCell ⟨w.heap.size + 2, 0, none⟩ (.int .i64 x1)).setCell ⟨w.heap.size + 2, 1, none⟩ (.int .i64 y1)).setCell ⟨w.heap.size + 2, 2, none⟩ (.int .i64 z1)) ((((w1.setCell ⟨w.heap.size + 2, 0, none⟩ (.int .i64 x1)).setCell ⟨w.heap.size + 2, 1, none⟩ (.int .i64 y1)).setCell ⟨w.heap.size + 2, 2, none⟩ (.int .i64 z1)).alloc (.cells #[.int .i64 x1, .int .i64 y1, .int .i64 z1] 22)) := (Below.refl _ _).alloc (Nat.le_refl _) _
      have k3m := k3n.below hbn k3n.lt
      have k2m := k2n.below hbn k2n.lt
      have hsz : w.heap.size + 2 < w1.heap.size := by have := HZ2.out; have := hb1.size; omega
      have HB1 := Lib.hid (HB.out.trans (hb1.mono HB.out.size))
      have hb2 : Below w.heap.size w (((w1.setCell ⟨w.heap.size + 2, 0, none⟩ (.int .i64 x1)).setCell ⟨w.heap.size + 2, 1, none⟩ (.int .i64 y1)).setCell ⟨w.heap.size + 2, 2, none⟩ (.int .i64 z1)) := below_set3' HB1.out (by omega)
      have HB2 := Lib.hid (show Below w.heap.size w ((((w1.setCell ⟨w.heap.size + 2, 0, none⟩ (.int .i64 x1)).setCell ⟨w.heap.size + 2, 1, none⟩ (.int .i64 y1)).setCell ⟨w.heap.size + 2, 2, none⟩ (.int .i64 z1)).alloc (.cells #[.int .i64 x1, .int .i64 y1, .int .i64 z1] 22)) from hb2.alloc hb2.size _)
      have HO := Lib.hid (((((ho.lower (B' := w.heap.size + 3) HZ2.out).setBelow (g := w.heap.size + 2) (i := 0) (by omega) (.int .i64 x1)).setBelow (g := w.heap.size + 2) (i := 1) (by omega) (.int .i64 y1)).setBelow (g := w.heap.size + 2) (i := 2) (by omega) (.int .i64 z1)).alloc (.cells #[.int .i64 x1, .int .i64 y1, .int .i64 z1] 22))
      have HK2 := Lib.hid k2m; have HK3 := Lib.hid k3m
      have m3 := cells3 k3m
      by_cases hz : zz = []
      · have HA := Lib.hid (HS.out hz)
        subst hz
        clear ho hb1 k2 k3 c3 k3n k2n hbn k3m k2m hb2
        go_wp2_with fail
        go_roundw
        case rel => exact ⟨HB2.out, j + 1, hj1, .inl (by omega), by go_num, HA.out, HK2.out, by rw [← HP1.out]; exact HK3.out⟩
        case measure => simp [intOf]; omega
      · have HA := Lib.hid (HH.out hz)
        have hl0 : 0 < zz.length := List.length_pos_iff.2 hz
        have hl1 : (0 : Int) < (zz.length : Int) := by omega
        have HN := Lib.hid hz
        have fr := free3 k2m; have gr := cells3 k2m
        have r2 := res3 (.int .i64 x1) (.int .i64 y1) (.int .i64 z1) k2m
        clear ho hb1 k2 k3 c3 k3n k2n hbn k3m k2m hb2 hz
        go_wp2_with fail
        refine bodyPost_ret (v := .tuple #[.agg #[.int .i64 x1, .int .i64 y1, .int .i64 z1], .slice A1 zz.length c1, .int .i64 ((j + 1 : Nat) : Int)]) (by simp [results, Try.results16, go_sem, r2.1, r2.2.1, r2.2.2]) rfl ?_
        rw [HA.out, ← HE.out, ← HP1.out]
        exact ⟨A1, c1, rfl, ((((HO.out.setBelow (g := w.heap.size + 1) (i := 0) (by omega) (.int .i64 x1)).setBelow (g := w.heap.size + 1) (i := 1) (by omega) (.int .i64 y1)).setBelow (g := w.heap.size + 1) (i := 2) (by omega) (.int .i64 z1)).lower (by omega)), below_set3' HB2.out (Nat.le_succ _)⟩
    · have f2 := free3 k2; have c2 := cells3 k2
      have r2 := res3 (.int .i64 x) (.int .i64 y) (.int .i64 z) k2
      have HN := Lib.hid (fun (W : World) => OwnI.nil W w.heap.size)
      by_cases hneg : n < 0
      · obtain rfl : j = 0 := by omega
        have HA := Lib.hid (skip_none (t := T) hneg)
        have HP := Lib.hid (show (⟨x, y, z⟩ : Tri) = passN 0 T 3 from hP)
        clear hP hbr k2 k3 hal
        go_wp2_with fail
        refine bodyPost_ret (v := .tuple #[.agg #[.int .i64 x, .int .i64 y, .int .i64 z], .slice none 0 0, .int .i64 0]) (by simp [results, Try.results16, go_sem, r2.1, r2.2.1, r2.2.2]) rfl ?_
        rw [HA.out.1, HA.out.2, ← HP.out]
        exact ⟨none, 0, rfl, HN.out _, below_set3' HB.out (Nat.le_succ _)⟩
      · have hjn2 : (j : Int) = n := by omega
        have HA := Lib.hid (skip_whole (t := T) hneg (by rw [← hjn2]; exact hal))
        have HP := Lib.hid (show (⟨x, y, z⟩ : Tri) = passN n T 3 by rw [hP, hjn2])
        clear hP hbr k2 k3 hal hjn2
        go_wp2_with fail
        refine bodyPost_ret (v := .tuple #[.agg #[.int .i64 x, .int .i64 y, .int .i64 z], .slice none 0 0, .int .i64 n]) (by simp [results, Try.results16, go_sem, r2.1, r2.2.1, r2.2.2]) rfl ?_
        rw [HA.out.1, HA.out.2, ← HP.out]
        exact ⟨none, 0, rfl, HN.out _, below_set3' HB.out (Nat.le_succ _)⟩
end Go.Proofs.Yteihadheplcccaa

/-
  Two OPENs that are the same are told to be.
-/
import Derived.Test.YtpdnpphkkobhgaaFew6
namespace Go.Proofs.Ytpdnpphkkobhgaa
set_option linter.unusedVariables false
set_option linter.unusedSimpArgs false
open Go.RowKit

set_option maxHeartbeats 6400000 in
set_option maxRecDepth 100000 in
theorem RefSameEq_any (ver sys hold id : Int) (A1 A2 : Option Addr) (c1 c2 : Nat) (L1 L2 : List Cp) (w : World) (h1 : CpIn w w.heap.size A1 L1) (h2 : CpIn w w.heap.size A2 L2) (he : L1.map Cp.abs = L2.map Cp.abs) (hl : L1.length ≤ 1152921504606846976) :
    Calls Try.prog 13 #[.agg #[.int .i64 ver, .int .i64 sys, .int .i64 hold, .int .u32 id, .slice A1 L1.length c1], .agg #[.int .i64 ver, .int .i64 sys, .int .i64 hold, .int .u32 id, .slice A2 L2.length c2]] w fun e w' => e = .returned (.bool true) ∧ Below w.heap.size w w' := by
  have hln : L2.length = L1.length := by have := congrArg List.length he; simpa using this.symm
  rw [hln]
  have hb1 := (Below.refl w.heap.size w).alloc (Nat.le_refl _) (.cells #[.int .i64 ver, .int .i64 sys, .int .i64 hold, .int .u32 id, .slice A1 L1.length c1] 25)
  have hb2 := hb1.alloc (by simp) (.cells #[.int .i64 ver, .int .i64 sys, .int .i64 hold, .int .u32 id, .slice A2 L1.length c2] 25)
  have hz : (w.alloc (.cells #[.int .i64 ver, .int .i64 sys, .int .i64 hold, .int .u32 id, .slice A1 L1.length c1] 25)).heap.size = w.heap.size + 1 := by simp
  have kA := (Blk.new w 25 [.int .i64 ver, .int .i64 sys, .int .i64 hold, .int .u32 id, .slice A1 L1.length c1]).below ((Below.refl _ _).alloc (Nat.le_refl _) (.cells #[.int .i64 ver, .int .i64 sys, .int .i64 hold, .int .u32 id, .slice A2 L1.length c2] 25)) (by simp)
  have kB := Blk.new (w.alloc (.cells #[.int .i64 ver, .int .i64 sys, .int .i64 hold, .int .u32 id, .slice A1 L1.length c1] 25)) 25 [.int .i64 ver, .int .i64 sys, .int .i64 hold, .int .u32 id, .slice A2 L1.length c2]
  rw [hz] at kB
  have a0 : World.cell? _ ⟨w.heap.size, 0, none⟩ = some _ := kA.cell 0
  have a1 : World.cell? _ ⟨w.heap.size, 1, none⟩ = some _ := kA.cell 1
  have a2 : World.cell? _ ⟨w.heap.size, 2, none⟩ = some _ := kA.cell 2
  have a3 : World.cell? _ ⟨w.heap.size, 3, none⟩ = some _ := kA.cell 3
  have a4 : World.cell? _ ⟨w.heap.size, 4, none⟩ = some _ := kA.cell 4
  have b0 : World.cell? _ ⟨w.heap.size + 1, 0, none⟩ = some _ := kB.cell 0
  have b1 : World.cell? _ ⟨w.heap.size + 1, 1, none⟩ = some _ := kB.cell 1
  have b2 : World.cell? _ ⟨w.heap.size + 1, 2, none⟩ = some _ := kB.cell 2
  have b3 : World.cell? _ ⟨w.heap.size + 1, 3, none⟩ = some _ := kB.cell 3
  have b4 : World.cell? _ ⟨w.heap.size + 1, 4, none⟩ = some _ := kB.cell 4
  have H1 := Lib.hid (h1.below hb2 (Nat.le_refl _)); have H2 := Lib.hid (h2.below hb2 (Nat.le_refl _))
  have HB2 := Lib.hid hb2; have HA4 := Lib.hid a4; have HB4 := Lib.hid b4; have HE := Lib.hid he; have HLN := Lib.hid hln
  clear hb1 hb2 kA kB hz h1 h2 he hln
  go_enter Try.func13, Try.ntmps13
  go_wp2_with fail
  go_loopw [5] (fun i wr' => ∃ j m : Nat, j ≤ L1.length ∧ i = .int .i64 (j : Int) ∧ wr' = World.drewN ((w.alloc (.cells #[.int .i64 ver, .int .i64 sys, .int .i64 hold, .int .u32 id, .slice A1 L1.length c1] 25)).alloc (.cells #[.int .i64 ver, .int .i64 sys, .int .i64 hold, .int .u32 id, .slice A2 L1.length c2] 25)) m) (fun i _ => L1.length - (intOf i).toNat)
  case atStart => exact ⟨0, 0, Nat.zero_le _, rfl, rfl⟩
  case round =>
    obtain ⟨j, m, hjM, rfl, hwr⟩ := hrel
    have HW := Lib.hid hwr
    have e4 : wr.cell? ⟨w.heap.size, 4, none⟩ = some (.slice A1 L1.length c1) := by rw [hwr]; exact HA4.out
    have f4 : wr.cell? ⟨w.heap.size + 1, 4, none⟩ = some (.slice A2 L1.length c2) := by rw [hwr]; exact HB4.out
    by_cases hjl : j < L1.length
    · obtain ⟨s, hs⟩ : ∃ s, L1[j]? = some s := ⟨_, List.getElem?_eq_getElem hjl⟩
      obtain ⟨t, ht⟩ : ∃ t, L2[j]? = some t := ⟨_, List.getElem?_eq_getElem (by rw [HLN.out]; exact hjl)⟩
      obtain ⟨g1, o1, hA1, hg1, k1, k2, hy1⟩ := H1.out.at hs
      obtain ⟨g2, o2, hA2, hg2, k3, k4, hy2⟩ := H2.out.at ht
      have hst : s.abs = t.abs := by
        have h1 := congrArg (fun (x : List (Int × List UInt8)) => x[j]?) HE.out
        simp only [List.getElem?_map, hs, ht, Option.map_some] at h1
        exact Option.some.inj h1
      have hy1' := At.bytes hy1 HB2.out.size
      have hy2' := At.bytes hy2 HB2.out.size
      obtain ⟨sk, sa, sc, sb⟩ := s
      obtain ⟨tk, ta, tc, tb⟩ := t
      simp only [Cp.abs, Prod.mk.injEq] at hst
      obtain ⟨rfl, rfl⟩ := hst
      have hjI : (j : Int) < (L1.length : Int) := by omega
      have d1 : wr.cell? ⟨g1, o1 + j * 2, none⟩ = some (.int .i64 sk) := by rw [hwr]; exact k1
      have d2 : wr.cell? ⟨g1, o1 + j * 2 + 1, none⟩ = some (.slice sa sb.length sc) := by rw [hwr]; exact k2
      have d3 : wr.cell? ⟨g2, o2 + j * 2, none⟩ = some (.int .i64 sk) := by rw [hwr]; exact k3
      have d4 : wr.cell? ⟨g2, o2 + j * 2 + 1, none⟩ = some (.slice ta sb.length tc) := by rw [hwr]; exact k4
      have QN := Lib.hid (fun n => (show Calls Try.prog 11 #[.slice sa sb.length sc, .slice ta sb.length tc] (wr.drewN n) fun e w'' => e = .returned (.bool true) ∧ ∃ q, w'' = wr.drewN q from
        (Same_any sa ta sb.length sb.length sc tc sb sb rfl rfl (wr.drewN n) (by rw [hwr]; exact hy1') (by rw [hwr]; exact hy2')).mono fun e w'' h => ⟨by rw [h.1]; simp, n, h.2.symm⟩))
      subst hA1; subst hA2
      clear hs ht hy1 hy2 hy1' hy2' k1 k2 k3 k4 hwr
      go_wp2_with fail
      go_quiet ((go_at_call 11; exact QN.out _))
      go_wp2_with fail
      go_roundw
      case rel => exact ⟨j + 1, _, by omega, by go_num, by rw [HW.out]; exact World.drewN_drewN _ _ _⟩
      case measure => simp [intOf]; omega
    · obtain rfl : j = L1.length := by omega
      have HB6 := Lib.hid (show Below w.heap.size w wr from by rw [hwr]; exact below_drewN HB2.out m)
      clear hwr
      go_wp2_with fail
      go_ret
      exact ⟨rfl, HB6.out⟩
end Go.Proofs.Ytpdnpphkkobhgaa

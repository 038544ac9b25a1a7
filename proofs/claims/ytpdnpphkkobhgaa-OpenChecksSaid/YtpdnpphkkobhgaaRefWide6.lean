/-
  The wide number that an OPEN says, and the number, by the document.
-/
import Derived.Test.YtpdnpphkkobhgaaCheck6
import Derived.Test.YtpdnpphkkobhgaaRefRB
namespace Go.Proofs.Ytpdnpphkkobhgaa
set_option linter.unusedVariables false
set_option linter.unusedSimpArgs false
open Go.RowKit

set_option maxHeartbeats 3200000 in
theorem RefWide_any (ver sys hold id : Int) (A : Option Addr) (c : Nat) (L : List Cp) (w : World) (h : CpIn w w.heap.size A L) (hl : L.length ≤ 1152921504606846976) (hr : ∀ s ∈ L, s.data.length ≤ s.cap ∧ s.cap ≤ maxLen) :
    Calls Try.prog 17 #[.agg #[.int .i64 ver, .int .i64 sys, .int .i64 hold, .int .u32 id, .slice A L.length c]] w fun e w' => e = .returned (wideV (wideL (L.map Cp.abs))) ∧ Below w.heap.size w w' := by
  have hb0 := (Below.refl w.heap.size w).alloc (Nat.le_refl _) (.cells #[.int .i64 ver, .int .i64 sys, .int .i64 hold, .int .u32 id, .slice A L.length c] 25)
  have HB0 := Lib.hid hb0
  have HS := Lib.hid (h.below hb0 (Nat.le_refl _)); have HR := Lib.hid hr
  have k4 : World.cell? _ ⟨w.heap.size, 4, none⟩ = some _ := (Blk.new w 25 [.int .i64 ver, .int .i64 sys, .int .i64 hold, .int .u32 id, .slice A L.length c]).cell 4
  clear h hr hb0
  go_enter Try.func17, Try.ntmps17
  go_wp2_with fail
  go_loop [4] (fun i => ∃ j : Nat, j ≤ L.length ∧ i = .int .i64 (j : Int) ∧ Hid (∀ x ∈ (L.map Cp.abs).take j, notWide x)) (fun i => L.length - (intOf i).toNat)
  case atStart => exact ⟨0, Nat.zero_le _, rfl, Lib.hid (fun x hx => by simp at hx)⟩
  case round =>
    obtain ⟨j, hj, rfl, hno⟩ := hrel
    by_cases hlt : j < L.length
    · obtain ⟨s, hs⟩ : ∃ s, L[j]? = some s := ⟨_, List.getElem?_eq_getElem hlt⟩
      obtain ⟨b, off, rfl, hb, k1, k2, hy⟩ := HS.out.at hs
      obtain ⟨hsc, hsm⟩ := HR.out s (List.mem_of_getElem? hs)
      have HW := Lib.hid (fun hn => notWide_step hs hno.out hn)
      have HA := Lib.hid (fun hw => wideL_at (L.map Cp.abs) j s.abs (by simp [hs]) hno.out hw)
      obtain ⟨sk, sa, sc, sd⟩ := s
      dsimp only at k1 k2 hy hsc hsm
      have HY := Lib.hid hy
      clear hy hs hno
      by_cases h65 : sk = 65
      · by_cases h4 : sd.length = 4
        · subst h65
          have HA2 := Lib.hid (HA.out ⟨rfl, h4⟩)
          have hnl : num sd ≤ 4294967295 := by have := num_lt 4 sd h4; omega
          have hb1 := (Below.refl (w.alloc (.cells #[.int .i64 ver, .int .i64 sys, .int .i64 hold, .int .u32 id, .slice (some ⟨b, off, none⟩) L.length c] 25)).heap.size _).alloc (Nat.le_refl _) (.cells #[.slice sa sd.length sc, .int .i64 0, .bool false] 74)
          have hk := Blk.new (w.alloc (.cells #[.int .i64 ver, .int .i64 sys, .int .i64 hold, .int .u32 id, .slice (some ⟨b, off, none⟩) L.length c] 25)) 74 [.slice sa sd.length sc, .int .i64 0, .bool false]
          have hz : (w.alloc (.cells #[.int .i64 ver, .int .i64 sys, .int .i64 hold, .int .u32 id, .slice (some ⟨b, off, none⟩) L.length c] 25)).heap.size = w.heap.size + 1 := by simp
          have q := refNum_any 4 w.heap.size (w.heap.size + 1) sd 0 false _ ⟨by omega, sa, sc, by rw [← hz]; exact hk, Nat.zero_le _, hsc, hsm, At.below HY.out hb1 (by rw [hz]; omega)⟩ (by omega) (by omega)
          have e4 : (refTake sd 0 false 4).1 = sd := by
            unfold refTake
            rw [if_pos ⟨rfl, by omega, by simp; omega⟩]
            show (sd.drop 0).take 4 = sd
            rw [List.drop_zero]
            exact List.take_of_length_le (by omega)
          unfold RefNumPost at q
          rw [e4, h4] at q
          rw [h4] at k2 hb1
          have Q := Lib.hid q
          have HB1 := Lib.hid (HB0.out.trans (hb1.mono HB0.out.size))
          clear HW HA HY q e4 hk hz hb1
          go_wp2_with fail
          refine Q.out.mono ?_
          rintro e w2 ⟨rfl, _, hg2⟩
          have HB2 := Lib.hid (HB1.out.grown hg2 HB1.out.size (fun i hi => by cases hi; omega))
          clear hg2 Q
          go_wp2_with fail
          exact bodyPost_ret (v := .tuple #[.int .u32 ((num sd : Nat) : Int), .bool true]) (by simp [results, Try.results17, go_sem]) rfl ⟨by rw [HA2.out]; rfl, HB2.out⟩
        · have hnw := Lib.hid (HW.out (fun e => h4 e.2))
          have h4b : ((sd.length : Int) == 4) = false := by simpa using (by omega : ¬ (sd.length : Int) = 4)
          subst h65
          clear HA HY HW
          go_wp2_with fail
          go_round
          case rel => exact ⟨j + 1, by omega, by go_num, hnw⟩
          case measure => simp [intOf]; omega
      · have hnw := Lib.hid (HW.out (fun e => h65 e.1))
        have h65b : (sk == 65) = false := by simpa using h65
        clear HA HY HW
        go_wp2_with fail
        go_round
        case rel => exact ⟨j + 1, by omega, by go_num, hnw⟩
        case measure => simp [intOf]; omega
    · obtain rfl : j = L.length := by omega
      have hn : wideL (L.map Cp.abs) = none := wideL_no _ (by have h := hno.out; rw [List.take_of_length_le (by simp)] at h; exact h)
      have HN := Lib.hid hn
      clear hn
      go_wp2_with fail
      exact bodyPost_ret (v := .tuple #[.int .u32 0, .bool false]) (by simp [results, Try.results17, go_sem]) rfl ⟨by rw [HN.out]; rfl, HB0.out⟩
set_option maxHeartbeats 1600000 in
theorem RefAS_any (ver sys hold id : Int) (A : Option Addr) (c : Nat) (L : List Cp) (w : World) (h : CpIn w w.heap.size A L) (hl : L.length ≤ 1152921504606846976) (hr : ∀ s ∈ L, s.data.length ≤ s.cap ∧ s.cap ≤ maxLen) :
    Calls Try.prog 19 #[.agg #[.int .i64 ver, .int .i64 sys, .int .i64 hold, .int .u32 id, .slice A L.length c]] w fun e w' => e = .returned (.int .u32 (asN sys (wideL (L.map Cp.abs)))) ∧ Below w.heap.size w w' := by
  have hb0 := (Below.refl w.heap.size w).alloc (Nat.le_refl _) (.cells #[.int .i64 ver, .int .i64 sys, .int .i64 hold, .int .u32 id, .slice A L.length c] 25)
  have kO := Blk.new w 25 [.int .i64 ver, .int .i64 sys, .int .i64 hold, .int .u32 id, .slice A L.length c]
  have k0 : World.cell? _ ⟨w.heap.size, 0, none⟩ = some _ := kO.cell 0
  have k1 : World.cell? _ ⟨w.heap.size, 1, none⟩ = some _ := kO.cell 1
  have k2 : World.cell? _ ⟨w.heap.size, 2, none⟩ = some _ := kO.cell 2
  have k3 : World.cell? _ ⟨w.heap.size, 3, none⟩ = some _ := kO.cell 3
  have k4 : World.cell? _ ⟨w.heap.size, 4, none⟩ = some _ := kO.cell 4
  have q := RefWide_any ver sys hold id A c L _ ((h.below hb0 (Nat.le_refl _)).lift hb0.size) hl hr
  obtain ⟨o, ho⟩ : ∃ o, o = wideL (L.map Cp.abs) := ⟨_, rfl⟩
  rw [← ho] at q ⊢
  have Q := Lib.hid q
  have HB0 := Lib.hid hb0; have HO := Lib.hid kO
  clear h hr hb0 kO ho q
  cases o with
  | some n =>
    unfold wideV at Q
    dsimp only [Option.getD, Option.isSome] at Q
    go_enter Try.func19, Try.ntmps19
    go_wp2_with fail
    refine Q.out.mono ?_
    rintro e w2 ⟨rfl, hb2⟩
    have HB2 := Lib.hid (HB0.out.trans (hb2.mono HB0.out.size))
    clear hb2 Q
    go_wp2_with fail
    go_ret
    exact ⟨rfl, HB2.out⟩
  | none =>
    unfold wideV at Q
    dsimp only [Option.getD, Option.isSome] at Q
    go_enter Try.func19, Try.ntmps19
    go_wp2_with fail
    refine Q.out.mono ?_
    rintro e w2 ⟨rfl, hb2⟩
    have k1b : World.cell? _ ⟨w.heap.size, 1, none⟩ = some _ := (HO.out.below hb2 HO.out.lt).cell 1
    have HB2 := Lib.hid (HB0.out.trans (hb2.mono HB0.out.size))
    clear hb2 Q
    go_wp2_with fail
    go_ret
    exact ⟨rfl, HB2.out⟩
end Go.Proofs.Ytpdnpphkkobhgaa

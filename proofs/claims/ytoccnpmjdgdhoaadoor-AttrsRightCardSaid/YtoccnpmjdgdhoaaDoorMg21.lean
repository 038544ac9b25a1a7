/-
  Texts of this seat, put together: Right3.
-/
import Derived.Test.YtoccnpmjdgdhoaaDoorMg1
/-
  Whether a path may be, by the document.
-/
namespace Go.Proofs.YtoccnpmjdgdhoaaDoor
set_option linter.unusedVariables false
set_option linter.unusedSimpArgs false
open Go.RowKit

set_option maxHeartbeats 3200000 in
theorem RefRight_any (A : Option Addr) (c : Nat) (L : List Sg) (w : World) (h : Segs w w.heap.size A L) (hc : L.length ≤ c) (hm : c ≤ maxLen) (ht : totN L ≤ 1152921504606846976) :
    Calls Tryd.prog 30 #[.slice A L.length c] w fun e w' => e = .returned (.bool (rightB L)) ∧ w = w' := by
  have HS := Lib.hid h; clear h
  by_cases h8 : L.length ≤ 8
  · have h8I : ¬ (8 : Int) < (L.length : Int) := by omega
    go_enter Tryd.func30, Tryd.ntmps30
    go_wp2_with fail
    go_loop [3, 4] (fun n i => ∃ j : Nat, j ≤ L.length ∧ i = .int .i64 (j : Int) ∧ n = .int .i64 ((totN (L.take j) : Nat) : Int) ∧ Hid ((L.take j).all okS = true)) (fun _ i => L.length - (intOf i).toNat)
    case atStart => exact ⟨0, Nat.zero_le _, rfl, by simp [totN], Lib.hid (by simp)⟩
    case round =>
      obtain ⟨j, hj, rfl, rfl, hall⟩ := hrel
      by_cases hlt : j < L.length
      · obtain ⟨s, hs⟩ : ∃ s, L[j]? = some s := ⟨_, List.getElem?_eq_getElem hlt⟩
        obtain ⟨b, off, rfl, hb, k1, k2, hok⟩ := HS.out.at hs
        have HST := Lib.hid (show totN (L.take (j + 1)) = totN (L.take j) + s.nums.length from sum_take hs)
        have hle := sum_take_le (fun s => s.nums.length) L (j + 1)
        have hle2 : totN (L.take j) + s.nums.length ≤ 1152921504606846976 := by rw [← HST.out]; exact Nat.le_trans hle ht
        have HG := Lib.hid (all_take hs hall.out)
        have HB := Lib.hid (right_bad hs)
        have HBG := Lib.hid (fun h => right_big hs h)
        clear hle hok hs hall
        rcases okS_ways s with ⟨h0, h1, h2⟩ | ⟨h0, h1, h2⟩ | ⟨h0, h1, h2⟩ | ⟨h0, h1, h2⟩ | ⟨h0, h1, h2⟩
        · have HA := Lib.hid (HG.out h0)
          have e1 : (s.kind != 1) = false := by simpa using h1
          have e3 : ((s.nums.length : Int) == 0) = false := by simpa using (show ¬ (s.nums.length : Int) = 0 by omega)
          by_cases h64 : s.nums.length ≤ 64
          · have h64I : ¬ (64 : Int) < (s.nums.length : Int) := by omega
            clear h0 h1 h2
            go_wp2_with fail
            go_round
            case rel => exact ⟨j + 1, by omega, by go_num, by rw [HST.out]; go_num, HA⟩
            case measure => simp [intOf]; omega
          · have h64I : (64 : Int) < (s.nums.length : Int) := by omega
            have HE := Lib.hid (HBG.out (by omega))
            clear h0 h1 h2
            go_wp2_with fail
            go_ret
            exact ⟨by rw [HE.out]; rfl, rfl⟩
        · have HA := Lib.hid (HG.out h0)
          have e1 : (s.kind != 1) = true := by simp [h1]
          have e2 : (s.kind != 2) = false := by simpa using h1
          have e3 : ((s.nums.length : Int) == 0) = false := by simpa using (show ¬ (s.nums.length : Int) = 0 by omega)
          by_cases h64 : s.nums.length ≤ 64
          · have h64I : ¬ (64 : Int) < (s.nums.length : Int) := by omega
            clear h0 h1 h2
            go_wp2_with fail
            go_round
            case rel => exact ⟨j + 1, by omega, by go_num, by rw [HST.out]; go_num, HA⟩
            case measure => simp [intOf]; omega
          · have h64I : (64 : Int) < (s.nums.length : Int) := by omega
            have HE := Lib.hid (HBG.out (by omega))
            clear h0 h1 h2
            go_wp2_with fail
            go_ret
            exact ⟨by rw [HE.out]; rfl, rfl⟩
        · have HE := Lib.hid (HB.out h0)
          have e1 : (s.kind != 1) = true := by simpa using h1
          have e2 : (s.kind != 2) = true := by simpa using h2
          clear h0 h1 h2
          go_wp2_with fail
          go_ret
          exact ⟨by rw [HE.out]; rfl, rfl⟩
        · have HE := Lib.hid (HB.out h0)
          have e1 : (s.kind != 1) = false := by simpa using h1
          have e3 : ((s.nums.length : Int) == 0) = true := by simpa using (show (s.nums.length : Int) = 0 by omega)
          clear h0 h1 h2
          go_wp2_with fail
          go_ret
          exact ⟨by rw [HE.out]; rfl, rfl⟩
        · have HE := Lib.hid (HB.out h0)
          have e1 : (s.kind != 1) = true := by simp [h1]
          have e2 : (s.kind != 2) = false := by simpa using h1
          have e3 : ((s.nums.length : Int) == 0) = true := by simpa using (show (s.nums.length : Int) = 0 by omega)
          clear h0 h1 h2
          go_wp2_with fail
          go_ret
          exact ⟨by rw [HE.out]; rfl, rfl⟩
      · obtain rfl : j = L.length := by omega
        have HE := Lib.hid (right_end h8 hall.out)
        have e4 : totN (L.take L.length) = totN L := by rw [List.take_length]
        rw [e4]
        clear hall e4
        go_wp2_with fail
        go_ret
        exact ⟨by rw [HE.out]; simp; omega, rfl⟩
  · have h8I : (8 : Int) < (L.length : Int) := by omega
    have HE := Lib.hid (right_len h8)
    clear h8
    go_enter Tryd.func30, Tryd.ntmps30
    go_wp2_with fail
    go_ret
    exact ⟨by rw [HE.out]; rfl, rfl⟩
end Go.Proofs.YtoccnpmjdgdhoaaDoor

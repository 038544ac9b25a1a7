/-
  Whether two paths are the same, by the document.
-/
import Derived.Test.YtlgfollajodpaaaDoorSameP
namespace Go.Proofs.YtlgfollajodpaaaDoor
set_option linter.unusedVariables false
set_option linter.unusedSimpArgs false
open Go.RowKit

theorem nums_quiet {A A' : Option Addr} {c c' : Nat} {y z : List Nat} {w : World} (h : At32 w w.heap.size A y) (h' : At32 w w.heap.size A' z) (hl : y.length ≤ 9223372036854775807) (n : Nat) :
    Calls Tryd.prog 24 #[.slice A y.length c, .slice A' z.length c'] (w.drewN n) fun e w' => e = .returned (.bool (sameZ y z)) ∧ ∃ k, w' = w.drewN k :=
  (Nums_any A A' c c' y z (w.drewN n) h h' hl).mono fun e w' ⟨he, m, hm⟩ => ⟨he, n + m, by rw [hm]; exact World.drewN_drewN _ _ _⟩

set_option maxHeartbeats 3200000 in
theorem RefSame3_any (A A' : Option Addr) (c c' : Nat) (a b : List Sg) (w : World) (h : Segs w w.heap.size A a) (h' : Segs w w.heap.size A' b) (hl : a.length ≤ 1000000000) :
    Calls Tryd.prog 8 #[.slice A a.length c, .slice A' b.length c'] w fun e w' => e = .returned (.bool (sameP a b)) ∧ ∃ m, w' = w.drewN m := by
  have HS := Lib.hid h; have HS' := Lib.hid h'; clear h h'
  by_cases hlen : a.length = b.length
  · have HL := Lib.hid hlen
    rw [← hlen]
    clear hlen
    go_enter Tryd.func8, Tryd.ntmps8
    go_wp2_with fail
    go_loopw [5] (fun i wr => ∃ (j m : Nat), wr = w.drewN m ∧ j ≤ a.length ∧ i = .int .i64 (j : Int) ∧ Hid ((a.take j).map Sg.abs = (b.take j).map Sg.abs)) (fun i _ => a.length - (intOf i).toNat)
    case atStart => exact ⟨0, 0, rfl, Nat.zero_le _, rfl, Lib.hid rfl⟩
    case round =>
      obtain ⟨j, m, hwr, hj, rfl, hsm⟩ := hrel
      have HW := Lib.hid hwr
      have S1 : Segs wr wr.heap.size A a := by rw [hwr]; exact HS.out
      have S2 : Segs wr wr.heap.size A' b := by rw [hwr]; exact HS'.out
      clear hwr
      by_cases hlt : j < a.length
      · obtain ⟨s, hs⟩ : ∃ s, a[j]? = some s := ⟨_, List.getElem?_eq_getElem hlt⟩
        obtain ⟨t, ht⟩ : ∃ t, b[j]? = some t := ⟨_, List.getElem?_eq_getElem (by rw [← HL.out]; exact hlt)⟩
        obtain ⟨b1, off1, hA1, hb1, k1, k2, hok⟩ := S1.at hs
        obtain ⟨b2, off2, hA2, hb2, k3, k4, hok'⟩ := S2.at ht
        have HST := Lib.hid (sameP_step hs ht hsm.out)
        have hm : s.nums.length ≤ 9223372036854775807 := by have h1 := hok.1; have h2 := hok.2.1; unfold maxLen at h2; omega
        have QN := Lib.hid (fun n => nums_quiet (c := s.cap) (c' := t.cap) (w := wr) hok.2.2.1 hok'.2.2.1 hm n)
        have HJ := Lib.hid hlt
        subst hA1; subst hA2
        clear hs ht hok hok' hsm hm S1 S2
        by_cases hk : s.kind = t.kind
        · have hk1 : (s.kind != t.kind) = false := by simpa using hk
          have HK := Lib.hid (sameS_nums hk)
          clear hk
          cases hss : sameZ s.nums t.nums with
          | true =>
            rw [hss] at QN HK
            have HN := Lib.hid (HST.out.1 HK.out)
            clear hss HST
            go_wp2_with fail
            go_quiet ((go_at_call 24; exact QN.out _))
            go_wp2_with fail
            go_roundw
            case rel => exact ⟨j + 1, _, by rw [HW.out]; exact World.drewN_drewN _ _ _, HJ.out, by go_num, HN⟩
            case measure => have := HJ.out; simp [intOf]; omega
          | false =>
            rw [hss] at QN HK
            have HN := Lib.hid (HST.out.2 HK.out)
            clear hss HST
            go_wp2_with fail
            go_quiet ((go_at_call 24; exact QN.out _))
            go_wp2_with fail
            go_ret
            exact ⟨by rw [HN.out]; rfl, _, by rw [HW.out]; exact World.drewN_drewN _ _ _⟩
        · have hk1 : (s.kind != t.kind) = true := by simpa using hk
          have HN := Lib.hid (HST.out.2 (sameS_kind hk))
          clear hk HST
          go_wp2_with fail
          go_quiet (fail)
          go_wp2_with fail
          go_ret
          exact ⟨by rw [HN.out]; rfl, _, by rw [HW.out]; exact World.drewN_drewN _ _ _⟩
      · obtain rfl : j = a.length := by omega
        have HE := Lib.hid (sameP_end HL.out hsm.out)
        go_wp2_with fail
        go_ret
        exact ⟨by rw [HE.out]; rfl, _, HW.out⟩
  · have hne : ((a.length : Int) != (b.length : Int)) = true := by simp; omega
    have HE := Lib.hid (sameP_len hlen)
    clear hlen
    go_enter Tryd.func8, Tryd.ntmps8
    go_wp2_with fail
    go_ret
    exact ⟨by rw [HE.out]; rfl, 0, rfl⟩
end Go.Proofs.YtlgfollajodpaaaDoor

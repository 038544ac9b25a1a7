/-
  The wide number that an OPEN says, by the code.
-/
import Derived.Test.YtpdnpphkkobhgaaCap6
import Derived.Test.YtpdnpphkkobhgaaU32
namespace Go.Proofs.Ytpdnpphkkobhgaa
set_option linter.unusedVariables false
open Go.RowKit

def notWide (s : Int × List UInt8) : Prop := ¬ (s.1 = 65 ∧ s.2.length = 4)
theorem notWide_step {L : List Cp} {j : Nat} {s : Cp} (hs : L[j]? = some s) (h : ∀ x ∈ (L.map Cp.abs).take j, notWide x) (hn : notWide s.abs) : ∀ x ∈ (L.map Cp.abs).take (j + 1), notWide x := by
  have hj : j < (L.map Cp.abs).length := by simpa using (List.getElem?_eq_some_iff.1 hs).1
  have e : (L.map Cp.abs)[j] = s.abs := by
    have := (List.getElem?_eq_some_iff.1 hs).2
    simp [this]
  rw [List.take_succ_eq_append_getElem hj, e]
  intro x hx
  rcases List.mem_append.1 hx with h1 | h1
  · exact h x h1
  · rw [List.mem_singleton.1 h1]; exact hn
/-- What a search for the wide number tells. -/
def wideV (o : Option Nat) : Value := .tuple #[.int .u32 ((o.getD 0 : Nat) : Int), .bool o.isSome]
set_option maxHeartbeats 3200000 in
theorem Wide_any (ver sys hold id : Int) (A : Option Addr) (c : Nat) (L : List Cp) (w : World) (h : CpIn w w.heap.size A L) (hl : L.length ≤ 1152921504606846976) (hr : ∀ s ∈ L, s.data.length ≤ s.cap ∧ s.cap ≤ maxLen) :
    Calls Try.prog 16 #[.agg #[.int .i64 ver, .int .i64 sys, .int .i64 hold, .int .u32 id, .slice A L.length c]] w fun e w' => e = .returned (wideV (wideL (L.map Cp.abs))) ∧ Below w.heap.size w w' := by
  have hb0 := (Below.refl w.heap.size w).alloc (Nat.le_refl _) (.cells #[.int .i64 ver, .int .i64 sys, .int .i64 hold, .int .u32 id, .slice A L.length c] 25)
  have HB0 := Lib.hid hb0
  have HS := Lib.hid h; have HR := Lib.hid hr
  have k4 : World.cell? _ ⟨w.heap.size, 4, none⟩ = some _ := (Blk.new w 25 [.int .i64 ver, .int .i64 sys, .int .i64 hold, .int .u32 id, .slice A L.length c]).cell 4
  clear h hr hb0
  go_enter Try.func16, Try.ntmps16
  go_wp2_with fail
  go_loopw [9] (fun i wr => Below w.heap.size w wr ∧ ∃ j : Nat, j ≤ L.length ∧ i = .int .i64 (j : Int) ∧ Hid (∀ x ∈ (L.map Cp.abs).take j, notWide x)) (fun i _ => L.length - (intOf i).toNat)
  case atStart => exact ⟨HB0.out, 0, Nat.zero_le _, rfl, Lib.hid (fun x hx => by simp at hx)⟩
  case round =>
    obtain ⟨hbr, j, hj, rfl, hno⟩ := hrel
    have HBR := Lib.hid hbr
    by_cases hlt : j < L.length
    · obtain ⟨s, hs⟩ : ∃ s, L[j]? = some s := ⟨_, List.getElem?_eq_getElem hlt⟩
      obtain ⟨b, off, rfl, hb, k1, k2, hy⟩ := (HS.out.below hbr (Nat.le_refl _)).at hs
      obtain ⟨hsc, hsm⟩ := HR.out s (List.mem_of_getElem? hs)
      have HW := Lib.hid (fun hn => notWide_step hs hno.out hn)
      have HA := Lib.hid (fun hw => wideL_at (L.map Cp.abs) j s.abs (by simp [hs]) hno.out hw)
      obtain ⟨sk, sa, sc, sd⟩ := s
      dsimp only at k1 k2 hy hsc hsm
      have kc := Blk.new wr 54 [.int .i64 sk, .slice sa sd.length sc]
      have c0 : World.cell? _ ⟨wr.heap.size, 0, none⟩ = some _ := kc.cell 0
      have c1 : World.cell? _ ⟨wr.heap.size, 1, none⟩ = some _ := kc.cell 1
      have hb1 := (Below.refl wr.heap.size wr).alloc (Nat.le_refl _) (.cells #[.int .i64 sk, .slice sa sd.length sc] 54)
      have HB1 := Lib.hid (hbr.trans (hb1.mono hbr.size))
      have HY := Lib.hid (At.bytes (At.below hy hb1 hbr.size) (Nat.le_trans hbr.size hb1.size))
      clear kc hb1 hy hs hbr hno
      by_cases h65 : sk = 65
      · by_cases h4 : sd.length = 4
        · subst h65
          have HA2 := Lib.hid (HA.out ⟨rfl, h4⟩)
          have q := New_any sa sd.length sc sd rfl _ HY.out hsc hsm
          have hz0 := HB1.out.size
          have hz : (wr.alloc (.cells #[.int .i64 65, .slice sa sd.length sc] 54)).heap.size = wr.heap.size + 1 := by simp
          rw [hz] at q hz0
          rw [h4] at c1 k2 HB1 q
          have Q := Lib.hid q
          have HZ := Lib.hid hz0
          have hz1 : (wr.alloc (.cells #[.int .i64 65, .slice sa 4 sc] 54)).heap.size = wr.heap.size + 1 := by simp
          have HZ1 := Lib.hid hz1
          clear HW HA HY q hz hz0 hz1
          have e4 : (rdTake sd false 4).1 = sd := by
            unfold rdTake
            rw [if_pos ⟨by omega, by omega⟩]
            exact List.take_of_length_le (by simp; omega)
          have HE4 := Lib.hid e4
          clear e4
          go_wp2_with fail
          refine Q.out.mono ?_
          rintro e w2 ⟨rfl, hrd, hb2⟩
          have QU := Lib.hid (U32_any _ _ sd false w2 hrd)
          have HB2 := Lib.hid (HB1.out.trans ((by rw [HZ1.out]; exact hb2 : Below (wr.alloc (.cells #[.int .i64 65, .slice sa 4 sc] 54)).heap.size _ _).mono HB1.out.size))
          clear hrd hb2 Q
          go_wp2_with fail
          refine QU.out.mono ?_
          rintro e w3 ⟨rfl, _, hg3⟩
          rw [HE4.out]
          have HB3 := Lib.hid (HB2.out.grown hg3 HB2.out.size (fun i hi => by cases hi; exact HZ.out))
          clear hg3 QU
          go_wp2_with fail
          exact bodyPost_ret (v := .tuple #[.int .u32 ((num sd : Nat) : Int), .bool true]) (by simp [results, Try.results16, go_sem]) rfl ⟨by rw [HA2.out]; rfl, HB3.out⟩
        · have hnw := Lib.hid (HW.out (fun e => h4 e.2))
          have h4b : ((sd.length : Int) == 4) = false := by simpa using (by omega : ¬ (sd.length : Int) = 4)
          subst h65
          clear HA HY HW
          go_wp2_with fail
          go_roundw
          case rel => exact ⟨HB1.out, j + 1, by omega, by go_num, hnw⟩
          case measure => simp [intOf]; omega
      · have hnw := Lib.hid (HW.out (fun e => h65 e.1))
        have h65b : (sk == 65) = false := by simpa using h65
        clear HA HY HW
        go_wp2_with fail
        go_roundw
        case rel => exact ⟨HB1.out, j + 1, by omega, by go_num, hnw⟩
        case measure => simp [intOf]; omega
    · obtain rfl : j = L.length := by omega
      have hn : wideL (L.map Cp.abs) = none := wideL_no _ (by have h := hno.out; rw [List.take_of_length_le (by simp)] at h; exact h)
      have HN := Lib.hid hn
      clear hbr hn
      go_wp2_with fail
      exact bodyPost_ret (v := .tuple #[.int .u32 0, .bool false]) (by simp [results, Try.results16, go_sem]) rfl ⟨by rw [HN.out]; rfl, HBR.out⟩
end Go.Proofs.Ytpdnpphkkobhgaa

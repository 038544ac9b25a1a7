/-
  The queue's Put.
-/
import Derived.Test.YthhpfkogjbcgdaaLine22
import Derived.Test.YthhpfkogjbcgdaaApp22
namespace Go.Proofs.Ythhpfkogjbcgdaa
set_option linter.unusedVariables false
set_option linter.unusedSimpArgs false
open Go.RowKit

theorem pass22_no (g : Nat) (M : Int) (v x : Value) (R : List UInt8) (w : World) (h : Que w g M v R false) :
    Calls Try.prog 15 #[.pointer (some ⟨g, 0, none⟩), x] w fun e w' => e = .returned (.int .i64 0) ∧ w = w' := by
  obtain ⟨c0, c1, c2⟩ := cells3 h.1
  clear h
  go_enter Try.func15, Try.ntmps15
  go_wp2_with fail
  go_ret
  exact ⟨rfl, rfl⟩
theorem bytes_take {w : World} {A : Option Addr} {m : List UInt8} (k : Nat) (h : Bytes w A m) : Bytes w A (m.take k) := fun hne => by
  obtain ⟨b, off, rfl, hlt, hc⟩ := h (fun e => hne (by rw [e]; simp))
  exact ⟨b, off, rfl, hlt, fun j hj => by
    rw [List.length_take] at hj
    rw [hc j (by omega)]
    simp [List.getD, List.getElem?_take, show j < k by omega]⟩
set_option maxHeartbeats 1600000 in
theorem Put22_k (g : Nat) (M : Int) (v : Value) (R : List UInt8) (A : Option Addr) (c k : Nat) (m : List UInt8) (w : World) (h : Que w g M v R false) (hm : Bytes w A m) (hc : m.length ≤ c) (hcm : c ≤ maxLen) (hmin : min (m.length : Int) (M - (R.length : Int)) = (k : Int)) :
    Calls Try.prog 8 #[.pointer (some ⟨g, 0, none⟩), .slice A m.length c] w fun e w' => e = .returned (.int .i64 (k : Int)) ∧ ∃ v', Que w' g M v' (R ++ m.take k) false ∧ Keep w w' g v v' := by
  have hsm := h.small
  have hM := h.2.2
  have hkm : k ≤ m.length ∧ (R.length : Int) + k ≤ M := by omega
  have Q1 := Lib.hid (fun x => pass22_no g M v x R w h)
  have Q2 := Lib.hid (Room22_any g M v R false w h)
  obtain ⟨Av, cv, rfl, fv, gv, _⟩ := h.2.1.form
  have hw0 : wrap64 (m.length : Int) = (m.length : Int) := by unfold wrap64; unfold maxLen at hcm; omega
  have hw1 : IntKind.i64.wrap (k : Int) = (k : Int) := (IntWalk.i64_left _).trans (by unfold wrap64; omega)
  have hle : (k : Int) ≤ (c : Int) := by omega
  have hk0 : 0 ≤ (k : Int) := by omega
  have hm1 : c ≤ 9223372036854775807 := by unfold maxLen at hcm; omega
  obtain ⟨Y, hY⟩ : ∃ Y, Y = m.take k := ⟨_, rfl⟩
  have hyl : k = Y.length := by rw [hY, List.length_take]; omega
  have hyb : Bytes w A Y := by rw [hY]; exact bytes_take k hm
  rw [← hY]
  have HS := Lib.hid h; have HM := Lib.hid hyb; have HL := Lib.hid hyl; have HKM := Lib.hid hkm; have HSM := Lib.hid hsm
  have HG := Lib.hid h.lt; have HMX := Lib.hid hM
  clear h hm hyb hyl hkm hsm hY fv gv hcm hM
  go_enter Try.func8, Try.ntmps8
  go_wp2_with fail
  refine (Q1.out _).mono ?_
  rintro e w1 ⟨rfl, rfl⟩
  go_wp2_with fail
  refine Q2.out.mono ?_
  rintro e w2 ⟨rfl, hb2⟩
  have hs2 := HS.out.below hb2
  obtain ⟨c0, c1, c2⟩ := cells3 hs2.1
  obtain ⟨f0, f1, f2⟩ := free3 hs2.1
  have HS2 := Lib.hid hs2; have HB2 := Lib.hid hb2
  clear hs2 hb2
  go_wp2_with fail
  go_region_law (refine step_append_tail isBytes rfl (.tmp 23) (.tmp 29) rfl (g + 1) _ R rfl HS2.out.2.1 HS2.out.1.lt A Y _ c rfl HL.out (HM.out.below HB2.out.drew) (by have h1 := HL.out; have h2 := HKM.out; have h3 := HSM.out; have h4 := HMX.out; omega) ?_; intro v' w3 ht3 hg3 hn3; have hk3 : Blk w3 g 38 [.int .i64 M, .slice Av R.length cv, .bool false] := (hg3.block g HS2.out.1.lt (fun e => by have := (HS2.out.2.1.lt e.symm).1; omega)).trans HS2.out.1; have c9 : w3.cell? ⟨g, 1, none⟩ = some (.slice Av R.length cv) := hk3.cell 1; have f9 : w3.frozen? ⟨g, 1, none⟩ = false := hk3.free 1; obtain ⟨A2, n2, rfl, _, _, _⟩ := ht3.form; have HK3 := Lib.hid hk3; have HT3 := Lib.hid ht3; have HG3 := Lib.hid hg3; have HN3 := Lib.hid hn3; clear hk3 ht3 hg3 hn3 c0 c1 c2 f0 f1 f2)
  all_goals
    go_wp2_with fail
    go_ret
    have hT := HT3.out
    have hN := HN3.out
    simp only [List.length_append] at hT hN
    have HKE : Keep w2.drew w3 g (.slice Av R.length cv) (.slice A2 (R.length + Y.length) n2) := ⟨HG3.out.os, HG3.out.tape, HG3.out.output, HG3.out.size, fun k hk _ hv => HG3.out.block k hk (fun e => hv e.symm), hN⟩
    exact ⟨rfl, _, ⟨HK3.out.set 1 (.slice A2 (R.length + Y.length) n2), hT.beside (grown_setCell (grown_refl _ _) _ _) (Nat.lt_succ_self _), (by have h1 := HL.out; have h2 := HKM.out; rw [List.length_append]; omega), HMX.out.2⟩, (((Keep.of_below HB2.out).drew).trans HKE).set 1 _ _ (.inl rfl)⟩
/-- Where what comes does not go: as much as there is room for. -/
theorem Put22_any (g : Nat) (M : Int) (v : Value) (R : List UInt8) (A : Option Addr) (c : Nat) (m : List UInt8) (w : World) (h : Que w g M v R false) (hm : Bytes w A m) (hc : m.length ≤ c) (hcm : c ≤ maxLen) :
    ∃ k : Nat, k = min m.length (M.toNat - R.length) ∧ Calls Try.prog 8 #[.pointer (some ⟨g, 0, none⟩), .slice A m.length c] w fun e w' => e = .returned (.int .i64 (k : Int)) ∧ ∃ v', Que w' g M v' (R ++ m.take k) false ∧ Keep w w' g v v' :=
  ⟨_, rfl, Put22_k g M v R A c _ m w h hm hc hcm (by have := h.2.2; omega)⟩
end Go.Proofs.Ythhpfkogjbcgdaa

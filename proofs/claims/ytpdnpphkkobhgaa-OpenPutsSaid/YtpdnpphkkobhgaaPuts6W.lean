/-
  P6.1, P6.4: any OPEN's body, or that it has none; what is put is read as it was: the walk.
-/
import Derived.Test.YtpdnpphkkobhgaaAwake6
import Derived.Test.YtpdnpphkkobhgaaFew6
import Derived.Test.YtpdnpphkkobhgaaRefPut6
import Derived.Test.YtpdnpphkkobhgaaRefSame6
import Derived.Test.YtpdnpphkkobhgaaBackF6
import Derived.Test.YtpdnpphkkobhgaaSame
import Derived.Deep.RegionHeld3
namespace Go.Proofs.Ytpdnpphkkobhgaa.OpenPuts
set_option linter.unusedVariables false
open Go.RowKit

set_option maxRecDepth 100000 in
set_option maxHeartbeats 6400000 in
theorem walk (ver sys hold id : Int) (A : Option Addr) (c : Nat) (L : List Cp) (w : World) (h : CpIn w w.heap.size A L) (hr : ∀ s ∈ L, s.data.length ≤ s.cap ∧ s.cap ≤ maxLen)
    (hs : -9223372036854775808 ≤ sys ∧ sys ≤ 9223372036854775807) (hh : -9223372036854775808 ≤ hold ∧ hold ≤ 9223372036854775807) (hi : 0 ≤ id ∧ id < 4294967296) :
    Calls Try.prog 3 #[.agg #[.int .i64 ver, .int .i64 sys, .int .i64 hold, .int .u32 id, .slice A L.length c]] w fun e w' => e = .returned (.bool true) ∧ Below w.heap.size w w' := by
  have hb0 := (Below.refl w.heap.size w).alloc (Nat.le_refl _) (.cells #[.int .i64 ver, .int .i64 sys, .int .i64 hold, .int .u32 id, .slice A L.length c] 25)
  have kO := Blk.new w 25 [.int .i64 ver, .int .i64 sys, .int .i64 hold, .int .u32 id, .slice A L.length c]
  have hcp := (h.below hb0 (Nat.le_refl _)).lift hb0.size
  obtain ⟨W1, hW1⟩ : ∃ W1, W1 = w.alloc (.cells #[.int .i64 ver, .int .i64 sys, .int .i64 hold, .int .u32 id, .slice A L.length c] 25) := ⟨_, rfl⟩
  rw [← hW1] at hb0 kO hcp
  have HB0 := Lib.hid hb0
  have HC := Lib.hid (show ∀ W, Below W1.heap.size W1 W → W.cell? ⟨w.heap.size, 0, none⟩ = some (.int .i64 ver) ∧ W.cell? ⟨w.heap.size, 1, none⟩ = some (.int .i64 sys) ∧ W.cell? ⟨w.heap.size, 2, none⟩ = some (.int .i64 hold) ∧ W.cell? ⟨w.heap.size, 3, none⟩ = some (.int .u32 id) ∧ W.cell? ⟨w.heap.size, 4, none⟩ = some (.slice A L.length c) from fun W hb => cells5 (kO.below hb kO.lt))
  have HP := Lib.hid (show ∀ W, Below W1.heap.size W1 W → CpIn W W.heap.size A L from fun W hb => (hcp.below hb (Nat.le_refl _)).lift hb.size)
  have HR := Lib.hid hr; have HI := Lib.hid (And.intro hs (And.intro hh hi))
  have QF := Lib.hid (few6_any ver sys hold id A c L W1 (HP.out _ (Below.refl _ _)))
  have HW := Lib.hid hW1
  clear h hr hb0 kO hcp hW1 hs hh hi
  obtain ⟨b, hb⟩ : ∃ b, b = fewL (L.map Cp.abs) := ⟨_, rfl⟩
  rw [← hb] at QF
  have HF := Lib.hid hb
  clear hb
  cases b with
  | false =>
    go_enter Try.func3, Try.ntmps3
    have c5 := HC.out _ (Below.refl _ _)
    rw [HW.out] at c5
    go_wp2_with fail
    rw [← HW.out]
    refine QF.out.mono ?_
    rintro e w2 ⟨rfl, hb2⟩
    go_wp2_with fail
    refine (awake6_any _).mono ?_
    rintro e w3 ⟨rfl, hb3⟩
    go_wp2_with fail
    go_ret
    exact ⟨rfl, HB0.out.trans ((hb2.trans (hb3.mono hb2.size)).mono HB0.out.size)⟩
  | true =>
    have hfw := fewL_spec HF.out.symm
    have HL := Lib.hid (And.intro (show L.length ≤ 1152921504606846976 by omega) (show ∀ s ∈ L, s.data.length ≤ 1000000 from fun s hs => by have := hfw.2 s hs; omega))
    clear hfw
    obtain ⟨x, hx⟩ : ∃ x, x = putF6 ver sys hold id (L.map Cp.abs) := ⟨_, rfl⟩
    have QP := Lib.hid (fun W (hb : Below W1.heap.size W1 W) => Put6_any ver sys hold id A c L W (HP.out W hb) HL.out.1 HR.out HL.out.2 HI.out.1 HI.out.2.1 HI.out.2.2)
    have QR := Lib.hid (fun W (hb : Below W1.heap.size W1 W) => RefPut6_any ver sys hold id A c L W (HP.out W hb) HL.out.1 HR.out HL.out.2 HI.out.1 HI.out.2.1 HI.out.2.2)
    rw [← hx] at QP QR
    have HX := Lib.hid hx
    clear hx
    go_enter Try.func3, Try.ntmps3
    have c5 := HC.out _ (Below.refl _ _)
    rw [HW.out] at c5
    go_wp2_with fail
    rw [← HW.out]
    refine QF.out.mono ?_
    rintro e w2 ⟨rfl, hb2⟩
    have HB2 := Lib.hid hb2
    have d5 := HC.out _ hb2
    clear c5 hb2
    go_wp2_with fail
    refine (QP.out _ HB2.out).mono ?_
    rintro e w3 ⟨hb3, hp⟩
    have HB3 := Lib.hid (HB2.out.trans (hb3.mono HB2.out.size))
    have f5 := HC.out _ HB3.out
    have QR3 := QR.out _ HB3.out
    unfold RetPut6 at QR3
    have QR4 := Lib.hid QR3
    clear d5 hb3 QP QR QR3
    rcases hp with ⟨rfl, rfl⟩ | ⟨A3, c3, l, rfl, rfl, f3, g3, ho3⟩
    · go_wp2_with fail
      refine QR4.out.mono ?_
      rintro e w4 ⟨hb4, ⟨_, rfl⟩ | ⟨A4, c4, l4, hno, _⟩⟩
      · have QS := Lib.hid (Same_any none none 0 0 0 0 [] [] rfl rfl w4 (Bytes.nil _ _) (Bytes.nil _ _))
        have HB4 := Lib.hid (HB3.out.trans (hb4.mono HB3.out.size))
        clear f5 hb4
        go_wp2_with fail
        refine QS.out.mono ?_
        rintro e w5 ⟨rfl, rfl⟩
        go_wp2_with fail
        refine (awake6_any _).mono ?_
        rintro e w6 ⟨rfl, hb6⟩
        go_wp2_with fail
        go_ret
        exact ⟨rfl, HB0.out.trans ((HB4.out.trans (hb6.mono HB4.out.size)).mono HB0.out.size)⟩
      · cases hno
    · have HO3 := Lib.hid ho3; have HV3 := Lib.hid (And.intro f3 g3)
      clear ho3 f3 g3
      go_wp2_with fail
      refine QR4.out.mono ?_
      rintro e w4 ⟨hb4, ⟨hno, _⟩ | ⟨A4, c4, l4, hl4, rfl, f4, g4, ho4⟩⟩
      · cases hno
      · obtain rfl : l = l4 := Option.some.inj hl4
        have QS := Lib.hid (Same_any A3 A4 l.length l.length c3 c4 l l rfl rfl w4 (HO3.out.bytes.below hb4) ho4.bytes)
        have HB4 := Lib.hid (HB3.out.trans (hb4.mono HB3.out.size))
        have HBK := Lib.hid (put_back HX.out.symm HI.out.2.2)
        have hll : l.length ≤ 1000000 := by
          have h1 := params_len HX.out.symm
          omega
        have QD := Lib.hid (Read6_any A3 l.length c3 l rfl w4 (HO3.out.bytes.below hb4) HV3.out.1 HV3.out.2 hll)
        clear f5 hb4 hl4 f4 g4 ho4 hll QR4
        go_wp2_with fail
        refine QS.out.mono ?_
        rintro e w5 ⟨rfl, rfl⟩
        rw [beq_self_eq_true]
        go_wp2_with fail
        refine QD.out.mono ?_
        rintro e w6 ⟨hb6, ⟨u, hu, rfl⟩ | ⟨o, A6, c6, M, ho, hcM, rfl, hcp, g1, g2, hcs⟩⟩
        · rw [HBK.out] at hu; cases hu
        · rw [HBK.out] at ho
          obtain rfl := Except.ok.inj ho
          dsimp only at hcM
          unfold retR
          have HB6 := Lib.hid (HB4.out.trans (hb6.mono HB4.out.size))
          have hbO := (Below.refl w6.heap.size w6).alloc (Nat.le_refl _) (.cells #[.int .i64 ver, .int .i64 sys, .int .i64 hold, .int .u32 id, .slice A6 M.length c6] 25)
          have hbF := hbO.alloc (by simp) (.cells #[.int .i64 0, .int .i64 0, .slice none 0 0] 36)
          have hB6F := HB6.out.trans (hbF.mono HB6.out.size)
          have d6 := HC.out _ hB6F
          have QSM := Lib.hid (RefSameEq_any ver sys hold id A6 A c6 c M L _ ((hcp.below hbF (Nat.le_refl _)).lift hbF.size) (HP.out _ hB6F) hcM.symm (by have := congrArg List.length hcM; simp at this; have := HL.out.1; omega))
          have BF := Lib.hid hB6F
          clear hb6 ho hcM hcp g1 g2 hcs hbO hbF hB6F QD
          go_wp2_with fail
          refine QSM.out.mono ?_
          rintro e w7 ⟨rfl, hb7⟩
          have HB7 := Lib.hid (BF.out.trans (hb7.mono BF.out.size))
          clear hb7
          go_wp2_with fail
          refine (awake6_any _).mono ?_
          rintro e w8 ⟨rfl, hb8⟩
          go_wp2_with fail
          go_ret
          exact ⟨rfl, HB0.out.trans ((HB7.out.trans (hb8.mono HB7.out.size)).mono HB0.out.size)⟩
end Go.Proofs.Ytpdnpphkkobhgaa.OpenPuts

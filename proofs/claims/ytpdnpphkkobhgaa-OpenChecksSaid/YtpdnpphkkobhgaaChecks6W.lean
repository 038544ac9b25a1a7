/-
  P6.3: the number that any OPEN says, and what is wrong with it: the walk.
-/
import Derived.Test.YtpdnpphkkobhgaaAwake6
import Derived.Test.YtpdnpphkkobhgaaFew6
import Derived.Test.YtpdnpphkkobhgaaRefWide6
import Derived.Test.YtpdnpphkkobhgaaRefChk6
import Derived.Test.YtpdnpphkkobhgaaSameF7
import Derived.Deep.RegionHeld3
namespace Go.Proofs.Ytpdnpphkkobhgaa.OpenChecks
set_option linter.unusedVariables false
open Go.RowKit

set_option maxRecDepth 100000 in
set_option maxHeartbeats 6400000 in
theorem walk (ver sys hold id : Int) (A : Option Addr) (c : Nat) (L : List Cp) (au mine : Int) (w : World) (h : CpIn w w.heap.size A L) (hr : ∀ s ∈ L, s.data.length ≤ s.cap ∧ s.cap ≤ maxLen) :
    Calls Try.prog 5 #[.agg #[.int .i64 ver, .int .i64 sys, .int .i64 hold, .int .u32 id, .slice A L.length c], .int .u32 au, .int .u32 mine] w fun e w' => e = .returned (.bool true) ∧ Below w.heap.size w w' := by
  have hb0 := (Below.refl w.heap.size w).alloc (Nat.le_refl _) (.cells #[.int .i64 ver, .int .i64 sys, .int .i64 hold, .int .u32 id, .slice A L.length c] 25)
  have kO := Blk.new w 25 [.int .i64 ver, .int .i64 sys, .int .i64 hold, .int .u32 id, .slice A L.length c]
  have hcp := (h.below hb0 (Nat.le_refl _)).lift hb0.size
  obtain ⟨W1, hW1⟩ : ∃ W1, W1 = w.alloc (.cells #[.int .i64 ver, .int .i64 sys, .int .i64 hold, .int .u32 id, .slice A L.length c] 25) := ⟨_, rfl⟩
  rw [← hW1] at hb0 kO hcp
  have HB0 := Lib.hid hb0
  have HC := Lib.hid (show ∀ W, Below W1.heap.size W1 W → W.cell? ⟨w.heap.size, 0, none⟩ = some (.int .i64 ver) ∧ W.cell? ⟨w.heap.size, 1, none⟩ = some (.int .i64 sys) ∧ W.cell? ⟨w.heap.size, 2, none⟩ = some (.int .i64 hold) ∧ W.cell? ⟨w.heap.size, 3, none⟩ = some (.int .u32 id) ∧ W.cell? ⟨w.heap.size, 4, none⟩ = some (.slice A L.length c) from fun W hb => cells5 (kO.below hb kO.lt))
  have HP := Lib.hid (show ∀ W, Below W1.heap.size W1 W → CpIn W W.heap.size A L from fun W hb => (hcp.below hb (Nat.le_refl _)).lift hb.size)
  have HR := Lib.hid hr
  have QF := Lib.hid (few6_any ver sys hold id A c L W1 (HP.out _ (Below.refl _ _)))
  have HW := Lib.hid hW1
  clear h hr hb0 kO hcp hW1
  obtain ⟨b, hb⟩ : ∃ b, b = fewL (L.map Cp.abs) := ⟨_, rfl⟩
  rw [← hb] at QF
  have HF := Lib.hid hb
  clear hb
  cases b with
  | false =>
    go_enter Try.func5, Try.ntmps5
    have c5 := HC.out _ (Below.refl _ _)
    rw [HW.out] at c5
    go_wp2_with fail
    rw [← HW.out]
    refine QF.out.mono ?_
    rintro e w2 ⟨rfl, hb2⟩
    go_wp2_with fail
    refine (awake6_any _).mono ?_
    rintro e w3 ⟨rfl, hb3⟩
    go_wp2_with fail
    go_ret
    exact ⟨rfl, HB0.out.trans ((hb2.trans (hb3.mono hb2.size)).mono HB0.out.size)⟩
  | true =>
    have HL := Lib.hid (And.intro (show L.length ≤ 1152921504606846976 by have := (fewL_spec HF.out.symm).1; omega) HR.out)
    obtain ⟨wd, hwd⟩ : ∃ x, x = wideL (L.map Cp.abs) := ⟨_, rfl⟩
    have QW := Lib.hid (fun W (hb : Below W1.heap.size W1 W) => Wide_any ver sys hold id A c L W (HP.out W hb) HL.out.1 HL.out.2)
    have QRW := Lib.hid (fun W (hb : Below W1.heap.size W1 W) => RefWide_any ver sys hold id A c L W (HP.out W hb) HL.out.1 HL.out.2)
    have QA := Lib.hid (fun W (hb : Below W1.heap.size W1 W) => AS_any ver sys hold id A c L W (HP.out W hb) HL.out.1 HL.out.2)
    have QRA := Lib.hid (fun W (hb : Below W1.heap.size W1 W) => RefAS_any ver sys hold id A c L W (HP.out W hb) HL.out.1 HL.out.2)
    have QC := Lib.hid (fun W (hb : Below W1.heap.size W1 W) => Check_any ver sys hold id au mine A c L W (HP.out W hb) HL.out.1 HL.out.2)
    have QRC := Lib.hid (fun W (hb : Below W1.heap.size W1 W) => RefCheck_any ver sys hold id au mine A c L W (HP.out W hb) HL.out.1 HL.out.2)
    rw [← hwd] at QW QRW QA QRA QC QRC
    obtain ⟨sn, has⟩ : ∃ x, x = asN sys wd := ⟨_, rfl⟩
    rw [← has] at QA QRA QC QRC
    obtain ⟨X, hX⟩ : ∃ x, x = checkF ver sn hold id au mine := ⟨_, rfl⟩
    rw [← hX] at QC QRC
    unfold RetFault at QC QRC
    obtain ⟨X1, X2, X3⟩ := X
    dsimp only at QC QRC
    obtain ⟨wn, wb, hwv⟩ : ∃ n b, wideV wd = .tuple #[.int .u32 n, .bool b] := by cases wd <;> exact ⟨_, _, rfl⟩
    rw [hwv] at QW QRW
    have hsame : (X1 == X1 && (X2 == X2 && X3 == X3)) = true := by simp
    have HSM := Lib.hid hsame
    clear hwd has hX hwv hsame
    go_enter Try.func5, Try.ntmps5
    have c5 := HC.out _ (Below.refl _ _)
    rw [HW.out] at c5
    go_wp2_with fail
    rw [← HW.out]
    refine QF.out.mono ?_
    rintro e w2 ⟨rfl, hb2⟩
    have HB2 := Lib.hid hb2
    have d5 := HC.out _ hb2
    clear c5 hb2
    go_wp2_with fail
    refine (QW.out _ HB2.out).mono ?_
    rintro e w3 ⟨rfl, hb3⟩
    have HB3 := Lib.hid (HB2.out.trans (hb3.mono HB2.out.size))
    have f5 := HC.out _ HB3.out
    clear d5 hb3
    go_wp2_with fail
    refine (QRW.out _ HB3.out).mono ?_
    rintro e w4 ⟨rfl, hb4⟩
    have HB4 := Lib.hid (HB3.out.trans (hb4.mono HB3.out.size))
    clear f5 hb4
    go_wp2_with fail
    have hbc : Below W1.heap.size W1 w4.drew := HB4.out.drew
    go_region_held3 (fun w' => w'.cell? ⟨w.heap.size, 0, none⟩ = some (.int .i64 ver) ∧ w'.cell? ⟨w.heap.size, 1, none⟩ = some (.int .i64 sys) ∧ w'.cell? ⟨w.heap.size, 2, none⟩ = some (.int .i64 hold) ∧ w'.cell? ⟨w.heap.size, 3, none⟩ = some (.int .u32 id) ∧ w'.cell? ⟨w.heap.size, 4, none⟩ = some (.slice A L.length c)) (exact HC.out _ hbc) ((first
      | (go_at_call 18; refine (QA.out _ hbc).mono ?_; rintro e wx ⟨rfl, hg⟩; replace hbc := hbc.trans (hg.mono hbc.size); clear hg)
      | (go_at_call 19; refine (QRA.out _ hbc).mono ?_; rintro e wx ⟨rfl, hg⟩; replace hbc := hbc.trans (hg.mono hbc.size); clear hg)
      | (go_at_call 20; refine (QC.out _ hbc).mono ?_; rintro e wx ⟨hg, A1, c1, rfl, f1, g1, hy⟩; have HY1 := Lib.hid hy; replace hbc := hbc.trans (hg.mono hbc.size); clear hg f1 g1 hy)
      | (go_at_call 21; refine (QRC.out _ hbc).mono ?_; rintro e wx ⟨hg, A2, c2, rfl, f1, g1, hy⟩; have HY2 := Lib.hid hy; have HY3 := Lib.hid (HY1.out.below hg); replace hbc := hbc.trans (hg.mono hbc.size); clear hg f1 g1 hy HY1)
      | (go_at_call 15; refine (SameFault_any X1 X2 X1 X2 A1 A2 c1 c2 X3 X3 _ HY3.out HY2.out).mono ?_; rintro e wx ⟨rfl, hg⟩; rw [HSM.out]; replace hbc := hbc.trans (hg.mono hbc.size); clear hg)
      | (go_at_call 8; refine (awake6_any _).mono ?_; rintro e wx ⟨rfl, hg⟩; replace hbc := hbc.trans (hg.mono hbc.size); clear hg)))
    go_wp2_with fail
    go_ret
    exact ⟨rfl, HB0.out.trans (hbc.mono HB0.out.size)⟩
end Go.Proofs.Ytpdnpphkkobhgaa.OpenChecks

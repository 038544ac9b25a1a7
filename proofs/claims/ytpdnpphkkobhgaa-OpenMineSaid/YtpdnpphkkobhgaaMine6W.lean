/-
  P6.3, P6.4: the OPEN of any side, and whether another side takes it: the walk.
-/
import Derived.Test.YtpdnpphkkobhgaaAwake6
import Derived.Test.YtpdnpphkkobhgaaRefMine6
import Derived.Test.YtpdnpphkkobhgaaRefSame6
import Derived.Test.YtpdnpphkkobhgaaChk6
import Derived.Deep.RegionHeld3
import Derived.Deep.QuietTactic
import Derived.BigQuiet
namespace Go.Proofs.Ytpdnpphkkobhgaa.OpenMine
set_option linter.unusedVariables false
open Go.RowKit

theorem wide_mine (a : Int) (ha : 0 ≤ a ∧ a < 4294967296) (m : Int) : asN m (wideL [(65, be32 a)]) = a := by
  have h : num (be32 a) = a.toNat := by
    obtain ⟨h0, h1⟩ := ha
    obtain ⟨n, rfl⟩ := Int.eq_ofNat_of_zero_le h0
    simp only [be32, num, List.foldl, UInt8.toNat_ofNat']
    omega
  have hw : wideL [((65 : Int), be32 a)] = some (num (be32 a)) := by
    unfold wideL
    rw [if_pos ⟨rfl, rfl⟩]
  rw [hw, h]
  unfold asN
  simp only
  omega

set_option maxRecDepth 100000 in
set_option maxHeartbeats 6400000 in
theorem walk (a id ad h other p q : Int) (w : World) (ha : 0 ≤ a ∧ a < 4294967296) (hh : -9223372036854775808 ≤ h ∧ h ≤ 9223372036854775807) :
    Calls Try.prog 6 #[.agg #[.int .u32 a, .int .u32 id, .int .u32 ad, .int .i64 h], .int .u32 other, .agg #[.int .i64 p, .int .i64 q]] w fun e w' => e = .returned (.bool true) ∧ Below w.heap.size w w' := by
  have hb0 := ((Below.refl w.heap.size w).alloc (Nat.le_refl _) (.cells #[.int .u32 a, .int .u32 id, .int .u32 ad, .int .i64 h] 48)).alloc (by simp) (.cells #[.int .i64 p, .int .i64 q] 49)
  have kL := (Blk.new w 48 [.int .u32 a, .int .u32 id, .int .u32 ad, .int .i64 h]).below ((Below.refl _ _).alloc (Nat.le_refl _) (.cells #[.int .i64 p, .int .i64 q] 49)) (by simp)
  have QM := Lib.hid (fun W => Mine_any a id ad h W ha hh)
  have QR := Lib.hid (fun W => RefMine_any a id ad h W ha hh)
  have HWD := Lib.hid (wide_mine a ha (mineA a))
  obtain ⟨n, hn⟩ : ∃ n, n = holdN p q := ⟨_, rfl⟩
  have QH := Lib.hid (fun (x y : Int) (W : World) (hxy : (x = p ∧ y = q) ∨ (x = q ∧ y = p)) => (show Calls Try.prog 24 #[.int .i64 x, .int .i64 y] W fun e w' => e = .returned (.int .i64 n) ∧ W = w' from by
    rcases hxy with ⟨rfl, rfl⟩ | ⟨rfl, rfl⟩
    · rw [hn]; exact Hold_any _ _ W
    · rw [hn, holdN_comm]; exact Hold_any _ _ W))
  have QRH := Lib.hid (fun (W : World) => (show Calls Try.prog 25 #[.int .i64 p, .int .i64 q] W fun e w' => e = .returned (.int .i64 n) ∧ W = w' from by rw [hn]; exact RefHold_any p q W))
  obtain ⟨m, hm⟩ : ∃ m, m = mineA a := ⟨_, rfl⟩
  obtain ⟨k, hk⟩ : ∃ k, k = mineH h := ⟨_, rfl⟩
  unfold RetMine at QM QR
  rw [← hm, ← hk] at QM QR
  rw [← hm] at HWD
  have HB0 := Lib.hid hb0; have HL0 := Lib.hid kL
  clear hn hm hk ha hh hb0 kL
  go_enter Try.func6, Try.ntmps6
  go_wp2_with fail
  go_quiet (fail)
  go_wp2_with fail
  refine (QM.out _).mono ?_
  rintro e w1 ⟨hb1, g, A1, c1, rfl, hcp, h1, h2⟩
  have hbN := below_drewN HB0.out nq
  have hb1' := hbN.trans (hb1.mono hbN.size)
  have kL1 := (HL0.out.drewN nq).below hb1 (HL0.out.drewN nq).lt
  have hbO := (Below.refl w1.heap.size w1).alloc (Nat.le_refl _) (.cells #[.int .i64 4, .int .i64 m, .int .i64 k, .int .u32 id, .slice (some ⟨g, 0, none⟩) 1 1] 25)
  have kO := Blk.new w1 25 [.int .i64 4, .int .i64 m, .int .i64 k, .int .u32 id, .slice (some ⟨g, 0, none⟩) 1 1]
  have kL2 := kL1.below hbO kL1.lt
  have hcp2 := (hcp.below hbO (Nat.le_refl _)).lift hbO.size
  obtain ⟨W2, hW2⟩ : ∃ W, W = w1.alloc (.cells #[.int .i64 4, .int .i64 m, .int .i64 k, .int .u32 id, .slice (some ⟨g, 0, none⟩) 1 1] 25) := ⟨_, rfl⟩
  rw [← hW2] at hbO kO kL2 hcp2
  have HB2 := Lib.hid (hb1'.trans (hbO.mono hb1'.size))
  have HC := Lib.hid (show ∀ W, Below W2.heap.size W2 W → W.cell? ⟨w1.heap.size, 0, none⟩ = some (.int .i64 4) ∧ W.cell? ⟨w1.heap.size, 1, none⟩ = some (.int .i64 m) ∧ W.cell? ⟨w1.heap.size, 2, none⟩ = some (.int .i64 k) ∧ W.cell? ⟨w1.heap.size, 3, none⟩ = some (.int .u32 id) ∧ W.cell? ⟨w1.heap.size, 4, none⟩ = some (.slice (some ⟨g, 0, none⟩) 1 1) from fun W hb => cells5 (kO.below hb kO.lt))
  have HL := Lib.hid (show ∀ W, Below W2.heap.size W2 W → W.cell? ⟨w.heap.size, 0, none⟩ = some (.int .u32 a) ∧ W.cell? ⟨w.heap.size, 1, none⟩ = some (.int .u32 id) ∧ W.cell? ⟨w.heap.size, 2, none⟩ = some (.int .u32 ad) ∧ W.cell? ⟨w.heap.size, 3, none⟩ = some (.int .i64 h) from fun W hb => ⟨(kL2.below hb kL2.lt).cell 0, (kL2.below hb kL2.lt).cell 1, (kL2.below hb kL2.lt).cell 2, (kL2.below hb kL2.lt).cell 3⟩)
  have HP := Lib.hid (show ∀ W, Below W2.heap.size W2 W → CpIn W W.heap.size (some ⟨g, 0, none⟩) [⟨65, A1, c1, be32 a⟩] from fun W hb => (hcp2.below hb (Nat.le_refl _)).lift hb.size)
  have HR := Lib.hid (show ∀ s ∈ ([⟨65, A1, c1, be32 a⟩] : List Cp), s.data.length ≤ s.cap ∧ s.cap ≤ maxLen from fun s hs => by rw [List.mem_singleton.1 hs]; exact ⟨h1, h2⟩)
  have HW := Lib.hid hW2
  have QC := Lib.hid (fun W hb => Check_any 4 m k id a other (some ⟨g, 0, none⟩) 1 [⟨65, A1, c1, be32 a⟩] W (HP.out W hb) (by simp) HR.out)
  clear hbN hb1 hb1' kL1 hbO kO kL2 hcp hcp2 hW2 h1 h2 QM
  go_wp2_with fail
  rw [← HW.out]
  have hbc : Below W2.heap.size W2 W2.drew := (Below.refl _ _).drew
  go_region_held3 (fun w' => w'.cell? ⟨w1.heap.size, 0, none⟩ = some (.int .i64 4) ∧ w'.cell? ⟨w1.heap.size, 1, none⟩ = some (.int .i64 m) ∧ w'.cell? ⟨w1.heap.size, 2, none⟩ = some (.int .i64 k) ∧ w'.cell? ⟨w1.heap.size, 3, none⟩ = some (.int .u32 id) ∧ w'.cell? ⟨w1.heap.size, 4, none⟩ = some (.slice (some ⟨g, 0, none⟩) 1 1) ∧ w'.cell? ⟨w.heap.size, 0, none⟩ = some (.int .u32 a) ∧ w'.cell? ⟨w.heap.size, 1, none⟩ = some (.int .u32 id) ∧ w'.cell? ⟨w.heap.size, 2, none⟩ = some (.int .u32 ad) ∧ w'.cell? ⟨w.heap.size, 3, none⟩ = some (.int .i64 h)) (exact ⟨(HC.out _ hbc).1, (HC.out _ hbc).2.1, (HC.out _ hbc).2.2.1, (HC.out _ hbc).2.2.2.1, (HC.out _ hbc).2.2.2.2, HL.out _ hbc⟩) ((first
    | (go_at_call 23; refine (QR.out _).mono ?_; rintro e wx ⟨hg, g2, A2, c2, rfl, hcp2, e1, e2⟩; have HCP := Lib.hid hcp2; replace hbc := hbc.trans (hg.mono hbc.size); clear hg hcp2 e1 e2)
    | (go_at_call 13; refine (RefSameEq_any 4 m k id (some ⟨g, 0, none⟩) (some ⟨g2, 0, none⟩) 1 1 [⟨65, A1, c1, be32 a⟩] [⟨65, A2, c2, be32 a⟩] _ (HP.out _ hbc) HCP.out rfl (by simp)).mono ?_; rintro e wx ⟨rfl, hg⟩; replace hbc := hbc.trans (hg.mono hbc.size); clear hg)
    | (go_at_call 24; refine (QH.out _ _ _ (by first | exact .inl ⟨rfl, rfl⟩ | exact .inr ⟨rfl, rfl⟩)).mono ?_; rintro e wx ⟨rfl, rfl⟩)
    | (go_at_call 25; refine (QRH.out _).mono ?_; rintro e wx ⟨rfl, rfl⟩)))
  have HBC := Lib.hid hbc
  have o5 := HC.out _ hbc
  have l4 := HL.out _ hbc
  have QX := QC.out _ hbc
  rw [show (List.map Cp.abs [⟨65, A1, c1, be32 a⟩]) = [(65, be32 a)] from rfl, HWD.out] at QX
  unfold RetFault at QX
  clear hbc
  by_cases hi : id = 0
  · have b1 : (id == 0) = true := by simpa using hi
    have HX : checkF 4 a k id a other = (2, 3, []) := by unfold checkF; rw [if_neg (by simp), if_neg (by simp), if_pos (.inl hi)]
    rw [HX] at QX
    dsimp only [List.length_nil] at QX
    clear HX
    clear hi
    have QX1 := Lib.hid QX
    have hfd : ∀ (w : World) (A : Option Addr) (c : Nat), (Instr.field 36 (.agg #[.int .i64 2, .int .i64 3, .slice A 0 c]) 0).run Try.prog w = .ok (.int .i64 2) w := fun _ _ _ => by kernel_rfl
    clear QX
    go_wp2_with fail
    refine QX1.out.mono ?_
    rintro e w5 ⟨hb5, A', c', rfl, _, _, _⟩
    have HB5 := Lib.hid (HBC.out.trans (hb5.mono HBC.out.size))
    clear hb5
    go_wp2_with fail
    refine (awake6_any _).mono ?_
    rintro e w6 ⟨rfl, hb6⟩
    go_wp2_with fail
    go_ret
    exact ⟨rfl, HB2.out.trans ((HB5.out.trans (hb6.mono HB5.out.size)).mono HB2.out.size)⟩
  by_cases ho : id = other
  · have b1 : (id == 0) = false := by simpa using hi
    have b2 : (id == other) = true := by simpa using ho
    have HX : checkF 4 a k id a other = (2, 3, []) := by unfold checkF; rw [if_neg (by simp), if_neg (by simp), if_pos (.inr ho)]
    rw [HX] at QX
    dsimp only [List.length_nil] at QX
    clear HX
    clear hi ho
    have QX1 := Lib.hid QX
    have hfd : ∀ (w : World) (A : Option Addr) (c : Nat), (Instr.field 36 (.agg #[.int .i64 2, .int .i64 3, .slice A 0 c]) 0).run Try.prog w = .ok (.int .i64 2) w := fun _ _ _ => by kernel_rfl
    clear QX
    go_wp2_with fail
    refine QX1.out.mono ?_
    rintro e w5 ⟨hb5, A', c', rfl, _, _, _⟩
    have HB5 := Lib.hid (HBC.out.trans (hb5.mono HBC.out.size))
    clear hb5
    go_wp2_with fail
    refine (awake6_any _).mono ?_
    rintro e w6 ⟨rfl, hb6⟩
    go_wp2_with fail
    go_ret
    exact ⟨rfl, HB2.out.trans ((HB5.out.trans (hb6.mono HB5.out.size)).mono HB2.out.size)⟩
  have b1 : (id == 0) = false := by simpa using hi
  have b2 : (id == other) = false := by simpa using ho
  by_cases h1 : k = 1
  · have b3 : (k == 1) = true := by simpa using h1
    have HX : checkF 4 a k id a other = (2, 6, []) := by unfold checkF; rw [if_neg (by simp), if_neg (by simp), if_neg (fun e => e.elim hi ho), if_pos (.inl h1)]
    rw [HX] at QX
    dsimp only [List.length_nil] at QX
    clear HX
    clear hi ho h1
    have QX1 := Lib.hid QX
    have hfd : ∀ (w : World) (A : Option Addr) (c : Nat), (Instr.field 36 (.agg #[.int .i64 2, .int .i64 6, .slice A 0 c]) 0).run Try.prog w = .ok (.int .i64 2) w := fun _ _ _ => by kernel_rfl
    clear QX
    go_wp2_with fail
    refine QX1.out.mono ?_
    rintro e w5 ⟨hb5, A', c', rfl, _, _, _⟩
    have HB5 := Lib.hid (HBC.out.trans (hb5.mono HBC.out.size))
    clear hb5
    go_wp2_with fail
    refine (awake6_any _).mono ?_
    rintro e w6 ⟨rfl, hb6⟩
    go_wp2_with fail
    go_ret
    exact ⟨rfl, HB2.out.trans ((HB5.out.trans (hb6.mono HB5.out.size)).mono HB2.out.size)⟩
  by_cases h2 : k = 2
  · have b3 : (k == 1) = false := by simpa using h1
    have b4 : (k == 2) = true := by simpa using h2
    have HX : checkF 4 a k id a other = (2, 6, []) := by unfold checkF; rw [if_neg (by simp), if_neg (by simp), if_neg (fun e => e.elim hi ho), if_pos (.inr h2)]
    rw [HX] at QX
    dsimp only [List.length_nil] at QX
    clear HX
    clear hi ho h1 h2
    have QX1 := Lib.hid QX
    have hfd : ∀ (w : World) (A : Option Addr) (c : Nat), (Instr.field 36 (.agg #[.int .i64 2, .int .i64 6, .slice A 0 c]) 0).run Try.prog w = .ok (.int .i64 2) w := fun _ _ _ => by kernel_rfl
    clear QX
    go_wp2_with fail
    refine QX1.out.mono ?_
    rintro e w5 ⟨hb5, A', c', rfl, _, _, _⟩
    have HB5 := Lib.hid (HBC.out.trans (hb5.mono HBC.out.size))
    clear hb5
    go_wp2_with fail
    refine (awake6_any _).mono ?_
    rintro e w6 ⟨rfl, hb6⟩
    go_wp2_with fail
    go_ret
    exact ⟨rfl, HB2.out.trans ((HB5.out.trans (hb6.mono HB5.out.size)).mono HB2.out.size)⟩
  have b3 : (k == 1) = false := by simpa using h1
  have b4 : (k == 2) = false := by simpa using h2
  have HX : checkF 4 a k id a other = (0, 0, []) := by unfold checkF; rw [if_neg (by simp), if_neg (by simp), if_neg (fun e => e.elim hi ho), if_neg (fun e => e.elim h1 h2)]
  rw [HX] at QX
  dsimp only [List.length_nil] at QX
  clear HX
  clear hi ho h1 h2
  have QX1 := Lib.hid QX
  have hfd : ∀ (w : World) (A : Option Addr) (c : Nat), (Instr.field 36 (.agg #[.int .i64 0, .int .i64 0, .slice A 0 c]) 0).run Try.prog w = .ok (.int .i64 0) w := fun _ _ _ => by kernel_rfl
  clear QX
  go_wp2_with fail
  refine QX1.out.mono ?_
  rintro e w5 ⟨hb5, A', c', rfl, _, _, _⟩
  have HB5 := Lib.hid (HBC.out.trans (hb5.mono HBC.out.size))
  clear hb5
  go_wp2_with fail
  refine (awake6_any _).mono ?_
  rintro e w6 ⟨rfl, hb6⟩
  go_wp2_with fail
  go_ret
  exact ⟨rfl, HB2.out.trans ((HB5.out.trans (hb6.mono HB5.out.size)).mono HB2.out.size)⟩
end Go.Proofs.Ytpdnpphkkobhgaa.OpenMine

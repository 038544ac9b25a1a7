/-
  P12.2: whether any range may be, and which prefixes are in it, or in one of some.
-/
import Derived.Test.YtcjeifpdikojlaaDoorAwake12
import Derived.Test.YtcjeifpdikojlaaDoorAnyR12
import Derived.Deep.RegionHeld3
namespace Go.Proofs.YtcjeifpdikojlaaDoor
set_option linter.unusedVariables false
set_option linter.unusedSimpArgs false
open Go.RowKit

set_option maxHeartbeats 6400000 in
theorem ranges_walk (a c b : Nat) (A : Option Addr) (L : List Rg) (n mn mx m : Int) (w : World) (ha : a < 4294967296) (hb : b < 4294967296) (hn : -9223372036854775808 ≤ n ∧ n ≤ 9223372036854775807) (hm : -9223372036854775808 ≤ m ∧ m ≤ 9223372036854775807)
    (hs : RngsIn w A L) (hc : L.length ≤ c) (hmax : c ≤ maxLen) (hr : ∀ s ∈ L, RgOk s) (ht : Tab w) :
    Calls Tryd.prog 5 #[.agg #[.int .u32 (a : Int), .int .i64 n, .int .i64 mn, .int .i64 mx], .slice A L.length c, .agg #[.int .u32 (b : Int), .int .i64 m]] w fun e w' => e = .returned (.bool true) ∧ Below w.heap.size w w' := by
  unfold maxLen at hmax
  obtain ⟨W2, hW2⟩ : ∃ W2, W2 = ((w.alloc (.cells #[.int .u32 (a : Int), .int .i64 n, .int .i64 mn, .int .i64 mx] 35)).alloc (.cells #[.int .u32 (b : Int), .int .i64 m] 33)) := ⟨_, rfl⟩
  have HS := Lib.hid (fun w' hb => box42_cells w (.int .u32 (a : Int)) (.int .i64 n) (.int .i64 mn) (.int .i64 mx) (.int .u32 (b : Int)) (.int .i64 m) 35 33 (w' := w') hb)
  have hbw : ∀ w', Below W2.heap.size W2 w' → Below w.heap.size w w' := fun w' h => by rw [hW2] at h; exact below_box (below_box h)
  rw [← hW2] at HS
  have HT := Lib.hid (fun (w' : World) (hb : Below W2.heap.size W2 w') => ht.below (hbw w' hb) ht.lt)
  have HRW := Lib.hid (fun (w' : World) (hb : Below W2.heap.size W2 w') => hs.below (hbw w' hb))
  have HBW := Lib.hid hbw
  have hbc : Below W2.heap.size W2 W2.drew := (Below.refl _ _).drew
  have hba : Below W2.heap.size W2 W2 := Below.refl _ _
  rw [hW2] at hbc hba
  have Q1 := fun W => Lib.hid (Right12_any a n mn mx W ha hn.1 hn.2)
  have Q2 := fun W => Lib.hid (RefRight12_any a n mn mx W ha hn.1 hn.2)
  have Q3 := fun W => Lib.hid (In12_any a b n mn mx m W ha hb hn.1 hn.2 hm.1 hm.2)
  have Q4 := fun W => Lib.hid (RefIn12_any a b n mn mx m W ha hb hn.1 hn.2 hm.1 hm.2)
  obtain ⟨R, hR⟩ : ∃ R, R = okR (a : Int) n mn mx := ⟨_, rfl⟩
  obtain ⟨I, hI⟩ : ∃ I, I = inR (a : Int) n mn mx b m := ⟨_, rfl⟩
  rw [← hR] at Q1 Q2
  rw [← hI] at Q3 Q4
  subst hW2
  clear hR hI ht hbw hs
  by_cases hl : 80 < L.length
  · have hl2 : (80 : Int) < (L.length : Int) := by omega
    clear hl
    go_enter Tryd.func5, Tryd.ntmps5
    go_wp2_with fail
    refine (awake12_any _ (HT.out _ hba)).mono ?_
    rintro e w9 ⟨rfl, g⟩
    have hbd := hba.trans (g.mono hba.size)
    go_wp2_with fail
    go_ret
    exact ⟨rfl, HBW.out _ hbd⟩
  · have hl2 : ¬ (80 : Int) < (L.length : Int) := by omega
    have Q5 := fun W hw => Lib.hid (Any12_any A c L b m W hw hr (by omega) hb hm)
    have Q6 := fun W hw => Lib.hid (RefAny12_any A c L b m W hw hr (by omega) hb hm)
    obtain ⟨Y, hY⟩ : ∃ Y, Y = anyR L b m := ⟨_, rfl⟩
    rw [← hY] at Q5 Q6
    clear hl hY hr
    have HC := HS.out _ hbc
    go_enter Tryd.func5, Tryd.ntmps5
    go_wp2_with fail
    go_region_held3 (fun w' => (w'.cell? ⟨w.heap.size, 0, none⟩ = some (.int .u32 (a : Int)) ∧ w'.cell? ⟨w.heap.size, 1, none⟩ = some (.int .i64 n) ∧ w'.cell? ⟨w.heap.size, 2, none⟩ = some (.int .i64 mn) ∧ w'.cell? ⟨w.heap.size, 3, none⟩ = some (.int .i64 mx)) ∧ w'.cell? ⟨w.heap.size + 1, 0, none⟩ = some (.int .u32 (b : Int)) ∧ w'.cell? ⟨w.heap.size + 1, 1, none⟩ = some (.int .i64 m)) (exact HS.out _ hbc) ((first
      | (go_at_call 20; refine (Q1 _).out.mono ?_; rintro e wx ⟨rfl, hg⟩; replace hbc := hbc.trans (hg.mono hbc.size); clear hg)
      | (go_at_call 21; refine (Q2 _).out.mono ?_; rintro e wx ⟨rfl, hg⟩; replace hbc := hbc.trans (hg.mono hbc.size); clear hg)
      | (go_at_call 22; refine (Q3 _).out.mono ?_; rintro e wx ⟨rfl, hg⟩; replace hbc := hbc.trans (hg.mono hbc.size); clear hg)
      | (go_at_call 23; refine (Q4 _).out.mono ?_; rintro e wx ⟨rfl, hg⟩; replace hbc := hbc.trans (hg.mono hbc.size); clear hg)
      | (go_at_call 24; refine (Q5 _ (HRW.out _ hbc)).out.mono ?_; rintro e wx ⟨rfl, hg⟩; replace hbc := hbc.trans (hg.mono hbc.size); clear hg)
      | (go_at_call 25; refine (Q6 _ (HRW.out _ hbc)).out.mono ?_; rintro e wx ⟨rfl, hg⟩; replace hbc := hbc.trans (hg.mono hbc.size); clear hg)
      | (go_at_call 8; refine (awake12_any _ (HT.out _ hbc)).mono ?_; rintro e wx ⟨rfl, hg⟩; replace hbc := hbc.trans (hg.mono hbc.size); clear hg)))
    go_wp2_with fail
    go_ret
    exact ⟨rfl, HBW.out _ hbc⟩
end Go.Proofs.YtcjeifpdikojlaaDoor

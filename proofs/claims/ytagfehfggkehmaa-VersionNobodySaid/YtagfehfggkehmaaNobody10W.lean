/-
  P10.2: of no store, and of one that no call made, there is nothing: the walk.
-/
import Derived.Test.YtagfehfggkehmaaMoreI
import Derived.Test.YtagfehfggkehmaaAwake10
namespace Go.Proofs.Ytagfehfggkehmaa.VersionNobody
set_option linter.unusedVariables false
open Go.RowKit

/-- The two stores: none, and one that no call made. -/
theorem two (w : World) {j : Nat} (hj : j < 2) (W0 : World) (hW : W0 = (w.alloc (.cells #[.int .i64 0, .map none] 45)).alloc (.cells #[.pointer none, .pointer (some ⟨w.heap.size, 0, none⟩)] 23)) :
    ∃ v, (∀ W, Below W0.heap.size W0 W → W.cell? ⟨w.heap.size + 1, j, none⟩ = some v) ∧ ∀ W, Below W0.heap.size W0 W → NoneI W v := by
  have hz : (w.alloc (.cells #[.int .i64 0, .map none] 45)).heap.size = w.heap.size + 1 := by simp
  have k1 : Blk W0 w.heap.size 45 [.int .i64 0, .map none] := by
    subst hW
    exact (Blk.new w _ [.int .i64 0, .map none]).below ((Below.refl _ _).alloc (Nat.le_refl _) _) (by simp)
  have k2 : Blk W0 (w.heap.size + 1) 23 [.pointer none, .pointer (some ⟨w.heap.size, 0, none⟩)] := by
    subst hW
    have := Blk.new (w.alloc (.cells #[.int .i64 0, .map none] 45)) 23 [.pointer none, .pointer (some ⟨w.heap.size, 0, none⟩)]
    rw [hz] at this
    exact this
  rcases (show j = 0 ∨ j = 1 by omega) with rfl | rfl
  · exact ⟨.pointer none, fun W hb => (k2.below hb k2.lt).cell 0, fun W hb => .inl rfl⟩
  · exact ⟨.pointer (some ⟨w.heap.size, 0, none⟩), fun W hb => (k2.below hb k2.lt).cell 1, fun W hb => .inr ⟨_, rfl, k1.below hb k1.lt⟩⟩

set_option maxRecDepth 100000 in
set_option maxHeartbeats 6400000 in
theorem walk (n k : Int) (w : World) (hk : (Lit.int .i64 k).wf = true) :
    Calls Try.prog 6 #[.int .i64 n, .int .i64 k] w fun e w' => e = .returned (.bool true) ∧ Below w.heap.size w w' := by
  have hb0 : Below w.heap.size w ((w.alloc (.cells #[.int .i64 0, .map none] 45)).alloc (.cells #[.pointer none, .pointer (some ⟨w.heap.size, 0, none⟩)] 23)) := ((Below.refl _ _).alloc (Nat.le_refl _) _).alloc (by simp) _
  have hs0 : w.heap.size ≤ ((w.alloc (.cells #[.int .i64 0, .map none] 45)).alloc (.cells #[.pointer none, .pointer (some ⟨w.heap.size, 0, none⟩)] 23)).heap.size := hb0.size
  have HT := Lib.hid (fun (j : Nat) (hj : j < 2) => two w hj _ rfl)
  have HB0 := Lib.hid (And.intro hb0 hs0)
  clear hk hb0 hs0
  go_enter Try.func6, Try.ntmps6
  go_wp2_with fail
  generalize hW0 : (w.alloc (.cells #[.int .i64 0, .map none] 45)).alloc (.cells #[.pointer none, .pointer (some ⟨w.heap.size, 0, none⟩)] 23) = W0 at HT HB0 ⊢
  clear hW0
  go_loopw [6] (fun i wr => ∃ j : Nat, j ≤ 2 ∧ i = .int .i64 (j : Int) ∧ Below W0.heap.size W0 wr) (fun i _ => 2 - (intOf i).toNat)
  case atStart => exact ⟨0, by omega, rfl, Below.refl _ _⟩
  case round =>
    obtain ⟨j, hj, rfl, hbr⟩ := hrel
    have HBR := Lib.hid hbr
    clear hbr
    by_cases hlt : j < 2
    · have h1 : (j : Int) < 2 := by omega
      obtain ⟨v, hc, hn⟩ := HT.out j hlt
      have HC := Lib.hid hc; have HN := Lib.hid hn
      have c1 := HC.out _ HBR.out
      have HKB := HBR
      clear hc hn
      go_wp2_with (first
        | (go_at_call 17; refine (HeadNo (HN.out _ HKB.out)).mono ?_; rintro e wx ⟨rfl, hb⟩; have c2 := HC.out _ (HKB.out.trans (hb.mono HKB.out.size)); replace HKB := Lib.hid (HKB.out.trans (hb.mono HKB.out.size)); clear hb)
        | (go_at_call 15; refine (AtI_of (getNoI (HN.out _ HKB.out) k)).mono ?_; rintro e wx ⟨rfl, hb⟩; have c2 := HC.out _ (HKB.out.trans (hb.mono HKB.out.size)); replace HKB := Lib.hid (HKB.out.trans (hb.mono HKB.out.size)); clear hb; unfold retAtI)
        | (go_at_call 9; refine (CommitNo (HN.out _ HKB.out) n).mono ?_; rintro e wx ⟨rfl, hb⟩; have c2 := HC.out _ (HKB.out.trans (hb.mono HKB.out.size)); replace HKB := Lib.hid (HKB.out.trans (hb.mono HKB.out.size)); clear hb)
        | (go_at_call 11; refine (PinNo (HN.out _ HKB.out)).mono ?_; rintro e wx ⟨rfl, hb⟩; have c2 := HC.out _ (HKB.out.trans (hb.mono HKB.out.size)); replace HKB := Lib.hid (HKB.out.trans (hb.mono HKB.out.size)); clear hb)
        | (go_at_call 13; refine (ReleaseNoI_of (getNoI (HN.out _ HKB.out) k)).mono ?_; rintro e wx ⟨rfl, hb⟩; have c2 := HC.out _ (HKB.out.trans (hb.mono HKB.out.size)); replace HKB := Lib.hid (HKB.out.trans (hb.mono HKB.out.size)); clear hb)
        | (go_at_call 21; refine (PinsI_of (getNoI (HN.out _ HKB.out) k)).mono ?_; rintro e wx ⟨rfl, hb⟩; have c2 := HC.out _ (HKB.out.trans (hb.mono HKB.out.size)); replace HKB := Lib.hid (HKB.out.trans (hb.mono HKB.out.size)); clear hb)
        | (go_at_call 18; refine (LiveNo (HN.out _ HKB.out)).mono ?_; rintro e wx ⟨rfl, hb⟩; have c2 := HC.out _ (HKB.out.trans (hb.mono HKB.out.size)); replace HKB := Lib.hid (HKB.out.trans (hb.mono HKB.out.size)); clear hb))
      go_roundw
      case rel => exact ⟨j + 1, by omega, by go_num, HKB.out⟩
      case measure => simp [intOf]; omega
    · have hj2 : j = 2 := by omega
      subst hj2
      go_wp2_with ((go_at_call 20; refine (awake_any _).mono ?_; rintro e wx ⟨rfl, hb⟩))
      go_ret
      exact ⟨rfl, HB0.out.1.trans (((HBR.out).trans (hb.mono HBR.out.size)).mono HB0.out.2)⟩
end Go.Proofs.Ytagfehfggkehmaa.VersionNobody

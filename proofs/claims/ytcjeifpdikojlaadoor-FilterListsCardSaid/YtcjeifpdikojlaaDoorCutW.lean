/-
  The program's cut, at every string and every sign of one byte.
-/
import Derived.Test.YtcjeifpdikojlaaDoorCut
import Derived.Test.YtcjeifpdikojlaaDoorSeat
import Derived.WalkLawsBesides
import Derived.WalkSpells
import Derived.Lib.OthersKept
import Derived.BigQuiet
namespace Go.Proofs.YtcjeifpdikojlaaDoor
set_option linter.unusedVariables false
set_option linter.unusedSimpArgs false
open Go.RowKit

def retCut (x : List UInt8 × List UInt8) : Value := .tuple #[.string ⟨x.1.toArray⟩, .string ⟨x.2.toArray⟩]

set_option maxHeartbeats 1600000 in
theorem cut_any (l : List UInt8) (c : UInt8) (w : World) (hc : c.toNat < 128) (hm : l.length ≤ maxLen) :
    Calls Tryd.prog 64 #[.string ⟨l.toArray⟩, .int .i32 (c.toNat : Int)] w fun e w' => e = .returned (retCut (cutL l c)) ∧ Below w.heap.size w w' := by
  unfold maxLen at hm
  have hit0 := World.iter_heap w ⟨l.toArray⟩ 0
  have hb0 : Below w.heap.size w (w.iter ⟨l.toArray⟩ 0) := (Below.refl _ _).alloc (Nat.le_refl _) _
  have hsz : (⟨l.toArray⟩ : ByteArray).size = l.length := rfl
  go_enter Tryd.func64, Tryd.ntmps64
  go_wp2_with fail
  go_loopw [6, 7] (fun _ _ wr => ∃ pos : Nat, pos ≤ l.length ∧ wr.heap[w.heap.size]? = some (.stringIter ⟨l.toArray⟩ pos) ∧ Below w.heap.size w wr ∧ Hid (NoSign l c pos)) (fun _ _ wr => l.length - wr.iterPos w.heap.size)
  case atStart => exact ⟨0, by omega, hit0, hb0, Lib.hid fun k hk => absurd hk (Nat.not_lt_zero k)⟩
  case round =>
    obtain ⟨pos, hps, hit, hbw, hns⟩ := hrel
    clear hit0 hb0
    have hszw : w.heap.size < wr.heap.size := (Array.getElem?_eq_some_iff.1 hit).1
    by_cases hp : pos < l.length
    · have hnx := fun ty => Lib.run_next_any_at (P := Tryd.prog) wr w.heap.size ⟨l.toArray⟩ pos ty hit hp
      obtain ⟨r, wd, hd, hr, hwd, hcase⟩ := next_sign l c hc pos hp hns.out
      rw [hd] at hnx
      have hit2 := Lib.iterAt_heap wr w.heap.size ⟨l.toArray⟩ pos (pos + wd) hit
      have hbw2 := Lib.below_iterAt hbw (k := w.heap.size) (by omega) ⟨l.toArray⟩ (pos + wd)
      have hmu : wr.iterPos w.heap.size = pos := by simp [World.iterPos, hit]
      rcases hcase with ⟨hrc, hat⟩ | ⟨hrc, hle, hns2⟩
      · have e1 := Lib.hid (cut_at l c pos hp hns.out hat)
        have HD := Lib.hid hd; have HA := Lib.hid hat
        obtain rfl := hrc
        have x1 := ba_ext l 0 pos
        have x2 := ba_ext l (pos + 1) l.length
        rw [List.drop_zero] at x1
        rw [List.take_length] at x2
        have hle1 : ((pos : Int) + 1) ≤ (l.length : Int) := by omega
        clear hd hat hns
        go_wp2
        go_quiet (fail)
        go_wp2
        exact bodyPost_ret (v := retCut (l.take pos, l.drop (pos + 1))) (by simp [results, Tryd.results64, go_sem, retCut]) rfl ⟨by rw [e1.out], below_drewN hbw2 _⟩
      · have HN := Lib.hid hns2
        have hne : ¬ (r : Int) = (c.toNat : Int) := by omega
        clear hd hns2 hns
        go_wp2
        go_roundw
        case rel => exact ⟨pos + wd, hle, hit2, hbw2, HN⟩
        case measure =>
          rw [hmu]
          simp only [World.iterPos, hit2]
          omega
    · have hnx := fun ty => Lib.run_next_end_at (P := Tryd.prog) wr w.heap.size ⟨l.toArray⟩ pos ty hit hp
      obtain rfl : pos = l.length := by omega
      have e1 := Lib.hid (cut_none l c hns.out)
      clear hns
      go_wp2
      exact bodyPost_ret (v := retCut (l, [])) (by simp [results, Tryd.results64, go_sem, retCut]) rfl ⟨by rw [e1.out], hbw⟩
end Go.Proofs.YtcjeifpdikojlaaDoor

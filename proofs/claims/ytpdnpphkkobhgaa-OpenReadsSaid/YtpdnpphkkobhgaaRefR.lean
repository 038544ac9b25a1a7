/-
  The document's reader: what each of its calls tells, and where it stands behind it.
-/
import Derived.Test.YtpdnpphkkobhgaaByte
import Derived.Lib.Hide
import Derived.Deep.QuietTactic
import Derived.BigQuiet
import Derived.Deep.RegionHeld3
import Derived.Deep.RegionLaw
import Derived.StillTailTactics
namespace Go.Proofs.Ytpdnpphkkobhgaa
open Go.RowKit

/-- Block g holds the document's reader of the bytes l, at the place k; s: is it short? -/
def RR (w : World) (B g : Nat) (l : List UInt8) (k : Nat) (s : Bool) : Prop :=
  B ≤ g ∧ ∃ A c, Blk w g 74 [.slice A l.length c, .int .i64 (k : Int), .bool s] ∧ k ≤ l.length ∧ l.length ≤ c ∧ c ≤ maxLen ∧ At w B A l

section
variable {w w' : World} {B g k : Nat} {l : List UInt8} {s : Bool}
theorem RR.below {B' : Nat} (h : RR w B g l k s) (hb : Below B' w w') (hg : g < B') : RR w' B g l k s := by
  obtain ⟨hB, A, c, hk, h0, h1, h2, hA⟩ := h
  exact ⟨hB, A, c, hk.below hb hg, h0, h1, h2, hA.below hb (by omega)⟩
theorem RR.grown {g' : Nat} (h : RR w B g l k s) (hb : w.grownBy w' (some g')) (hg : g ≠ g') (hB' : B ≤ g') : RR w' B g l k s := by
  obtain ⟨hB, A, c, hk, h0, h1, h2, hA⟩ := h
  exact ⟨hB, A, c, hk.grown hb hg, h0, h1, h2, hA.grown hb hB'⟩
theorem RR.lt (h : RR w B g l k s) : g < w.heap.size := by obtain ⟨_, _, _, hk, _⟩ := h; exact hk.lt
end

/-- What the document's reader tells of a Take of n. -/
def refTake (l : List UInt8) (k : Nat) (s : Bool) (n : Int) : List UInt8 × Nat × Bool := if s = false ∧ 0 ≤ n ∧ n ≤ (l.length : Int) - k then ((l.drop k).take n.toNat, k + n.toNat, false) else ([], k, true)

def RefTakePost (w : World) (B g : Nat) (l res : List UInt8) (k : Nat) (s : Bool) (e : Ending) (w' : World) : Prop :=
  ∃ A c, e = .returned (.slice A res.length c) ∧ res.length ≤ c ∧ c ≤ maxLen ∧ Own w' w.heap.size 5 (.slice A res.length c) res ∧ RR w' B g l k s ∧ w.grownBy w' (some g)

theorem ref_bad_end {w : World} {B g k c : Nat} {l : List UInt8} {s : Bool} {A : Option Addr} (hB : B ≤ g) (hk : Blk w g 74 [.slice A l.length c, .int .i64 (k : Int), .bool s]) (h0 : k ≤ l.length) (h1 : l.length ≤ c) (h2 : c ≤ maxLen) (hA : At w B A l) :
    RefTakePost w B g l [] k true (.returned (.slice none 0 0)) (w.setCell ⟨g, 2, none⟩ (.bool true)) := by
  have hg : w.grownBy (w.setCell ⟨g, 2, none⟩ (.bool true)) (some g) := grown_setCell (grown_refl _ _) _ _
  refine ⟨none, 0, rfl, by simp, by simp, Own.nil _ _ _, ⟨hB, A, c, ?_, h0, h1, h2, hA.grown hg hB⟩, hg⟩
  exact hk.set 2 (.bool true)

theorem refPost_drewN {w : World} {B g k n : Nat} {l res : List UInt8} {s : Bool} {e : Ending} {w' : World} (h : RefTakePost (w.drewN n) B g l res k s e w') : RefTakePost w B g l res k s e w' := by
  obtain ⟨A, c, h1, h2, h3, h4, h5, hg⟩ := h
  exact ⟨A, c, h1, h2, h3, h4, h5, ⟨hg.os, hg.tape, hg.output, hg.size, hg.block⟩⟩

set_option maxHeartbeats 800000 in
theorem refTake_bad (n : Int) (B g : Nat) (l : List UInt8) (k : Nat) (s : Bool) (w : World) (h : RR w B g l k s) (hn : n < 0 ∨ (l.length : Int) - k < n) (hl : l.length ≤ 1000000) :
    Calls Try.prog 52 #[.pointer (some ⟨g, 0, none⟩), .int .i64 n] w (RefTakePost w B g l [] k true) := by
  obtain ⟨hB, A, c, hk, h0, h1, h2, hA⟩ := h
  have c0 : w.cell? ⟨g, 0, none⟩ = some (.slice A l.length c) := hk.cell 0
  have c1 : w.cell? ⟨g, 1, none⟩ = some (.int .i64 (k : Int)) := hk.cell 1
  have c2 : w.cell? ⟨g, 2, none⟩ = some (.bool s) := hk.cell 2
  have f2 : w.frozen? ⟨g, 2, none⟩ = false := hk.free 2
  have F := fun nq => Lib.hid (refPost_drewN (ref_bad_end (w := w.drewN nq) hB (hk.drewN nq) h0 h1 h2 hA))
  clear hk hA
  by_cases hn0 : n < 0
  · have hd : decide (n < 0) = true := by simpa using hn0
    go_enter Try.func52, Try.ntmps52
    go_wp2_with fail
    go_quiet (fail)
    go_wp2_with fail
    go_ret
    exact (F _).out
  · have hd : decide (n < 0) = false := by simpa using hn0
    have hn1 : (l.length : Int) - k < n := by omega
    go_enter Try.func52, Try.ntmps52
    go_wp2_with fail
    go_quiet (fail)
    go_wp2_with fail
    go_ret
    exact (F _).out

theorem ref_short_end {w : World} {B g k n : Nat} {l : List UInt8} (h : RR w B g l k true) : RefTakePost w B g l [] k true (.returned (.slice none 0 0)) (w.drewN n) :=
  ⟨none, 0, rfl, by simp, by simp, Own.nil _ _ _, h, grown_drewN (grown_refl _ _) _⟩

set_option maxHeartbeats 800000 in
theorem refTake_short (n : Int) (B g : Nat) (l : List UInt8) (k : Nat) (w : World) (h : RR w B g l k true) (h3 : 0 ≤ n) (h4 : n ≤ (l.length : Int) - k) (hl : l.length ≤ 1000000) :
    Calls Try.prog 52 #[.pointer (some ⟨g, 0, none⟩), .int .i64 n] w (RefTakePost w B g l [] k true) := by
  have F := fun nq => Lib.hid (ref_short_end (n := nq) h)
  obtain ⟨hB, A, c, hk, h0, h1, h2, hA⟩ := h
  have c0 : w.cell? ⟨g, 0, none⟩ = some (.slice A l.length c) := hk.cell 0
  have c1 : w.cell? ⟨g, 1, none⟩ = some (.int .i64 (k : Int)) := hk.cell 1
  have c2 : w.cell? ⟨g, 2, none⟩ = some (.bool true) := hk.cell 2
  clear hk hA
  have hd : decide (n < 0) = false := by simp; omega
  have hn1 : ¬ (l.length : Int) - k < n := by omega
  go_enter Try.func52, Try.ntmps52
  go_wp2_with fail
  go_quiet (fail)
  go_wp2_with fail
  go_ret
  exact (F _).out

theorem byte_lt (b : UInt8) : (b.toNat : Int) < 256 := by have := b.toNat_lt; omega

theorem len_lt {l : List UInt8} {k j m : Nat} (hl : l.length ≤ 1000000) (_hj : j ≤ m) : ((l.drop k).take j).length < 140737488355328 := by
  simp only [List.length_take, List.length_drop]
  omega

theorem own_take {w' : World} {B e : Nat} {v : Value} {l : List UInt8} {k j : Nat} (h : k + j < l.length) (ho : Own w' B e v ((l.drop k).take j ++ [UInt8.ofNat ((l[k + j]?.getD 0).toNat : Int).toNat])) : Own w' B e v ((l.drop k).take (j + 1)) := by
  rw [take_snoc _ j (by simp; omega)]
  have e1 : UInt8.ofNat ((l[k + j]?.getD 0).toNat : Int).toNat = (l.drop k).getD j 0 := by simp [List.getD, List.getElem?_drop]
  rw [e1] at ho
  exact ho

theorem ref_ok_end {w wr : World} {B g k m c c' : Nat} {l : List UInt8} {A A' : Option Addr} (hB : B ≤ g) (hlt : g < w.heap.size) (hk : Blk wr g 74 [.slice A l.length c, .int .i64 (k : Int), .bool false]) (_h : g < w.heap.size) (_h0 : k ≤ l.length) (h1 : l.length ≤ c) (h2 : c ≤ maxLen)
    (h4 : k + m ≤ l.length) (hA : At w B A l) (hbr : Below w.heap.size w wr) (ho : Own wr w.heap.size 5 (.slice A' ((l.drop k).take m).length c') ((l.drop k).take m)) :
    ∀ n r, n = ((l.drop k).take m).length → r = ((k : Int) + (m : Int)) → RefTakePost w B g l ((l.drop k).take m) (k + m) false (.returned (.slice A' n c')) (wr.setCell ⟨g, 1, none⟩ (.int .i64 r)) := by
  intro n r hn hr
  subst hn; subst hr
  obtain ⟨A1, c1, hv, k1, k2⟩ := ho.form
  simp only [Value.slice.injEq, true_and] at hv
  obtain ⟨rfl, rfl⟩ := hv
  have hg : w.grownBy (wr.setCell ⟨g, 1, none⟩ (.int .i64 ((k : Int) + (m : Int)))) (some g) := grown_setCell (grown_of_below hbr _) _ _
  have hg2 : wr.grownBy (wr.setCell ⟨g, 1, none⟩ (.int .i64 ((k : Int) + (m : Int)))) (some g) := grown_setCell (grown_refl _ _) _ _
  refine ⟨A', c', rfl, k1, k2, ?_, ⟨hB, A, c, ?_, h4, h1, h2, hA.grown hg hB⟩, hg⟩
  · exact World.ownsRow.kept ho hg2 (.inr (fun e => by have := ho.blk e; omega))
  · have := hk.set 1 (.int .i64 ((k : Int) + (m : Int)))
    rw [Int.natCast_add]
    exact this

def RefLoop (w : World) (l : List UInt8) (k : Nat) (m : Nat) (v i : Value) (wr : World) : Prop :=
  Below w.heap.size w wr ∧ ∃ j : Nat, j ≤ m ∧ i = .int .i64 (j : Int) ∧ Own wr w.heap.size 5 v ((l.drop k).take j)

set_option maxHeartbeats 1600000 in
theorem refTake_ok (m : Nat) (B g : Nat) (l : List UInt8) (k : Nat) (w : World) (h : RR w B g l k false) (h4 : k + m ≤ l.length) (hl : l.length ≤ 1000000) :
    Calls Try.prog 52 #[.pointer (some ⟨g, 0, none⟩), .int .i64 (m : Int)] w (RefTakePost w B g l ((l.drop k).take m) (k + m) false) := by
  obtain ⟨hB, A, c, hk, h0, h1, h2, hA⟩ := h
  have hlt := hk.lt
  have c0 : w.cell? ⟨g, 0, none⟩ = some (.slice A l.length c) := hk.cell 0
  have c1 : w.cell? ⟨g, 1, none⟩ = some (.int .i64 (k : Int)) := hk.cell 1
  have c2 : w.cell? ⟨g, 2, none⟩ = some (.bool false) := hk.cell 2
  have HK := Lib.hid hk; have HA := Lib.hid hA
  clear hk hA
  have hd : decide ((m : Int) < 0) = false := by simp
  have hn1 : ¬ (l.length : Int) - k < m := by omega
  go_enter Try.func52, Try.ntmps52
  go_wp2_with fail
  go_quiet (fail)
  go_wp2_with fail
  clear c0 c1 c2
  go_loopw [5, 6] (fun v i wr => RefLoop w l k m v i wr) (fun _ i _ => m - (intOf i).toNat)
  case atStart => exact ⟨below_drewN (Below.refl _ _) _, 0, by omega, rfl, Own.nil _ _ _⟩
  case round =>
    obtain ⟨hbr, j, hj, rfl, hown⟩ := hrel
    have HO := Lib.hid hown; clear hown
    have hkr := HK.out.below hbr hlt
    have c0 : wr.cell? ⟨g, 0, none⟩ = some (.slice A l.length c) := hkr.cell 0
    have c1 : wr.cell? ⟨g, 1, none⟩ = some (.int .i64 (k : Int)) := hkr.cell 1
    by_cases hjm : j < m
    · obtain ⟨b, off, rfl, hb1, hc⟩ := (HA.out.below hbr (by omega)).cell (k := k + j) (by omega)
      have HR := Lib.hid hkr; clear hkr
      have n0 := World.new_ne wr _ c0
      have n1 := World.new_ne wr _ c1
      have n2 := World.new_ne wr _ hc
      have S3 : ∀ w', Below w.heap.size w w' → w'.cell? ⟨g, 0, none⟩ = some (.slice (some ⟨b, off, none⟩) l.length c) ∧ w'.cell? ⟨g, 1, none⟩ = some (.int .i64 (k : Int)) ∧ w'.cell? ⟨b, off + (k + j), none⟩ = some (.int .u8 ((l.getD (k + j) 0).toNat : Int)) :=
        fun w' hbx => ⟨(HK.out.below hbx hlt).cell 0, (HK.out.below hbx hlt).cell 1, ((hbx.cell (p := ⟨b, off + (k + j), none⟩) (by exact Nat.lt_of_lt_of_le hb1 (Nat.le_trans hB (Nat.le_of_lt hlt)))).trans (hbr.cell (p := ⟨b, off + (k + j), none⟩) (by exact Nat.lt_of_lt_of_le hb1 (Nat.le_trans hB (Nat.le_of_lt hlt)))).symm).trans hc⟩
      have hS3 := Lib.hid S3; clear S3
      go_wp2_with fail
      have i1 : (0 : Int) ≤ (k : Int) + (j : Int) := by omega
      have i2 : (k : Int) + (j : Int) < (l.length : Int) := by omega
      have i3 : ((k : Int) + (j : Int)).toNat = k + j := by omega
      have i4 : IntKind.i64.wrap ((k : Int) + (j : Int)) = (k : Int) + (j : Int) := IntWalk.i64_in _ (by omega)
      go_region_held3 (fun w' => w'.cell? ⟨g, 0, none⟩ = some (.slice (some ⟨b, off, none⟩) l.length c) ∧ w'.cell? ⟨g, 1, none⟩ = some (.int .i64 (k : Int)) ∧ w'.cell? ⟨b, off + (k + j), none⟩ = some (.int .u8 ((l.getD (k + j) 0).toNat : Int))) (first | exact hS3.out _ hbx | go_keep) ((refine step_append_byte isBytes (by rfl) (.tmp 36) (.tmp 49) (by rfl) w _ _ (by rfl) wr ((l[k + j]?.getD 0).toNat : Int) (by rfl) HO.out (by rfl) (Int.natCast_nonneg _) (byte_lt _) (len_lt hl hj) hbr ?_; intro v' w' hown' _ hbx))
      have hfin := Lib.hid (own_take (by omega) hown')
      have hbx' := Lib.hid hbx
      clear hown' hbx hbr i1 i2 i3 i4 n0 n1 n2 c0 c1 hc
      go_wp2
      go_roundw
      case rel => exact ⟨hbx'.out, j + 1, by omega, by go_num, hfin.out⟩
      case measure => simp [intOf]; omega
    · obtain rfl : j = m := by omega
      obtain ⟨A', c', rfl, k1, k2⟩ := HO.out.form
      have f1 : wr.frozen? ⟨g, 1, none⟩ = false := hkr.free 1
      have hfin := Lib.hid (ref_ok_end hB hlt hkr HK.out.lt h0 h1 h2 h4 HA.out hbr HO.out)
      clear hkr hbr HO
      go_wp2
      go_ret
      exact hfin.out _ _ (by simp) rfl
end Go.Proofs.Ytpdnpphkkobhgaa

/-
  The document's reader, its other calls; and that it tells what the reader tells.
-/
import Derived.Test.YtpdnpphkkobhgaaRefR
namespace Go.Proofs.Ytpdnpphkkobhgaa
open Go.RowKit

theorem refTake_any (n : Int) (B g : Nat) (l : List UInt8) (k : Nat) (s : Bool) (w : World) (h : RR w B g l k s) (hl : l.length ≤ 1000000) :
    Calls Try.prog 52 #[.pointer (some ⟨g, 0, none⟩), .int .i64 n] w (RefTakePost w B g l (refTake l k s n).1 (refTake l k s n).2.1 (refTake l k s n).2.2) := by
  have hk : k ≤ l.length := by obtain ⟨_, _, _, _, h0, _⟩ := h; exact h0
  unfold refTake
  by_cases hn : 0 ≤ n ∧ n ≤ (l.length : Int) - k
  · cases s with
    | true =>
      rw [if_neg (by simp)]
      exact refTake_short n B g l k w h hn.1 hn.2 hl
    | false =>
      rw [if_pos ⟨rfl, hn⟩]
      obtain ⟨m, rfl⟩ := Int.eq_ofNat_of_zero_le hn.1
      exact refTake_ok m B g l k w h (by omega) hl
  · rw [if_neg (fun e => hn e.2)]
    exact refTake_bad n B g l k s w h (by omega) hl

/-- What lies before the document's reader. -/
def before (l : List UInt8) (k : Nat) (s : Bool) : List UInt8 := match s with | true => [] | false => l.drop k

/-- THE TWO READERS TELL THE SAME. -/
theorem readers_same (l : List UInt8) (k : Nat) (s : Bool) (n : Int) (hk : k ≤ l.length) :
    (rdTake (before l k s) s n).1 = (refTake l k s n).1 ∧ (rdTake (before l k s) s n).2.1 = before l (refTake l k s n).2.1 (refTake l k s n).2.2 ∧ (rdTake (before l k s) s n).2.2 = (refTake l k s n).2.2 ∧ (refTake l k s n).2.1 ≤ l.length := by
  unfold rdTake refTake
  cases s with
  | true =>
    rw [if_neg (show ¬ (true = false ∧ _) by simp)]
    by_cases hn : 0 ≤ n ∧ n ≤ ((before l k true).length : Int)
    · rw [if_pos hn]
      simp [before, hk]
    · rw [if_neg hn]
      simp [before, hk]
  | false =>
    have e1 : ((before l k false).length : Int) = (l.length : Int) - k := by simp [before]; omega
    by_cases hn : 0 ≤ n ∧ n ≤ (l.length : Int) - k
    · have hp : 0 ≤ n ∧ n ≤ ((before l k false).length : Int) := by rw [e1]; exact hn
      have hq : false = false ∧ 0 ≤ n ∧ n ≤ (l.length : Int) - k := ⟨rfl, hn⟩
      rw [if_pos hp, if_pos hq]
      simp only [before, List.drop_drop]
      exact ⟨trivial, trivial, trivial, by omega⟩
    · have hp : ¬ (0 ≤ n ∧ n ≤ ((before l k false).length : Int)) := by rw [e1]; exact hn
      have hq : ¬ (false = false ∧ 0 ≤ n ∧ n ≤ (l.length : Int) - k) := fun e => hn e.2
      rw [if_neg hp, if_neg hq]
      simp [before, hk]

def RefNumPost (w : World) (B g : Nat) (l res : List UInt8) (k : Nat) (s : Bool) (e : Ending) (w' : World) : Prop :=
  e = .returned (.int .i64 (num res : Nat)) ∧ RR w' B g l k s ∧ w.grownBy w' (some g)

theorem refTake_len (l : List UInt8) (k : Nat) (s : Bool) (n : Int) : ((refTake l k s n).1.length : Int) ≤ max n 0 := by
  unfold refTake
  split
  · simp only [List.length_take]; omega
  · simp only [List.length_nil]; omega

set_option maxHeartbeats 800000 in
theorem refNum_any (n : Int) (B g : Nat) (l : List UInt8) (k : Nat) (s : Bool) (w : World) (h : RR w B g l k s) (hl : l.length ≤ 1000000) (hn : n ≤ 4) :
    Calls Try.prog 43 #[.pointer (some ⟨g, 0, none⟩), .int .i64 n] w (RefNumPost w B g l (refTake l k s n).1 (refTake l k s n).2.1 (refTake l k s n).2.2) := by
  have hr := refTake_len l k s n
  have hlt := h.lt
  have h22 := Lib.hid (refTake_any n B g l k s w h hl)
  clear h
  obtain ⟨X, hX⟩ : ∃ X, X = refTake l k s n := ⟨_, rfl⟩
  rw [← hX] at h22 hr ⊢
  have HX := Lib.hid hX; clear hX
  have h4 : X.1.length ≤ 4 := by omega
  clear hr
  go_enter Try.func43, Try.ntmps43
  go_wp2_with fail
  refine h22.out.mono ?_
  rintro e w1 ⟨A1, c1, rfl, f1, f2, hown1, hR1, hg1⟩
  have hB1 := hown1.bytes
  have HB := Lib.hid hB1; have HR := Lib.hid hR1; have HG := Lib.hid hg1; clear hB1 hR1 hg1 hown1
  go_wp2_with fail
  go_loop [5, 7] (fun x i => ∃ j : Nat, j ≤ X.1.length ∧ i = .int .i64 (j : Int) ∧ x = .int .i64 (num (X.1.take j) : Nat)) (fun _ i => X.1.length - (intOf i).toNat)
  case atStart => exact ⟨0, by omega, rfl, rfl⟩
  case round =>
    obtain ⟨j, hj, rfl, rfl⟩ := hrel
    by_cases hlt : j < X.1.length
    · obtain ⟨b, off, rfl, _, hc⟩ := HB.out.cell hlt
      have e1 := Lib.hid (num_take X.1 j hlt)
      have hb := num_lt3 (l := X.1.take j) (by simp; omega)
      have hb2 := (X.1[j]).toNat_lt
      go_wp2
      go_round
      case rel => exact ⟨j + 1, by omega, by go_num, by rw [e1.out]; go_num⟩
      case measure => simp [intOf]; omega
    · go_wp2
      go_ret
      exact ⟨by rw [List.take_of_length_le (by omega)]; rfl, HR.out, HG.out⟩

end Go.Proofs.Ytpdnpphkkobhgaa

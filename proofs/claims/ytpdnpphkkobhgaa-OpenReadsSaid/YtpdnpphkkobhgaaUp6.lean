/-
  Are all numbers from 0 to the greatest that may be?
-/
import Derived.Test.YtpdnpphkkobhgaaSeat
import Derived.Test.YtpdnpphkkobhgaaInts7
namespace Go.Proofs.Ytpdnpphkkobhgaa
set_option linter.unusedVariables false
open Go.RowKit

def inUp (g n : Int) : Bool := decide (0 ≤ n ∧ n ≤ g)
def allUp (g : Int) (l : List Int) : Bool := l.all (inUp g)
theorem upTo1_any (n g : Int) (b : Nat) (w : World) (hg : w.cell? ⟨b, 0, none⟩ = some (.int .i64 g)) :
    Calls Try.prog 45 #[.int .i64 n, .pointer (some ⟨b, 0, none⟩)] w fun e w' => e = .returned (.bool (!inUp g n)) ∧ w = w' := by
  by_cases h0 : n < 0
  · have e := Lib.hid (show (!inUp g n) = true by simp [inUp]; omega)
    go_enter Try.func45, Try.ntmps45
    go_wp2_with fail
    go_ret
    exact ⟨by rw [e.out]; rfl, rfl⟩
  · by_cases h1 : g < n
    · have e := Lib.hid (show (!inUp g n) = true by simp [inUp]; omega)
      go_enter Try.func45, Try.ntmps45
      go_wp2_with fail
      go_ret
      exact ⟨by rw [e.out]; rfl, rfl⟩
    · have e := Lib.hid (show (!inUp g n) = false by simp [inUp]; omega)
      go_enter Try.func45, Try.ntmps45
      go_wp2_with fail
      go_ret
      exact ⟨by rw [e.out]; rfl, rfl⟩
theorem allUp_step {g : Int} {l : List Int} {j : Nat} (hj : j < l.length) (h : allUp g (l.take j) = true) (hb : (!inUp g (l.getD j 0)) = false) : allUp g (l.take (j + 1)) = true := by
  have e : l.getD j 0 = l[j] := by simp [List.getD, hj]
  unfold allUp at h ⊢
  rw [List.take_succ_eq_append_getElem hj, List.all_append, h, ← e]
  simpa using hb
theorem allUp_no {g : Int} {l : List Int} {j : Nat} (hj : j < l.length) (hb : (!inUp g (l.getD j 0)) = true) : allUp g l = false := by
  have e : l.getD j 0 = l[j] := by simp [List.getD, hj]
  rw [e] at hb
  unfold allUp
  rw [List.all_eq_false]
  exact ⟨l[j], List.getElem_mem hj, by simpa using hb⟩
/-- What a search leaves. -/
def Found6 (b : Bool) (e : Ending) : Prop := ∃ k : Int, e = .returned (.int .i64 k) ∧ -1 ≤ k ∧ k ≤ 1152921504606846976 ∧ decide (0 ≤ k) = b
set_option maxHeartbeats 1600000 in
theorem IndexFunc6_any (A : Option Addr) (c : Nat) (l : List Int) (g : Int) (b : Nat) (w : World) (h : Ints w A l) (hl : l.length ≤ 1152921504606846976) (hg : w.cell? ⟨b, 0, none⟩ = some (.int .i64 g)) :
    Calls Try.prog 53 #[.slice A l.length c, .func (.func 45) #[] #[.pointer (some ⟨b, 0, none⟩)]] w fun e w' => Found6 (!allUp g l) e ∧ w = w' := by
  have HS := Lib.hid h; clear h
  have HG := Lib.hid hg; clear hg
  go_enter Try.func53, Try.ntmps53
  go_wp2_with fail
  go_loop [8] (fun i => ∃ j : Nat, j ≤ l.length ∧ i = .int .i64 (j : Int) ∧ Hid (allUp g (l.take j) = true)) (fun i => l.length - (intOf i).toNat)
  case atStart => exact ⟨0, Nat.zero_le _, rfl, Lib.hid (by simp [allUp])⟩
  case round =>
    obtain ⟨j, hj, rfl, hno⟩ := hrel
    by_cases hlt : j < l.length
    · obtain ⟨b2, off, rfl, hb, k1⟩ := HS.out.cell hlt
      have Q := Lib.hid (upTo1_any (l.getD j 0) g b w HG.out)
      have HNo := Lib.hid (fun h : (!inUp g (l.getD j 0)) = true => allUp_no hlt h)
      have HSt := Lib.hid (fun h : (!inUp g (l.getD j 0)) = false => allUp_step hlt hno.out h)
      obtain ⟨x, hx⟩ : ∃ x, x = l.getD j 0 := ⟨_, rfl⟩
      rw [← hx] at k1 Q HNo HSt
      clear hx
      cases hn : (!inUp g x) with
      | true =>
        rw [hn] at Q
        have HN := Lib.hid (HNo.out hn)
        clear hn HNo HSt
        go_wp2_with (go_at_call 45; refine Q.out.mono ?_; rintro e w2 ⟨rfl, rfl⟩)
        go_ret
        exact ⟨⟨_, rfl, by omega, by omega, by rw [HN.out]; simp⟩, rfl⟩
      | false =>
        rw [hn] at Q
        have HN := Lib.hid (HSt.out hn)
        clear hn HNo HSt
        go_wp2_with (go_at_call 45; refine Q.out.mono ?_; rintro e w2 ⟨rfl, rfl⟩)
        go_roundw
        case rel => exact ⟨j + 1, by omega, by go_num, HN⟩
        case measure => simp [intOf]; omega
    · obtain rfl : j = l.length := by omega
      go_wp2_with fail
      go_ret
      exact ⟨⟨_, rfl, by omega, by omega, by have := hno.out; rw [List.take_length] at this; rw [this]; rfl⟩, rfl⟩
theorem ContainsFunc6_any (A : Option Addr) (c : Nat) (l : List Int) (g : Int) (b : Nat) (w : World) (h : Ints w A l) (hl : l.length ≤ 1152921504606846976) (hg : w.cell? ⟨b, 0, none⟩ = some (.int .i64 g)) :
    Calls Try.prog 44 #[.slice A l.length c, .func (.func 45) #[] #[.pointer (some ⟨b, 0, none⟩)]] w fun e w' => e = .returned (.bool (!allUp g l)) ∧ w = w' := by
  have Q := Lib.hid (IndexFunc6_any A c l g b w h hl hg); clear h hg
  go_enter Try.func44, Try.ntmps44
  go_wp2_with fail
  refine Q.out.mono ?_
  rintro e w1 ⟨⟨k, rfl, f1, f2, hk⟩, rfl⟩
  have HK := Lib.hid hk; clear hk
  go_wp2_with fail
  go_ret
  exact ⟨by rw [← HK.out]; rfl, rfl⟩
theorem upTo_any (g : Int) (A : Option Addr) (n c : Nat) (l : List Int) (hn : n = l.length) (w : World) (h : Ints w A l) (hl : l.length ≤ 1152921504606846976) :
    Calls Try.prog 27 #[.int .i64 g, .slice A n c] w fun e w' => e = .returned (.bool (allUp g l)) ∧ Below w.heap.size w w' := by
  subst hn
  have hb := (Below.refl w.heap.size w).alloc (Nat.le_refl _) (.cells #[.int .i64 g] 3)
  have Q := Lib.hid (ContainsFunc6_any A c l g w.heap.size (w.alloc (.cells #[.int .i64 g] 3)) (h.below hb) hl ((Blk.new w 3 [.int .i64 g]).cell 0))
  have HB := Lib.hid hb; clear h hb
  go_enter Try.func27, Try.ntmps27
  go_wp2_with fail
  refine Q.out.mono ?_
  rintro e w1 ⟨rfl, rfl⟩
  go_wp2_with fail
  go_ret
  exact ⟨by simp, HB.out⟩
end Go.Proofs.Ytpdnpphkkobhgaa

/-
  P21.3: whether any step is one of the table: the walk.
-/
import Derived.Test.YthjnbjhdepfclaaDoorRefLegal21
namespace Go.Proofs.YthjnbjhdepfclaaDoor.FsmLegal
set_option linter.unusedVariables false
set_option linter.unusedSimpArgs false
open Go.RowKit

set_option maxRecDepth 100000 in
set_option maxHeartbeats 12800000 in
theorem walk0 (E F : Int) (T C S : Int) (Z : Option Addr) (zp : Nat) (z : List Int) (A : Option Addr) (c : Nat) (l : List UInt8) (w : World) (hy : Bytes w A l) (hl : l.length ≤ c) (hm : c ≤ maxLen) (hz : IntsAt w w.heap.size Z z) (hzl : z.length ≤ 10) (hl5 : l.length ≤ 500) (ht : TabF w) (B : Bool)
    (h1 : ∀ W, Below w.heap.size w W → Calls Tryd.prog 15 #[.agg #[.int .i64 E, .int .i64 F, .int .i64 T, .slice Z z.length zp, .int .i64 C, .int .i64 S, .slice A l.length c]] W fun r w' => r = .returned (.bool B) ∧ Below W.heap.size W w')
    (h2 : ∀ W, Below w.heap.size w W → Calls Tryd.prog 16 #[.agg #[.int .i64 E, .int .i64 F, .int .i64 T, .slice Z z.length zp, .int .i64 C, .int .i64 S, .slice A l.length c]] W fun r w' => r = .returned (.bool B) ∧ Below W.heap.size W w') :
    Calls Tryd.prog 5 #[.agg #[.int .i64 E, .int .i64 F, .int .i64 T, .slice Z z.length zp, .int .i64 C, .int .i64 S, .slice A l.length c]] w fun r w' => r = .returned (.bool true) ∧ Below w.heap.size w w' := by
  have k0 := Blk.new w 35 [.int .i64 E, .int .i64 F, .int .i64 T, .slice Z z.length zp, .int .i64 C, .int .i64 S, .slice A l.length c]
  obtain ⟨W1, hW1⟩ : ∃ W1, W1 = w.alloc (.cells #[.int .i64 E, .int .i64 F, .int .i64 T, .slice Z z.length zp, .int .i64 C, .int .i64 S, .slice A l.length c] 35) := ⟨_, rfl⟩
  have hb0 : Below w.heap.size w W1 := by rw [hW1]; exact (Below.refl _ _).alloc (Nat.le_refl _) _
  have hk : Blk W1 w.heap.size 35 [.int .i64 E, .int .i64 F, .int .i64 T, .slice Z z.length zp, .int .i64 C, .int .i64 S, .slice A l.length c] := by rw [hW1]; exact k0
  have HW := Lib.hid hW1
  have HB0 := Lib.hid hb0
  have HC := Lib.hid (fun W (q : Below W1.heap.size W1 W) => cells7 (hk.below q hk.lt))
  have c0 := cells7 k0
  have Q1 := Lib.hid h1
  have Q2 := Lib.hid h2
  have QA := Lib.hid (fun W (q : Below W1.heap.size W1 W) => awake21_any W ((ht.go hb0).go q))
  have hbc : Below W1.heap.size W1 W1.drew := (Below.refl _ _).drew
  have HBW := Lib.hid (fun W (q : Below W1.heap.size W1 W) => hb0.trans (q.mono hb0.size))
  have hz10 : ¬ (10 : Int) < (z.length : Int) := by omega
  have hl500 : decide ((500 : Int) < (l.length : Int)) = false := decide_eq_false (by omega)
  have hz10b : decide ((10 : Int) < (z.length : Int)) = false := decide_eq_false (by omega)
  have hl500b : ¬ (500 : Int) < (l.length : Int) := by omega
  have hBB : (B == B) = true := by simp
  clear h1 h2 hb0 hk k0 hW1 hy hl hm hz hzl hl5 ht
  go_enter Tryd.func5, Tryd.ntmps5
  go_wp2_with fail
  rw [← HW.out]
  rw [← HW.out] at c0
  go_region_held3 (fun w' => w'.cell? ⟨w.heap.size, 0, none⟩ = some (.int .i64 E) ∧ w'.cell? ⟨w.heap.size, 1, none⟩ = some (.int .i64 F) ∧ w'.cell? ⟨w.heap.size, 2, none⟩ = some (.int .i64 T) ∧ w'.cell? ⟨w.heap.size, 3, none⟩ = some (.slice Z z.length zp) ∧ w'.cell? ⟨w.heap.size, 4, none⟩ = some (.int .i64 C) ∧ w'.cell? ⟨w.heap.size, 5, none⟩ = some (.int .i64 S) ∧ w'.cell? ⟨w.heap.size, 6, none⟩ = some (.slice A l.length c)) (exact HC.out _ hbc) ((first
    | (go_at_call 15; refine (Q1.out _ (HBW.out _ hbc)).mono ?_; rintro r wx ⟨rfl, hg⟩; replace hbc := hbc.trans (hg.mono hbc.size); clear hg)
    | (go_at_call 16; refine (Q2.out _ (HBW.out _ hbc)).mono ?_; rintro r wx ⟨rfl, hg⟩; replace hbc := hbc.trans (hg.mono hbc.size); clear hg)
    | (go_at_call 11; refine (QA.out _ hbc).mono ?_; rintro r wx ⟨rfl, hg⟩; replace hbc := hbc.trans (hg.mono hbc.size); clear hg)))
  go_wp2_with fail
  go_ret
  exact ⟨rfl, HBW.out _ hbc⟩
set_option maxRecDepth 100000 in
set_option maxHeartbeats 3200000 in
theorem big_z (E F : Int) (T C S : Int) (Z : Option Addr) (zp : Nat) (z : List Int) (A : Option Addr) (c : Nat) (l : List UInt8) (w : World) (ht : TabF w) (hbig : 10 < z.length) :
    Calls Tryd.prog 5 #[.agg #[.int .i64 E, .int .i64 F, .int .i64 T, .slice Z z.length zp, .int .i64 C, .int .i64 S, .slice A l.length c]] w fun r w' => r = .returned (.bool true) ∧ Below w.heap.size w w' := by
  have c0 := cells7 (Blk.new w 35 [.int .i64 E, .int .i64 F, .int .i64 T, .slice Z z.length zp, .int .i64 C, .int .i64 S, .slice A l.length c])
  have hb0 : Below w.heap.size w (w.alloc (.cells #[.int .i64 E, .int .i64 F, .int .i64 T, .slice Z z.length zp, .int .i64 C, .int .i64 S, .slice A l.length c] 35)) := (Below.refl _ _).alloc (Nat.le_refl _) _
  have HB0 := Lib.hid hb0
  have QA := Lib.hid (awake21_any _ (ht.go hb0))
  have h10 : (10 : Int) < (z.length : Int) := by omega
  clear ht hb0
  go_enter Tryd.func5, Tryd.ntmps5
  go_wp2_with fail
  refine QA.out.mono ?_
  rintro r w5 ⟨rfl, hb5⟩
  have HB5 := Lib.hid (HB0.out.trans (hb5.mono HB0.out.size))
  clear hb5
  go_wp2_with fail
  go_ret
  exact ⟨rfl, HB5.out⟩
set_option maxRecDepth 100000 in
set_option maxHeartbeats 3200000 in
theorem big_l (E F : Int) (T C S : Int) (Z : Option Addr) (zp : Nat) (z : List Int) (A : Option Addr) (c : Nat) (l : List UInt8) (w : World) (ht : TabF w) (hzl : z.length ≤ 10) (hbig : 500 < l.length) :
    Calls Tryd.prog 5 #[.agg #[.int .i64 E, .int .i64 F, .int .i64 T, .slice Z z.length zp, .int .i64 C, .int .i64 S, .slice A l.length c]] w fun r w' => r = .returned (.bool true) ∧ Below w.heap.size w w' := by
  have c0 := cells7 (Blk.new w 35 [.int .i64 E, .int .i64 F, .int .i64 T, .slice Z z.length zp, .int .i64 C, .int .i64 S, .slice A l.length c])
  have hb0 : Below w.heap.size w (w.alloc (.cells #[.int .i64 E, .int .i64 F, .int .i64 T, .slice Z z.length zp, .int .i64 C, .int .i64 S, .slice A l.length c] 35)) := (Below.refl _ _).alloc (Nat.le_refl _) _
  have HB0 := Lib.hid hb0
  have QA := Lib.hid (awake21_any _ (ht.go hb0))
  have h10 : decide ((10 : Int) < (z.length : Int)) = false := decide_eq_false (by omega)
  have h500 : (500 : Int) < (l.length : Int) := by omega
  clear ht hb0
  go_enter Tryd.func5, Tryd.ntmps5
  go_wp2_with fail
  refine QA.out.mono ?_
  rintro r w5 ⟨rfl, hb5⟩
  have HB5 := Lib.hid (HB0.out.trans (hb5.mono HB0.out.size))
  clear hb5
  go_wp2_with fail
  go_ret
  exact ⟨rfl, HB5.out⟩
theorem walk (E F : Int) (T C S : Int) (Z : Option Addr) (zp : Nat) (z : List Int) (A : Option Addr) (c : Nat) (l : List UInt8) (w : World) (hy : Bytes w A l) (hl : l.length ≤ c) (hm : c ≤ maxLen) (hz0 : Ints w Z z) (hzl0 : z.length ≤ zp) (hzm : zp ≤ maxLen) (ht : TabF w) :
    Calls Tryd.prog 5 #[.agg #[.int .i64 E, .int .i64 F, .int .i64 T, .slice Z z.length zp, .int .i64 C, .int .i64 S, .slice A l.length c]] w fun r w' => r = .returned (.bool true) ∧ Below w.heap.size w w' := by
  have hz := ints_at21 hz0
  by_cases hzl : 10 < z.length
  · exact big_z E F T C S Z zp z A c l w ht hzl
  by_cases hl5 : 500 < l.length
  · exact big_l E F T C S Z zp z A c l w ht (by omega) hl5
  have hB : ∀ W, Below w.heap.size w W → Bytes W A l := fun W q => At.lift (At.below hy q (Nat.le_refl _)) q.size
  have hI : ∀ W, Below w.heap.size w W → IntsAt W W.heap.size Z z := fun W q => hz.go q
  by_cases h : F < 0 ∨ 6 ≤ F ∨ E < 0 ∨ 16 ≤ E
  · exact walk0 E F T C S Z zp z A c l w hy hl hm hz (by omega) (by omega) ht false (fun W q => Legal_out E F T C S Z zp z A c l W h) (fun W q => RefLegal_out E F T C S Z zp z A c l W h)
  · obtain ⟨f, rfl⟩ := Int.eq_ofNat_of_zero_le (show 0 ≤ F by omega)
    obtain ⟨e, rfl⟩ := Int.eq_ofNat_of_zero_le (show 0 ≤ E by omega)
    exact walk0 e f T C S Z zp z A c l w hy hl hm hz (by omega) (by omega) ht _ (fun W q => Legal_in e f T C S Z zp z A c l W (hB W q) hl hm (hI W q) (by omega) (by omega) (ht.go q) (by omega) (by omega)) (fun W q => RefLegal_in e f T C S Z zp z A c l W (hB W q) hl hm (hI W q) (by omega) (by omega) (ht.go q) (by omega) (by omega))
end Go.Proofs.YthjnbjhdepfclaaDoor.FsmLegal

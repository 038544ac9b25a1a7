/-
  P7.1: any message, or why there is none; how many bytes one of any kind has at least: the walk.
-/
import Derived.Test.YtjhmkapafhgofaaDoorAwake7
import Derived.Test.YtjhmkapafhgofaaDoorSame
namespace Go.Proofs.YtjhmkapafhgofaaDoor.FramePuts
set_option linter.unusedVariables false
open Go.RowKit

/-- A message's bytes, none where there is an error; the error's number. -/
def putM (k : Int) (l : List UInt8) : List UInt8 := if leastN k = 0 then [] else if 4077 < l.length then [] else msgL k.toNat l
def putX (k : Int) (l : List UInt8) : Int := if leastN k = 0 then 1 else if 4077 < l.length then 4 else 0
theorem put_one {w w' : World} {k : Int} {l : List UInt8} {e : Ending} (h : PutVal w k l e w') :
    Below w.heap.size w w' ∧ ∃ A c, e = .returned (.tuple #[.slice A (putM k l).length c, .int .i64 (putX k l)]) ∧ Bytes w' A (putM k l) := by
  obtain ⟨hb, h⟩ := h
  refine ⟨hb, ?_⟩
  rcases h with ⟨p, rfl⟩ | ⟨p, q, rfl⟩ | ⟨p, q, A, c, rfl, f, g, o⟩
  · unfold putM putX
    rw [if_pos p, if_pos p]
    exact ⟨none, 0, rfl, Bytes.nil _ _⟩
  · unfold putM putX
    rw [if_neg p, if_neg p, if_pos q, if_pos q]
    exact ⟨none, 0, rfl, Bytes.nil _ _⟩
  · unfold putM putX
    rw [if_neg p, if_neg p, if_neg (by omega), if_neg (by omega)]
    exact ⟨A, c, rfl, o.bytes⟩

set_option maxHeartbeats 3200000 in
theorem walk (k : Int) (A : Option Addr) (c : Nat) (l : List UInt8) (w : World) (hk : -9223372036854775808 ≤ k ∧ k ≤ 9223372036854775807) (hc : l.length ≤ c) (hm : c ≤ maxLen) (h : Bytes w A l) (ht : TabL w) :
    Calls Tryd.prog 3 #[.int .i64 k, .slice A l.length c] w fun e w' => e = .returned (.bool true) ∧ Below w.heap.size w w' := by
  by_cases hl : l.length ≤ 5000
  · have hlI : ¬ (5000 : Int) < (l.length : Int) := by omega
    have q1 := (Put7_any k A c l w h (by omega) ht).mono (fun e w' hv => put_one hv)
    have HT := Lib.hid (fun W (hB : Below w.heap.size w W) => ht.below hB ht.lt)
    have q2 := fun W (hB : Below w.heap.size w W) => (RefPut7_any k A c l W (h.below hB) (by omega)).mono (fun e w' hv => put_one hv)
    obtain ⟨M, hM⟩ : ∃ M, M = putM k l := ⟨_, rfl⟩
    obtain ⟨X, hX⟩ : ∃ X, X = putX k l := ⟨_, rfl⟩
    rw [← hM, ← hX] at q1 q2
    have Q1 := Lib.hid q1; have Q2 := Lib.hid q2
    have QL := Lib.hid (fun W (hB : Below w.heap.size w W) => Least_any k W (HT.out _ hB))
    have QR := Lib.hid (fun W => RefLeast_any k W)
    have QA := Lib.hid (fun W (hB : Below w.heap.size w W) => awake7_any W (HT.out _ hB))
    clear h ht hl hM hX q1 q2
    go_enter Tryd.func3, Tryd.ntmps3
    go_wp2_with fail
    refine Q1.out.mono ?_
    rintro e w1 ⟨hb1, A1, c1, rfl, hy1⟩
    have HB1 := Lib.hid hb1; have HY1 := Lib.hid hy1
    clear hb1 hy1 Q1
    go_wp2_with fail
    refine (Q2.out _ HB1.out).mono ?_
    rintro e w2 ⟨hb2, A2, c2, rfl, hy2⟩
    have HB2 := Lib.hid (HB1.out.trans (hb2.mono HB1.out.size))
    have qs := Same_any A1 A2 M.length M.length c1 c2 M M rfl rfl w2 (HY1.out.below hb2) hy2
    simp only [beq_self_eq_true] at qs
    have QS := Lib.hid qs
    clear hb2 hy2 qs Q2
    go_wp2_with fail
    refine QS.out.mono ?_
    rintro e w3 ⟨rfl, rfl⟩
    go_wp2_with fail
    refine (QL.out _ HB2.out).mono ?_
    rintro e w4 ⟨rfl, rfl⟩
    go_wp2_with fail
    refine (QR.out _).mono ?_
    rintro e w5 ⟨rfl, rfl⟩
    go_wp2_with fail
    refine (QA.out _ HB2.out).mono ?_
    rintro e w6 ⟨rfl, hb6⟩
    go_wp2_with fail
    go_ret
    exact ⟨rfl, HB2.out.trans (hb6.mono HB2.out.size)⟩
  · have hlI : (5000 : Int) < (l.length : Int) := by omega
    have QA := Lib.hid (awake7_any w ht)
    clear h ht hl
    go_enter Tryd.func3, Tryd.ntmps3
    go_wp2_with fail
    refine QA.out.mono ?_
    rintro e w2 ⟨rfl, hb2⟩
    go_wp2_with fail
    go_ret
    exact ⟨rfl, hb2⟩
end Go.Proofs.YtjhmkapafhgofaaDoor.FramePuts

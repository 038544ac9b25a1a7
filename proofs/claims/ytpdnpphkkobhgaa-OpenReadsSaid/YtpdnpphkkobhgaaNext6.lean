/-
  The part that a reader is at: a kind, a value, and whether it ends.
-/
import Derived.Test.YtpdnpphkkobhgaaByte
namespace Go.Proofs.Ytpdnpphkkobhgaa
set_option linter.unusedVariables false
open Go.RowKit

/-- A part: its kind, its value; what is left behind it, and whether bytes lacked. -/
structure Pt where
  kind : Nat
  val : List UInt8
  rest : List UInt8
  bad : Bool
def nextP (l : List UInt8) (s : Bool) : Pt :=
  ⟨num (rdTake l s 1).1, (rdTake (rdTake (rdTake l s 1).2.1 (rdTake l s 1).2.2 1).2.1 (rdTake (rdTake l s 1).2.1 (rdTake l s 1).2.2 1).2.2 ((num (rdTake (rdTake l s 1).2.1 (rdTake l s 1).2.2 1).1 : Nat) : Int)).1,
   (rdTake (rdTake (rdTake l s 1).2.1 (rdTake l s 1).2.2 1).2.1 (rdTake (rdTake l s 1).2.1 (rdTake l s 1).2.2 1).2.2 ((num (rdTake (rdTake l s 1).2.1 (rdTake l s 1).2.2 1).1 : Nat) : Int)).2.1,
   (rdTake (rdTake (rdTake l s 1).2.1 (rdTake l s 1).2.2 1).2.1 (rdTake (rdTake l s 1).2.1 (rdTake l s 1).2.2 1).2.2 ((num (rdTake (rdTake l s 1).2.1 (rdTake l s 1).2.2 1).1 : Nat) : Int)).2.2⟩
def PartPost (w : World) (B g : Nat) (x : Pt) (e : Ending) (w' : World) : Prop :=
  ∃ A c, e = .returned (.tuple #[.int .i64 (x.kind : Int), .slice A x.val.length c, .bool (!x.bad)]) ∧ x.val.length ≤ c ∧ c ≤ maxLen ∧ Own w' w.heap.size 5 (.slice A x.val.length c) x.val ∧ Rd w' B g x.rest x.bad ∧ w.grownBy w' (some g)
theorem rd_less (l : List UInt8) (s : Bool) (n : Int) : (rdTake l s n).2.1.length ≤ l.length := by
  unfold rdTake
  split
  · simp
  · simp
set_option maxHeartbeats 3200000 in
theorem next6_any (B g : Nat) (l : List UInt8) (s : Bool) (w : World) (h : Rd w B g l s) (hl : l.length ≤ 1000000) :
    Calls Try.prog 41 #[.pointer (some ⟨g, 0, none⟩)] w (PartPost w B g (nextP l s)) := by
  have q1 := Byte_any B g l s w h
  unfold nextP
  have l1 := rd_less l s 1
  obtain ⟨x1, h1⟩ : ∃ x, x = rdTake l s 1 := ⟨_, rfl⟩
  rw [← h1] at q1 l1 ⊢
  have l2 := rd_less x1.2.1 x1.2.2 1
  obtain ⟨x2, h2⟩ : ∃ x, x = rdTake x1.2.1 x1.2.2 1 := ⟨_, rfl⟩
  have q2 := fun W (hr : Rd W B g x1.2.1 x1.2.2) => Byte_any B g x1.2.1 x1.2.2 W hr
  rw [← h2] at l2 ⊢
  simp only [← h2] at q2
  have q3 := fun W (hr : Rd W B g x2.2.1 x2.2.2) => Take_any ((num x2.1 : Nat) : Int) B g x2.2.1 x2.2.2 W hr (by omega)
  obtain ⟨x3, h3⟩ : ∃ x, x = rdTake x2.2.1 x2.2.2 ((num x2.1 : Nat) : Int) := ⟨_, rfl⟩
  rw [← h3]
  simp only [← h3] at q3
  have Q1 := Lib.hid q1; have Q2 := Lib.hid q2; have Q3 := Lib.hid q3
  clear h h1 h2 h3 q1 q2 q3 l1 l2
  obtain ⟨n1, e1⟩ : ∃ n, n = num x1.1 := ⟨_, rfl⟩
  obtain ⟨n2, e2⟩ : ∃ n, n = num x2.1 := ⟨_, rfl⟩
  rw [← e1]
  unfold NumPost at Q1 Q2
  rw [← e1] at Q1
  rw [← e2] at Q2 Q3
  clear e1 e2
  go_enter Try.func41, Try.ntmps41
  go_wp2_with fail
  refine Q1.out.mono ?_
  rintro e w1 ⟨rfl, hr1, hg1⟩
  have HR1 := Lib.hid hr1; have HG1 := Lib.hid hg1
  clear hr1 hg1
  go_wp2_with fail
  refine (Q2.out _ HR1.out).mono ?_
  rintro e w2 ⟨rfl, hr2, hg2⟩
  have HR2 := Lib.hid hr2; have HG2 := Lib.hid (grown_trans HG1.out hg2)
  clear hr2 hg2
  go_wp2_with fail
  refine (Q3.out _ HR2.out).mono ?_
  rintro e w3 ⟨A, c, rfl, f1, f2, ho, hr3, hg3⟩
  have QE := Lib.hid (Err_any B g x3.2.1 x3.2.2 w3 hr3)
  have HG3 := Lib.hid (grown_trans HG2.out hg3)
  have HO := Lib.hid (ho.lower HG2.out.size)
  have HR3 := Lib.hid hr3
  clear hr3 hg3 ho
  obtain ⟨b3, hb3⟩ : ∃ b, b = x3.2.2 := ⟨_, rfl⟩
  have HB3 := Lib.hid hb3
  rw [← hb3] at QE
  clear hb3
  cases b3 with
  | true =>
    go_wp2_with fail
    refine QE.out.mono ?_
    rintro e w4 ⟨rfl, rfl⟩
    dsimp only [errN]
    go_wp2_with fail
    exact bodyPost_ret (v := .tuple #[.int .i64 (n1 : Int), .slice A x3.1.length c, .bool false]) (by simp [results, Try.results41, go_sem]) rfl ⟨A, c, by rw [← HB3.out]; rfl, f1, f2, HO.out, HR3.out, HG3.out⟩
  | false =>
    go_wp2_with fail
    refine QE.out.mono ?_
    rintro e w4 ⟨rfl, rfl⟩
    dsimp only [errN]
    go_wp2_with fail
    exact bodyPost_ret (v := .tuple #[.int .i64 (n1 : Int), .slice A x3.1.length c, .bool true]) (by simp [results, Try.results41, go_sem]) rfl ⟨A, c, by rw [← HB3.out]; rfl, f1, f2, HO.out, HR3.out, HG3.out⟩
end Go.Proofs.Ytpdnpphkkobhgaa

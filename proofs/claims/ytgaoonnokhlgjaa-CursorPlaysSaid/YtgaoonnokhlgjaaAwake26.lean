/-
  The example.
-/
import Derived.Test.YtgaoonnokhlgjaaPure26
import Derived.Test.YtgaoonnokhlgjaaTick26
import Derived.Test.YtgaoonnokhlgjaaMove26
namespace Go.Proofs.Ytgaoonnokhlgjaa
set_option linter.unusedVariables false
set_option linter.unusedSimpArgs false
open Go.RowKit

/-- What Open leaves, said of what becomes of the cursors. -/
theorem Open26_to (g : Nat) (mo li la : Int) (v : Value) (L : List Cu) (c : Cu) (L' G : List Cu) (w : World) (h : Tab w g mo li la v L) (hg : Good mo li la L) (hla : 0 ≤ la ∧ la ≤ 1000000) (ho : OpenTo mo la L c L' G) :
    Calls Try.prog 11 #[.pointer (some ⟨g, 0, none⟩), aggS c.row] w (RetOpen w g mo li (la + 1) v L' G (la + 1)) := by
  have := Open26_any g mo li la v L c w h hla (by have := hg.short; omega) hg.moB
  rw [ho.stay, ho.went] at this
  exact this
def ownCu (o : Int) : Cu := ⟨0, o, 0, 0, 0, 0, 0, 0, 0, ⟨#[]⟩, none, [], 0, 0, false, 0, 0, 0⟩
def exU (n : Int) : Cu := openedU (ownCu 1) n
theorem ex_to1 : OpenTo 1 0 [] (ownCu 1) [exU 1] [] ∧ Good 1 5 1 [exU 1] := by
  refine ⟨⟨.inr ⟨by simp, rfl, rfl⟩, rfl, rfl⟩, ⟨by simp, by omega, by omega, List.pairwise_singleton _ _, fun c hc => ?_, fun c hc => ?_⟩⟩ <;> (rw [List.mem_singleton.1 hc]; decide)
theorem ex_to2 : OpenTo 1 1 [exU 1] (ownCu 1) [exU 2] [exU 1] ∧ Good 1 5 2 [exU 2] := by
  refine ⟨⟨.inl ⟨by simp, rfl, rfl⟩, rfl, rfl⟩, ⟨by simp, by omega, by omega, List.pairwise_singleton _ _, fun c hc => ?_, fun c hc => ?_⟩⟩ <;> (rw [List.mem_singleton.1 hc]; decide)
theorem ex_pos : posU [exU 2] 1 2 = some 0 := by decide
theorem sl_one {w : World} {T B n d : Nat} {A : Option Addr} {c : Cu} (h : SlU w T B (.slice A n d) [c]) : n = 1 ∧ ∃ b off, A = some ⟨b, off, none⟩ ∧ w.cell? ⟨b, off, none⟩ = some (.int .i64 c.id) := by
  obtain ⟨A', d', hv, hr⟩ := h
  injection hv with h1 h2 h3
  subst h1
  obtain ⟨b, off, hA, _, hrow⟩ := hr.at (j := 0) (s := c) rfl
  exact ⟨h2, b, off, hA, by have := hrow 0 _ rfl; simpa using this⟩
set_option maxRecDepth 100000 in
set_option maxHeartbeats 6400000 in
theorem awake26_any (w : World) :
    Calls Try.prog 8 #[] w fun e w' => e = .returned (.bool true) ∧ Below w.heap.size w w' := by
  go_enter Try.func8, Try.ntmps8
  go_wp2_with fail
  refine (New26_any 1 5 w).mono ?_
  rintro e w1 ⟨rfl, ht, hb1⟩
  rw [show mostC 1 = 1 from rfl, show lifeC 5 = 5 from rfl] at ht
  have B1 := Lib.hid hb1
  have Q1 := Lib.hid (Open26_to w.heap.size 1 5 0 _ [] (ownCu 1) [exU 1] [] w1 ht (Good.nil (by omega) (by omega)) (by omega) ex_to1.1)
  clear ht hb1
  go_wp2_with fail
  refine Q1.out.mono ?_
  rintro e w2 ⟨u2, v2, rfl, ht, hs, hk⟩
  have Q2 := Lib.hid (Open26_to w.heap.size 1 5 (0 + 1) v2 [exU 1] (ownCu 1) [exU 2] [exU 1] w2 ht ex_to1.2 (by omega) ex_to2.1)
  have K2 := Lib.hid hk
  have T2 := Lib.hid ht
  obtain ⟨A2, d2, rfl, _⟩ := id hs
  clear ht hs hk Q1
  go_wp2_with fail
  refine Q2.out.mono ?_
  rintro e w3 ⟨u3, v3, rfl, ht, hs, hk⟩
  have K3 := Lib.hid (K2.out.trans hk)
  have T3 := Lib.hid ht
  obtain ⟨A3, d3, rfl, _⟩ := id hs
  have HS := Lib.hid hs
  have QG := Lib.hid (Get26_some w.heap.size 1 5 (0 + 1 + 1) v3 [exU 2] 0 (exU 2) 1 2 w3 ht ex_pos rfl)
  clear ht hs hk Q2 K2 T2
  go_wp2_with fail
  refine QG.out.mono ?_
  rintro e w4 ⟨rfl, hb4⟩
  have S4 := Lib.hid (HS.out.below hb4); have T4 := Lib.hid (T3.out.below hb4); have K4 := Lib.hid (K3.out.trans (KeepA.of_below hb4))
  clear hb4 QG HS T3 K3
  go_wp2_with (refine wpList_storeNewS (row := (exU 2).row) _ w4 zerosU 36 rfl (isP (exU 2)) (exU 2).one rfl rfl (.tmp 6) (.tmp 25) rfl rfl rfl rfl ?_)
  intro w5 k5 hb5 hz5
  obtain ⟨hn, b, off, rfl, r0⟩ := sl_one (S4.out.below hb5)
  have r1 : w5.cell? ⟨b, off, none⟩ = some (.int .i64 1) := r0
  have QL := Lib.hid (Len26_any w.heap.size 1 5 (0 + 1 + 1) v3 [exU 2] w5 (T4.out.below hb5))
  have K5 := Lib.hid (K4.out.trans (KeepA.of_below hb5))
  clear k5 hb5 hz5 r0 hn S4 T4 K4
  have hi0 : (0 : Int) < (([exU 1] : List Cu).length : Int) := by decide
  go_wp2_with fail
  refine QL.out.mono ?_
  rintro e w6 ⟨rfl, rfl⟩
  go_wp2_with fail
  go_ret
  exact ⟨rfl, B1.out.trans ((K5.out.below (B := w.heap.size) (Nat.le_refl _) (fun k hk => by cases hk) B1.out.size))⟩
end Go.Proofs.Ytgaoonnokhlgjaa

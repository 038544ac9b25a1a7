/-
  The reader of bytes: New, next; Clone.
-/
import Derived.Test.YtpdnpphkkobhgaaSeat
import Derived.WalkSpells
namespace Go.Proofs.Ytpdnpphkkobhgaa
open Go.RowKit

/-- Block g holds a reader that has l before it, of bytes that lie below B; s: is it short? -/
def Rd (w : World) (B g : Nat) (l : List UInt8) (s : Bool) : Prop :=
  B ≤ g ∧ ∃ A c, Blk w g 83 [.slice A l.length c, .bool s] ∧ l.length ≤ c ∧ c ≤ maxLen ∧ At w B A l
section
variable {w w' : World} {B g : Nat} {l : List UInt8} {s : Bool}
theorem Rd.below {B' : Nat} (h : Rd w B g l s) (hb : Below B' w w') (hg : g < B') : Rd w' B g l s := by
  obtain ⟨hB, A, c, hk, h1, h2, hA⟩ := h
  exact ⟨hB, A, c, hk.below hb hg, h1, h2, hA.below hb (by omega)⟩
theorem Rd.grown {g' : Nat} (h : Rd w B g l s) (hb : w.grownBy w' (some g')) (hg : g ≠ g') (hB' : B ≤ g') : Rd w' B g l s := by
  obtain ⟨hB, A, c, hk, h1, h2, hA⟩ := h
  exact ⟨hB, A, c, hk.grown hb hg, h1, h2, hA.grown hb hB'⟩
theorem Rd.lt (h : Rd w B g l s) : g < w.heap.size := by obtain ⟨_, _, _, hk, _⟩ := h; exact hk.lt
theorem Rd.drewN (h : Rd w B g l s) (n : Nat) : Rd (w.drewN n) B g l s := h
end
theorem New_any (A : Option Addr) (n c : Nat) (l : List UInt8) (hn : n = l.length) (w : World) (h : Bytes w A l) (h1 : l.length ≤ c) (h2 : c ≤ maxLen) :
    Calls Try.prog 34 #[.slice A n c] w fun e w' => e = .returned (.pointer (some ⟨w.heap.size, 0, none⟩)) ∧ Rd w' w.heap.size w.heap.size l false ∧ Below w.heap.size w w' := by
  subst hn
  have H := Lib.hid h; clear h
  go_enter Try.func34, Try.ntmps34
  go_wp2_with fail
  go_ret
  have hb : Below w.heap.size w (w.alloc (.cells #[.slice A l.length c, .bool false] 83)) := (Below.refl _ _).alloc (Nat.le_refl _) _
  exact ⟨rfl, ⟨Nat.le_refl _, A, c, Blk.new w 83 [.slice A l.length c, .bool false], h1, h2, At.below H.out hb (Nat.le_refl _)⟩, hb⟩
/-- What 'next' leaves: the bytes res, of those that lay before the reader. -/
def NextPost (w : World) (B g : Nat) (res rest : List UInt8) (s : Bool) (e : Ending) (w' : World) : Prop :=
  ∃ A c, e = .returned (.slice A res.length c) ∧ res.length ≤ c ∧ c ≤ maxLen ∧ At w' B A res ∧ Rd w' B g rest s ∧ w.grownBy w' (some g)
theorem next_end {n B g c : Nat} {l : List UInt8} {s : Bool} {w : World} {A A2 : Option Addr} (hB : B ≤ g) (hk : Blk w g 83 [.slice A l.length c, .bool s]) (hl : l.length ≤ c) (hm : c ≤ maxLen) (hA : At w B A l) (h1 : n ≤ l.length)
    (h2 : A2 = if c = n then A else A.map (·.add n)) : NextPost w B g (l.take n) (l.drop n) s (.returned (.slice A n c)) (w.setCell ⟨g, 0, none⟩ (.slice A2 (l.length - n) (c - n))) := by
  have hg : w.grownBy (w.setCell ⟨g, 0, none⟩ (.slice A2 (l.length - n) (c - n))) (some g) := grown_setCell (grown_refl _ _) _ _
  refine ⟨A, c, by rw [List.length_take, Nat.min_eq_left h1], by rw [List.length_take]; omega, hm, (hA.take n).grown hg hB, ⟨hB, A2, c - n, ?_, by rw [List.length_drop]; omega, by omega, ?_⟩, hg⟩
  · have := hk.set 0 (.slice A2 (l.length - n) (c - n))
    rw [List.length_drop]
    exact this
  · subst h2
    exact (hA.drop hl).grown hg hB
set_option maxHeartbeats 400000 in
theorem next_nat (n : Nat) (B g : Nat) (l : List UInt8) (s : Bool) (w : World) (h : Rd w B g l s) (h1 : n ≤ l.length) :
    Calls Try.prog 50 #[.pointer (some ⟨g, 0, none⟩), .int .i64 (n : Int)] w (NextPost w B g (l.take n) (l.drop n) s) := by
  obtain ⟨hB, A, c, hk, hl, hm, hA⟩ := h
  have c0 : w.cell? ⟨g, 0, none⟩ = some (.slice A l.length c) := hk.cell 0
  have f0 : w.frozen? ⟨g, 0, none⟩ = false := hk.free 0
  have F := fun A2 => Lib.hid (next_end (A2 := A2) hB hk hl hm hA h1)
  clear hk hA
  have n2 : ¬ (l.length : Int) < (n : Int) := by omega
  unfold maxLen at hm
  by_cases hc : c = n
  · go_enter Try.func50, Try.ntmps50
    go_wp2_with fail
    go_ret
    have := (F A).out (by rw [if_pos hc])
    subst hc
    rw [Nat.sub_self] at this
    exact this
  · go_enter Try.func50, Try.ntmps50
    go_wp2_with fail
    go_ret
    exact (F _).out (by rw [if_neg hc])
theorem next_ok (n : Int) (B g : Nat) (l : List UInt8) (s : Bool) (w : World) (h : Rd w B g l s) (h0 : 0 ≤ n) (h1 : n ≤ l.length) :
    Calls Try.prog 50 #[.pointer (some ⟨g, 0, none⟩), .int .i64 n] w (NextPost w B g (l.take n.toNat) (l.drop n.toNat) s) := by
  obtain ⟨k, rfl⟩ := Int.eq_ofNat_of_zero_le h0
  exact next_nat k B g l s w h (by omega)
theorem next_bad_end {B g c : Nat} {l : List UInt8} {s : Bool} {w : World} {A : Option Addr} (hB : B ≤ g) (hk : Blk w g 83 [.slice A l.length c, .bool s]) :
    NextPost w B g [] [] true (.returned (.slice none 0 0)) ((w.setCell ⟨g, 1, none⟩ (.bool true)).setCell ⟨g, 0, none⟩ (.slice none 0 0)) := by
  refine ⟨none, 0, rfl, by simp, by simp, At.nil _ _ _, ⟨hB, none, 0, ?_, by simp, by simp, At.nil _ _ _⟩, grown_setCell (grown_setCell (grown_refl _ _) _ _) _ _⟩
  exact (hk.set 1 (.bool true)).set 0 (.slice none 0 0)
set_option maxHeartbeats 400000 in
theorem next_bad (n : Int) (B g : Nat) (l : List UInt8) (s : Bool) (w : World) (h : Rd w B g l s) (h1 : n < 0 ∨ (l.length : Int) < n) :
    Calls Try.prog 50 #[.pointer (some ⟨g, 0, none⟩), .int .i64 n] w (NextPost w B g [] [] true) := by
  obtain ⟨hB, A, c, hk, hl, hm, hA⟩ := h
  have c0 : w.cell? ⟨g, 0, none⟩ = some (.slice A l.length c) := hk.cell 0
  have c1 : w.cell? ⟨g, 1, none⟩ = some (.bool s) := hk.cell 1
  have f0 : w.frozen? ⟨g, 0, none⟩ = false := hk.free 0
  have f1 : w.frozen? ⟨g, 1, none⟩ = false := hk.free 1
  have F := Lib.hid (next_bad_end hB hk)
  clear hk hA
  unfold maxLen at hm
  rcases h1 with h1 | h1
  · go_enter Try.func50, Try.ntmps50
    go_wp2_with fail
    go_ret
    exact F.out
  · have h2 : ¬ n < 0 := by omega
    go_enter Try.func50, Try.ntmps50
    go_wp2_with fail
    go_ret
    exact F.out
/-- What a reader with l before it tells of a Take of n: the bytes; what is left; is it short? -/
def rdTake (l : List UInt8) (s : Bool) (n : Int) : List UInt8 × List UInt8 × Bool := if 0 ≤ n ∧ n ≤ l.length then (l.take n.toNat, l.drop n.toNat, s) else ([], [], true)
theorem next_any (n : Int) (B g : Nat) (l : List UInt8) (s : Bool) (w : World) (h : Rd w B g l s) :
    Calls Try.prog 50 #[.pointer (some ⟨g, 0, none⟩), .int .i64 n] w (NextPost w B g (rdTake l s n).1 (rdTake l s n).2.1 (rdTake l s n).2.2) := by
  unfold rdTake
  by_cases hn : 0 ≤ n ∧ n ≤ l.length
  · rw [if_pos hn]
    exact next_ok n B g l s w h hn.1 hn.2
  · rw [if_neg hn]
    exact next_bad n B g l s w h (by omega)
theorem rdTake_len (l : List UInt8) (s : Bool) (n : Int) : (rdTake l s n).1.length ≤ l.length ∧ ((rdTake l s n).1.length : Int) ≤ max n 0 := by
  unfold rdTake
  by_cases hn : 0 ≤ n ∧ n ≤ l.length
  · rw [if_pos hn]
    simp only [List.length_take]
    omega
  · rw [if_neg hn]
    simp only [List.length_nil]
    omega
theorem next_nil (n : Int) (w : World) : Calls Try.prog 50 #[.pointer none, .int .i64 n] w fun e w' => e = .returned (.slice none 0 0) ∧ w = w' := by
  go_enter Try.func50, Try.ntmps50
  go_wp2_with fail
  go_ret
  exact ⟨rfl, rfl⟩
theorem Clone_nil (c : Nat) (w : World) : Calls Try.prog 54 #[.slice none 0 c] w fun e w' => e = .returned (.slice none 0 0) ∧ w = w' := by
  have hq := fun w => Lib.run_eql_slice_nil (P := Try.prog) w 28 5 none 0 c 0 0 Try.underlying28
  go_enter Try.func54, Try.ntmps54
  go_wp2_with fail
  go_ret
  exact ⟨rfl, rfl⟩
theorem own_empty (w : World) (e : Nat) : Own (w.alloc (.cells #[] e)) w.heap.size e (.slice (some ⟨w.heap.size, 0, none⟩) 0 0) [] :=
  ⟨by simp, .inr ⟨w.heap.size, 0, #[], rfl, Nat.le_refl _, heap_alloc_new w _, Nat.le_refl _, Nat.zero_le _, rfl, rfl⟩⟩
set_option maxHeartbeats 400000 in
theorem Clone_any (A : Option Addr) (n c : Nat) (l : List UInt8) (hn : n = l.length) (w : World) (h : Bytes w A l) (hl : l.length ≤ 1000000) :
    Calls Try.prog 54 #[.slice A n c] w (RetBytes w l) := by
  subst hn
  cases A with
  | none =>
    have hl0 : l = [] := by
      rcases l with _ | ⟨b, l⟩
      · rfl
      · obtain ⟨_, _, h2, _⟩ := h (by simp)
        cases h2
    subst hl0
    refine (Clone_nil c w).mono fun e w' hh => ?_
    obtain ⟨rfl, rfl⟩ := hh
    exact ⟨none, 0, rfl, by simp, by simp, Own.nil _ _ _, Below.refl _ _⟩
  | some ad =>
    have hq := fun w => Lib.run_eql_slice_nil (P := Try.prog) w 28 5 (some ad) l.length c 0 0 Try.underlying28
    have H0 := Lib.hid (own_empty w 5)
    have HA := Lib.hid (h.alloc (.cells #[] 5))
    clear h
    go_enter Try.func54, Try.ntmps54
    go_wp2_with (at_builtin; refine wpList_append_bytes isBytes rfl (.tmp 5) (.tmp 6) rfl w _ [] rfl H0.out _ l l.length c rfl rfl HA.out (by simp; omega) ((Below.refl _ _).alloc (Nat.le_refl _) _) ?_)
    intro v1 w1 hown1 _ hb1
    obtain ⟨A', c', rfl, f1, f2⟩ := hown1.form
    have H := Lib.hid hown1; clear hown1 H0 HA
    go_wp2
    go_ret
    exact ret_own (by simp) f1 f2 H.out hb1 (by simp)
end Go.Proofs.Ytpdnpphkkobhgaa

/-
  The document's store of versions: its calls.
-/
import Derived.Test.YtagfehfggkehmaaRefF10
import Derived.Test.YtagfehfggkehmaaTailG
import Derived.Test.YtagfehfggkehmaaSeat
import Derived.Deep.QuietTactic
import Derived.BigQuiet
namespace Go.Proofs.Ytagfehfggkehmaa
set_option linter.unusedVariables false
set_option linter.unusedSimpArgs false
open Go.RowKit

theorem onesI : IsOnes Try.prog 36 3 (.int .i64 0) 8 := ⟨Try.underlying36, by kernel_rfl, rfl, by decide⟩
def vals (L : List Int) : List Value := L.map (Value.int .i64)
theorem vals_len (L : List Int) : (vals L).length = L.length := List.length_map _
theorem vals_get {L : List Int} {k : Nat} (hk : k < L.length) : (vals L)[k]? = some (.int .i64 (L.getD k 0)) := by simp [vals, List.getD, hk]
theorem vals_snoc (L : List Int) (x : Int) : vals L ++ [.int .i64 x] = vals (L ++ [x]) := by simp [vals]
theorem vals_set (L : List Int) (k : Nat) (x : Int) : (vals L).set k (.int .i64 x) = vals (L.set k x) := by simp [vals, List.map_set]

/-- Block sb is the document's store: its versions, and how often each is pinned; all of it lies from B on. -/
structure RSt (w : World) (B sb : Nat) (v1 v2 : Value) (A P : List Int) : Prop where
  blk : Blk w sb 38 [v1, v2]
  t1 : TlG w B 3 v1 (vals A)
  t2 : TlG w B 3 v2 (vals P)
  n1 : v1.ownBlock ≠ some sb
  n2 : v2.ownBlock ≠ some sb
  n12 : ∀ q, v1.ownBlock = some q → v2.ownBlock ≠ some q
  len : A.length = P.length
  pos : 0 < A.length
  base : B ≤ sb

section
variable {w w' : World} {B sb : Nat} {v1 v2 : Value} {A P : List Int}
theorem RSt.below (s : RSt w B sb v1 v2 A P) (hb : Below w.heap.size w w') : RSt w' B sb v1 v2 A P :=
  ⟨s.blk.below hb s.blk.lt, s.t1.below hb, s.t2.below hb, s.n1, s.n2, s.n12, s.len, s.pos, s.base⟩
/-- Nothing from B on has turned. -/
theorem RSt.high (s : RSt w B sb v1 v2 A P) (hz : w.heap.size ≤ w'.heap.size) (hb : ∀ k, B ≤ k → k < w.heap.size → w'.heap[k]? = w.heap[k]?) : RSt w' B sb v1 v2 A P :=
  ⟨(hb sb s.base s.blk.lt).trans s.blk, s.t1.same hz (fun g hg => hb g (s.t1.lt hg).1 (s.t1.lt hg).2), s.t2.same hz (fun g hg => hb g (s.t2.lt hg).1 (s.t2.lt hg).2), s.n1, s.n2, s.n12, s.len, s.pos, s.base⟩
/-- The two slices, written out. -/
theorem RSt.form (s : RSt w B sb v1 v2 A P) : ∃ a1 o1 c1 a2 o2 c2, v1 = .slice (some ⟨a1, o1, none⟩) A.length c1 ∧ v2 = .slice (some ⟨a2, o2, none⟩) A.length c2 ∧ A.length ≤ c1 ∧ c1 ≤ maxLen ∧ A.length ≤ c2 ∧ c2 ≤ maxLen ∧
    (∀ k, k < A.length → w.cell? ⟨a1, o1 + k, none⟩ = some (.int .i64 (A.getD k 0))) ∧ (∀ k, k < A.length → w.cell? ⟨a2, o2 + k, none⟩ = some (.int .i64 (P.getD k 0)) ∧ w.frozen? ⟨a2, o2 + k, none⟩ = false) ∧ a1 < w.heap.size ∧ a2 < w.heap.size := by
  have hl := s.len
  have hp := s.pos
  obtain ⟨A1, c1, e1, f1, g1, i1, j1⟩ := s.t1.form
  obtain ⟨A2, c2, e2, f2, g2, i2, j2⟩ := s.t2.form
  rw [vals_len] at e1 f1 i1 e2 f2 i2
  obtain ⟨a1, o1, rfl⟩ := i1 0 hp
  obtain ⟨a2, o2, rfl⟩ := i2 0 (by omega)
  obtain ⟨_, k1, _⟩ := j1 a1 o1 rfl
  obtain ⟨_, k2, l2⟩ := j2 a2 o2 rfl
  have h1 : ∀ k, k < A.length → w.cell? ⟨a1, o1 + k, none⟩ = some (.int .i64 (A.getD k 0)) := fun k hk => k1 k _ (vals_get hk)
  have h2 : ∀ k, k < A.length → w.cell? ⟨a2, o2 + k, none⟩ = some (.int .i64 (P.getD k 0)) := fun k hk => k2 k _ (vals_get (by omega))
  exact ⟨a1, o1, c1, a2, o2, c2, e1, by rw [hl]; exact e2, f1, g1, by omega, g2, h1, fun k hk => ⟨h2 k hk, l2 k (by rw [vals_len]; omega)⟩, World.block_lt_of_cell? w _ (h1 0 hp), World.block_lt_of_cell? w _ (h2 0 hp)⟩
/-- One of how often they are pinned is written anew. -/
theorem RSt.setPin {a2 o2 c2 n : Nat} (s : RSt w B sb v1 (.slice (some ⟨a2, o2, none⟩) n c2) A P) {k : Nat} (hk : k < A.length) (x : Int) :
    RSt (w.setCell ⟨a2, o2 + k, none⟩ (.int .i64 x)) B sb v1 (.slice (some ⟨a2, o2, none⟩) n c2) A (P.set k x) ∧ Below B w (w.setCell ⟨a2, o2 + k, none⟩ (.int .i64 x)) := by
  obtain ⟨ht, hg⟩ := s.t2.set (k := k) rfl (by rw [vals_len, ← s.len]; exact hk) (.int .i64 x)
  have hB := (s.t2.lt rfl).1
  have hne : a2 ≠ sb := fun e => s.n2 (by rw [e]; rfl)
  refine ⟨⟨(hg.block sb s.blk.lt (by simpa using Ne.symm hne)).trans s.blk, s.t1.same hg.size (fun q hq => hg.block q (s.t1.lt hq).2 (fun e => s.n12 q hq e.symm)), by rw [← vals_set]; exact ht, s.n1, s.n2, s.n12, by simpa using s.len, s.pos, s.base⟩, ?_⟩
  exact below_of_grown hg (Nat.le_of_lt (Nat.lt_of_le_of_lt hB (s.t2.lt rfl).2)) hB
end

set_option maxHeartbeats 1600000 in
theorem RefNew10 (x : Int) (w : World) :
    Calls Try.prog 8 #[.int .i64 x] w fun e w' => ∃ sb v1 v2, e = .returned (.pointer (some ⟨sb, 0, none⟩)) ∧ RSt w' w.heap.size sb v1 v2 [x] [0] ∧ Below w.heap.size w w' := by
  go_enter Try.func8, Try.ntmps8
  go_wp2
  go_ret
  have z1 : (w.alloc (.cells #[.int .i64 x] 3)).heap.size = w.heap.size + 1 := by simp
  have z2 : ((w.alloc (.cells #[.int .i64 x] 3)).alloc (.cells #[.int .i64 0] 3)).heap.size = w.heap.size + 2 := by simp
  have own (W : World) (y : Int) : TlG (W.alloc (.cells #[.int .i64 y] 3)) W.heap.size 3 (.slice (some ⟨W.heap.size, 0, none⟩) 1 1) (vals [y]) := by
    refine TlG.ofOwn (l := vals [y]) ⟨rfl, .inr ⟨W.heap.size, 1, _, rfl, Nat.le_refl _, heap_alloc_new W _, Nat.le_refl _, by unfold maxLen; omega, rfl, rfl⟩⟩
  have b1 := (Below.refl _ (w.alloc (.cells #[.int .i64 x] 3))).alloc (Nat.le_refl _) (.cells #[.int .i64 0] 3)
  have b2 := (Below.refl _ ((w.alloc (.cells #[.int .i64 x] 3)).alloc (.cells #[.int .i64 0] 3))).alloc (Nat.le_refl _) (.cells #[.slice (some ⟨w.heap.size, 0, none⟩) 1 1, .slice (some ⟨w.heap.size + 1, 0, none⟩) 1 1] 38)
  have t1 := ((own w x).below b1).below b2
  have t2 := own (w.alloc (.cells #[.int .i64 x] 3)) 0
  rw [z1] at t2
  have t2 := (t2.below b2).lower (B' := w.heap.size) (by omega)
  have hk := Blk.new ((w.alloc (.cells #[.int .i64 x] 3)).alloc (.cells #[.int .i64 0] 3)) 38 [.slice (some ⟨w.heap.size, 0, none⟩) 1 1, .slice (some ⟨w.heap.size + 1, 0, none⟩) 1 1]
  rw [z2] at hk
  refine ⟨w.heap.size + 2, _, _, rfl, ⟨hk, t1, t2, ?_, ?_, ?_, rfl, by simp, by omega⟩, (((Below.refl _ _).alloc (Nat.le_refl _) _).alloc (by simp) _).alloc (by simp; omega) _⟩
  · simp [Value.ownBlock]
  · simp [Value.ownBlock]
  · simp [Value.ownBlock]

section
variable {w : World} {B sb : Nat} {v1 v2 : Value} {A P : List Int}
theorem RefIs10 (s : RSt w B sb v1 v2 A P) (k : Int) :
    Calls Try.prog 25 #[.pointer (some ⟨sb, 0, none⟩), .int .i64 k] w fun e w' => e = .returned (.bool (decide (0 ≤ k ∧ k < (A.length : Int)))) ∧ w = w' := by
  obtain ⟨a1, o1, c1, a2, o2, c2, rfl, rfl, hc1, hm1, hc2, hm2, h1, h2, l1, l2⟩ := s.form
  have d0 : w.cell? ⟨sb, 0, none⟩ = some (.slice (some ⟨a1, o1, none⟩) A.length c1) := s.blk.cell 0
  clear s h1 h2
  by_cases h0 : 0 ≤ k
  · by_cases h3 : k < (A.length : Int)
    · rw [decide_eq_true ⟨h0, h3⟩]
      go_enter Try.func25, Try.ntmps25
      go_wp2
      go_ret
      exact ⟨rfl, rfl⟩
    · rw [decide_eq_false (fun h => h3 h.2)]
      have h4 : decide (k < (A.length : Int)) = false := by simpa using h3
      go_enter Try.func25, Try.ntmps25
      go_wp2
      go_ret
      exact ⟨rfl, rfl⟩
  · rw [decide_eq_false (fun h => h0 h.1)]
    have h4 : decide (0 ≤ k) = false := by simpa using h0
    go_enter Try.func25, Try.ntmps25
    go_wp2
    go_ret
    exact ⟨rfl, rfl⟩

/-- What the document's At answers. -/
def refAt (A P : List Int) (k : Int) : Value := .tuple #[.int .i64 (if isL A P k then nth A k else 0), .bool (decide (isL A P k))]

set_option maxHeartbeats 1600000 in
theorem RefAt10 (s : RSt w B sb v1 v2 A P) (k : Int) :
    Calls Try.prog 16 #[.pointer (some ⟨sb, 0, none⟩), .int .i64 k] w fun e w' => e = .returned (refAt A P k) ∧ w = w' := by
  have HI := Lib.hid (RefIs10 s k)
  have hp := s.pos
  obtain ⟨a1, o1, c1, a2, o2, c2, rfl, rfl, hc1, hm1, hc2, hm2, h1, h2, l1, l2⟩ := s.form
  have d0 : w.cell? ⟨sb, 0, none⟩ = some (.slice (some ⟨a1, o1, none⟩) A.length c1) := s.blk.cell 0
  have d1 : w.cell? ⟨sb, 1, none⟩ = some (.slice (some ⟨a2, o2, none⟩) A.length c2) := s.blk.cell 1
  clear s
  by_cases hr : 0 ≤ k ∧ k < (A.length : Int)
  · obtain ⟨j, rfl⟩ := Int.eq_ofNat_of_zero_le hr.1
    have hj : j < A.length := by omega
    have hj' : (j : Int) < (A.length : Int) := by omega
    have e1 := h1 j hj
    have e2 := (h2 j hj).1
    have HI' := Lib.hid (show Calls Try.prog 25 #[.pointer (some ⟨sb, 0, none⟩), .int .i64 (j : Int)] w fun e w' => e = .returned (.bool true) ∧ w = w' from by
      have := HI.out
      rwa [decide_eq_true hr] at this)
    have hn : (A.length : Int) ≤ 9223372036854775807 := by unfold maxLen at hm1; omega
    have hn1 : (1 : Int) ≤ (A.length : Int) := by omega
    obtain ⟨x, hx⟩ : ∃ x, x = A.getD j 0 := ⟨_, rfl⟩
    obtain ⟨p, hpp⟩ : ∃ p, p = P.getD j 0 := ⟨_, rfl⟩
    rw [← hx] at e1
    rw [← hpp] at e2
    have nx : nth A (j : Int) = x := by rw [nth_nat, hx]
    have np : nth P (j : Int) = p := by rw [nth_nat, hpp]
    have HN := Lib.hid (And.intro nx np)
    have HR := Lib.hid hr
    clear hx hpp nx np h1 h2 HI hr
    by_cases hz : p = 0
    · by_cases hl : (j : Int) = (A.length : Int) - 1
      · have HV : refAt A P (j : Int) = .tuple #[.int .i64 x, .bool true] := by
          have h4 : isL A P (j : Int) := ⟨HR.out.1, HR.out.2, .inr hl⟩
          unfold refAt
          rw [if_pos h4, decide_eq_true h4, HN.out.1]
        rw [HV]
        subst hz
        have h5 : ((j : Int) != (A.length : Int) - 1) = false := by simpa using hl
        have h6 : decide ((j : Int) = (A.length : Int) - 1) = true := by simpa using hl
        clear HV hl
        go_enter Try.func16, Try.ntmps16
        go_wp2_with ((go_at_call 25; refine HI'.out.mono ?_; rintro e w1 ⟨rfl, rfl⟩))
        exact bodyPost_ret (v := .tuple #[.int .i64 x, .bool true]) (by simp [results, Try.results16, go_sem]) rfl ⟨rfl, rfl⟩
      · have HV : refAt A P (j : Int) = .tuple #[.int .i64 0, .bool false] := by
          have h4 : ¬ isL A P (j : Int) := by
            rintro ⟨_, _, h | h⟩
            · rw [HN.out.2] at h; exact h hz
            · exact hl h
          unfold refAt
          rw [if_neg h4, decide_eq_false h4]
        rw [HV]
        subst hz
        have h5 : ((j : Int) != (A.length : Int) - 1) = true := by simpa using hl
        clear HV hl
        go_enter Try.func16, Try.ntmps16
        go_wp2_with ((go_at_call 25; refine HI'.out.mono ?_; rintro e w1 ⟨rfl, rfl⟩))
        exact bodyPost_ret (v := .tuple #[.int .i64 0, .bool false]) (by simp [results, Try.results16, go_sem]) rfl ⟨rfl, rfl⟩
    · have HV : refAt A P (j : Int) = .tuple #[.int .i64 x, .bool true] := by
        have h4 : isL A P (j : Int) := ⟨HR.out.1, HR.out.2, .inl (by rw [HN.out.2]; exact hz)⟩
        unfold refAt
        rw [if_pos h4, decide_eq_true h4, HN.out.1]
      rw [HV]
      have h5 : (p == 0) = false := by simpa using hz
      clear HV
      go_enter Try.func16, Try.ntmps16
      go_wp2_with ((go_at_call 25; refine HI'.out.mono ?_; rintro e w1 ⟨rfl, rfl⟩))
      exact bodyPost_ret (v := .tuple #[.int .i64 x, .bool true]) (by simp [results, Try.results16, go_sem]) rfl ⟨rfl, rfl⟩
  · have HV : refAt A P k = .tuple #[.int .i64 0, .bool false] := by
      have h4 : ¬ isL A P k := fun h => hr ⟨h.1, h.2.1⟩
      unfold refAt
      rw [if_neg h4, decide_eq_false h4]
    rw [HV]
    have HI' := Lib.hid (show Calls Try.prog 25 #[.pointer (some ⟨sb, 0, none⟩), .int .i64 k] w fun e w' => e = .returned (.bool false) ∧ w = w' from by
      have := HI.out
      rwa [decide_eq_false hr] at this)
    clear HV h1 h2 HI hr
    go_enter Try.func16, Try.ntmps16
    go_wp2_with ((go_at_call 25; refine HI'.out.mono ?_; rintro e w1 ⟨rfl, rfl⟩))
    exact bodyPost_ret (v := .tuple #[.int .i64 0, .bool false]) (by simp [results, Try.results16, go_sem]) rfl ⟨rfl, rfl⟩
end
end Go.Proofs.Ytagfehfggkehmaa

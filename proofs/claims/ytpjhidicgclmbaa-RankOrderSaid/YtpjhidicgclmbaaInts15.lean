/-
  Slices of numbers of 64 bits of a call's own; all places of a list.
-/
import Derived.Test.YtpjhidicgclmbaaOwn3
import Derived.Test.YtpjhidicgclmbaaTaken15
namespace Go.Proofs.Ytpjhidicgclmbaa
set_option linter.unusedVariables false
set_option linter.unusedSimpArgs false
open Go.RowKit

theorem isI64 : IsRow Try.prog 38 3 (.int .i64 0) 1 8 := ⟨Try.underlying38, by kernel_rfl, rfl, by decide, by decide⟩
def cellsI (z : List Int) : List Value := z.map fun (n : Int) => Value.int .i64 n
theorem cellsI_one (z : List Int) : ∀ u ∈ cellsI z, u.oneCell' = true := by
  intro u hu
  obtain ⟨_, _, rfl⟩ := List.mem_map.1 hu
  rfl
/-- The slice's address A leads to the numbers z, in a block below B. -/
def IntsAt (w : World) (B : Nat) (A : Option Addr) (z : List Int) : Prop :=
  z ≠ [] → ∃ b off, A = some ⟨b, off, none⟩ ∧ b < B ∧ ∀ (j : Nat) (u : Int), z[j]? = some u → w.cell? ⟨b, off + j, none⟩ = some (.int .i64 u)
theorem IntsAt.nil (w : World) (B : Nat) (A : Option Addr) : IntsAt w B A [] := fun h => absurd rfl h
theorem IntsAt.below {w w' : World} {B B' : Nat} {A : Option Addr} {z : List Int} (h : IntsAt w B A z) (hb : Below B' w w') (hB : B ≤ B') : IntsAt w' B A z := by
  intro hl
  obtain ⟨b, off, rfl, hlt, hc⟩ := h hl
  exact ⟨b, off, rfl, hlt, fun j u hj => (hb.cell (p := ⟨b, off + j, none⟩) (Nat.lt_of_lt_of_le hlt hB)).trans (hc j u hj)⟩
theorem IntsAt.lift {w : World} {B B' : Nat} {A : Option Addr} {z : List Int} (h : IntsAt w B A z) (hB : B ≤ B') : IntsAt w B' A z := fun hl => by
  obtain ⟨b, off, rfl, hlt, hc⟩ := h hl
  exact ⟨b, off, rfl, Nat.lt_of_lt_of_le hlt hB, hc⟩
theorem IntsAt.go {w w' : World} {A : Option Addr} {z : List Int} (h : IntsAt w w.heap.size A z) (hb : Below w.heap.size w w') : IntsAt w' w'.heap.size A z := (h.below hb (Nat.le_refl _)).lift hb.size
theorem IntsAt.at {w : World} {B : Nat} {A : Option Addr} {z : List Int} (h : IntsAt w B A z) {j : Nat} {u : Int} (hj : z[j]? = some u) : ∃ b off, A = some ⟨b, off, none⟩ ∧ b < B ∧ ∀ (j : Nat) (u : Int), z[j]? = some u → w.cell? ⟨b, off + j, none⟩ = some (.int .i64 u) :=
  h (by intro e; subst e; simp at hj)
/-- The value v is a slice of the call's own that holds the numbers z. -/
def OwnI (w : World) (B : Nat) (v : Value) (z : List Int) : Prop := w.ownsRow B 3 1 v z.length (cellsI z)
section
variable {w w' : World} {B : Nat} {v : Value} {z : List Int}
theorem OwnI.nil (w : World) (B : Nat) : OwnI w B (.slice none 0 0) [] := World.ownsRow_nil w B _ 1
theorem OwnI.form (h : OwnI w B v z) : ∃ A c, v = .slice A z.length c ∧ z.length ≤ c ∧ c ≤ maxLen := by
  rcases h.2 with ⟨rfl, hn⟩ | ⟨g, cap, cur, rfl, hbg, hg, hnc, hcm, hcs, htake⟩
  · exact ⟨none, 0, by rw [hn], by omega, Nat.zero_le _⟩
  · exact ⟨_, cap, rfl, hnc, hcm⟩
theorem OwnI.at {A : Option Addr} {n c : Nat} (h : OwnI w B (.slice A n c) z) : IntsAt w w.heap.size A z := by
  intro hl
  rcases h.2 with ⟨hv, hn⟩ | ⟨g, cap, cur, hv, hbg, hg, hnc, hcm, hcs, htake⟩
  · exact absurd (List.eq_nil_of_length_eq_zero hn) hl
  · have hA : A = some ⟨g, 0, none⟩ := by injection hv
    refine ⟨g, 0, hA, (Array.getElem?_eq_some_iff.1 hg).1, fun j u hj => ?_⟩
    have hj2 := World.ownsRow.cells h (g := g) (by subst hA; rfl) j (.int .i64 u) (by simp [cellsI, hj])
    rwa [Addr.add_lit] at hj2
theorem OwnI.alloc (h : OwnI w B v z) (o : Obj) : OwnI (w.alloc o) B v z := World.ownsRow.alloc h o
theorem OwnI.below (h : OwnI w B v z) (hb : Below w.heap.size w w') : OwnI w' B v z :=
  World.ownsRow.kept h (row := none) ⟨hb.os, hb.tape, hb.output, hb.size, fun k hk _ => hb.block k hk⟩ (by cases v.ownBlock <;> simp)
theorem OwnI.lower {B' : Nat} (h : OwnI w B v z) (hB : B' ≤ B) : OwnI w B' v z := by
  refine ⟨h.1, ?_⟩
  rcases h.2 with h2 | ⟨g, cap, cur, hv, hbg, r⟩
  · exact .inl h2
  · exact .inr ⟨g, cap, cur, hv, Nat.le_trans hB hbg, r⟩
end
/-- What a call leaves that returns numbers of its own making. -/
def RetI (w : World) (z : List Int) (e : Ending) (w' : World) : Prop :=
  ∃ A c, e = .returned (.slice A z.length c) ∧ z.length ≤ c ∧ c ≤ maxLen ∧ OwnI w' w.heap.size (.slice A z.length c) z ∧ Below w.heap.size w w'
/-- Places as numbers. -/
def ints (l : List Nat) : List Int := l.map fun (n : Nat) => (n : Int)
theorem ints_len (l : List Nat) : (ints l).length = l.length := by simp [ints]
theorem ints_at {l : List Nat} {j i : Nat} (h : l[j]? = some i) : (ints l)[j]? = some (i : Int) := by simp [ints, h]
theorem ints_snoc (l : List Nat) (n : Nat) : ints (l ++ [n]) = ints l ++ [(n : Int)] := by simp [ints]
theorem cellsI_snoc (z : List Int) (n : Int) : cellsI (z ++ [n]) = cellsI z ++ [.int .i64 n] := by simp [cellsI]
theorem OwnI.snoc {w : World} {B : Nat} {v : Value} {z : List Int} {n : Int} (h : w.ownsRow B 3 1 v (z.length + 1) (cellsI z ++ [.int .i64 n])) : OwnI w B v (z ++ [n]) := by
  unfold OwnI
  rw [cellsI_snoc, List.length_append]
  exact h
def PlacesRel (w : World) (n : Nat) (v i : Value) (wr : World) : Prop :=
  Below w.heap.size w wr ∧ ∃ k : Nat, k ≤ n ∧ i = .int .i64 (k : Int) ∧ OwnI wr w.heap.size v (ints (List.range k))
set_option maxHeartbeats 3200000 in
theorem places_any (n : Nat) (w : World) (hn : n ≤ 1000000) :
    Calls Try.prog 23 #[.int .i64 (n : Int)] w (RetI w (ints (List.range n))) := by
  have HN := Lib.hid hn
  go_enter Try.func23, Try.ntmps23
  go_wp2_with fail
  go_loopw [3, 4] (fun v i wr => PlacesRel w n v i wr) (fun _ i _ => n - (intOf i).toNat)
  case atStart => exact ⟨Below.refl _ _, 0, Nat.zero_le _, rfl, OwnI.nil _ _⟩
  case round =>
    obtain ⟨hbr, k, hk, rfl, hown⟩ := hrel
    have HO := Lib.hid hown; have HB := Lib.hid hbr
    clear hown hbr
    by_cases hlt : k < n
    · have HLN := Lib.hid (show ((ints (List.range k)).length + 1) * 8 ≤ 140737488355328 by rw [ints_len, List.length_range]; omega)
      go_wp2_with (at_builtin; refine wpList_app_one isI64 rfl (.tmp 10) (.tmp 12) rfl w _ _ (cellsI _) rfl wr [.int .i64 (k : Int)] rfl HO.out rfl rfl (by simp [Value.oneCell']) HLN.out HB.out ?_)
      intro v1 w1 ho1 _ hb1
      have HO1 := Lib.hid (show OwnI w1 w.heap.size v1 (ints (List.range (k + 1))) by
        rw [List.range_succ, ints_snoc]
        exact OwnI.snoc ho1)
      have HB1 := Lib.hid hb1
      clear ho1 hb1 HO HB HLN
      go_wp2_with fail
      go_roundw
      case rel => exact ⟨HB1.out, k + 1, hlt, by go_num, HO1.out⟩
      case measure => simp [intOf]; omega
    · obtain rfl : k = n := by omega
      obtain ⟨A1, c1, rfl, f1, f2⟩ := HO.out.form
      have HF := Lib.hid (And.intro f1 f2)
      have HE := Lib.hid (ints_len (List.range k))
      clear f1 f2
      go_wp2_with fail
      go_ret
      exact ⟨A1, c1, rfl, HF.out.1, HF.out.2, HO.out, HB.out⟩
end Go.Proofs.Ytpjhidicgclmbaa

/-
  Numbers of a call's own; which messages deeds send; whether two lists of numbers are the same; whether a number has a bit.
-/
import Derived.Test.YthjnbjhdepfclaaDoorFault21
import Derived.Test.YthjnbjhdepfclaaDoorInts7
import Derived.Maps.AppendAt
import Derived.BigQuiet
import Derived.Deep.QuietTactic
namespace Go.Proofs.YthjnbjhdepfclaaDoor
set_option linter.unusedVariables false
set_option linter.unusedSimpArgs false
open Go.RowKit

def cellsI (z : List Int) : List Value := z.map fun (n : Int) => Value.int .i64 n
theorem cellsI_one (z : List Int) : ∀ u ∈ cellsI z, u.oneCell' = true := by
  intro u hu
  obtain ⟨_, _, rfl⟩ := List.mem_map.1 hu
  rfl
/-- The slice's address A leads to the numbers z, in a block below B. -/
def IntsAt (w : World) (B : Nat) (A : Option Addr) (z : List Int) : Prop :=
  z ≠ [] → ∃ b off, A = some ⟨b, off, none⟩ ∧ b < B ∧ ∀ (j : Nat) (u : Int), z[j]? = some u → w.cell? ⟨b, off + j, none⟩ = some (.int .i64 u)
theorem IntsAt.nil (w : World) (B : Nat) (A : Option Addr) : IntsAt w B A [] := fun h => absurd rfl h
theorem IntsAt.below {w w' : World} {B B' : Nat} {A : Option Addr} {z : List Int} (h : IntsAt w B A z) (hb : Below B' w w') (hB : B ≤ B') : IntsAt w' B A z := by
  intro hl
  obtain ⟨b, off, rfl, hlt, hc⟩ := h hl
  exact ⟨b, off, rfl, hlt, fun j u hj => (hb.cell (p := ⟨b, off + j, none⟩) (Nat.lt_of_lt_of_le hlt hB)).trans (hc j u hj)⟩
theorem IntsAt.lift {w : World} {B B' : Nat} {A : Option Addr} {z : List Int} (h : IntsAt w B A z) (hB : B ≤ B') : IntsAt w B' A z := fun hl => by
  obtain ⟨b, off, rfl, hlt, hc⟩ := h hl
  exact ⟨b, off, rfl, Nat.lt_of_lt_of_le hlt hB, hc⟩
theorem IntsAt.go {w w' : World} {A : Option Addr} {z : List Int} (h : IntsAt w w.heap.size A z) (hb : Below w.heap.size w w') : IntsAt w' w'.heap.size A z := (h.below hb (Nat.le_refl _)).lift hb.size
theorem IntsAt.at {w : World} {B : Nat} {A : Option Addr} {z : List Int} (h : IntsAt w B A z) {j : Nat} {u : Int} (hj : z[j]? = some u) : ∃ b off, A = some ⟨b, off, none⟩ ∧ b < B ∧ ∀ (j : Nat) (u : Int), z[j]? = some u → w.cell? ⟨b, off + j, none⟩ = some (.int .i64 u) :=
  h (by intro e; subst e; simp at hj)
/-- The value v is a slice of the call's own that holds the numbers z. -/
def OwnI (w : World) (B : Nat) (v : Value) (z : List Int) : Prop := w.ownsRow B 3 1 v z.length (cellsI z)
section
variable {w w' : World} {B : Nat} {v : Value} {z : List Int}
theorem OwnI.nil (w : World) (B : Nat) : OwnI w B (.slice none 0 0) [] := World.ownsRow_nil w B _ 1
theorem OwnI.form (h : OwnI w B v z) : ∃ A c, v = .slice A z.length c ∧ z.length ≤ c ∧ c ≤ maxLen := by
  rcases h.2 with ⟨rfl, hn⟩ | ⟨g, cap, cur, rfl, hbg, hg, hnc, hcm, hcs, htake⟩
  · exact ⟨none, 0, by rw [hn], by omega, Nat.zero_le _⟩
  · exact ⟨_, cap, rfl, hnc, hcm⟩
theorem OwnI.at {A : Option Addr} {n c : Nat} (h : OwnI w B (.slice A n c) z) : IntsAt w w.heap.size A z := by
  intro hl
  rcases h.2 with ⟨hv, hn⟩ | ⟨g, cap, cur, hv, hbg, hg, hnc, hcm, hcs, htake⟩
  · exact absurd (List.eq_nil_of_length_eq_zero hn) hl
  · have hA : A = some ⟨g, 0, none⟩ := by injection hv
    refine ⟨g, 0, hA, (Array.getElem?_eq_some_iff.1 hg).1, fun j u hj => ?_⟩
    have hj2 := World.ownsRow.cells h (g := g) (by subst hA; rfl) j (.int .i64 u) (by simp [cellsI, hj])
    rwa [Addr.add_lit] at hj2
theorem OwnI.alloc (h : OwnI w B v z) (o : Obj) : OwnI (w.alloc o) B v z := World.ownsRow.alloc h o
theorem OwnI.below (h : OwnI w B v z) (hb : Below w.heap.size w w') : OwnI w' B v z :=
  World.ownsRow.kept h (row := none) ⟨hb.os, hb.tape, hb.output, hb.size, fun k hk _ => hb.block k hk⟩ (by cases v.ownBlock <;> simp)
theorem OwnI.lower {B' : Nat} (h : OwnI w B v z) (hB : B' ≤ B) : OwnI w B' v z := by
  refine ⟨h.1, ?_⟩
  rcases h.2 with h2 | ⟨g, cap, cur, hv, hbg, r⟩
  · exact .inl h2
  · exact .inr ⟨g, cap, cur, hv, Nat.le_trans hB hbg, r⟩
end
/-- What a call leaves that returns numbers of its own making. -/
def RetI (w : World) (z : List Int) (e : Ending) (w' : World) : Prop :=
  ∃ A c, e = .returned (.slice A z.length c) ∧ z.length ≤ c ∧ c ≤ maxLen ∧ OwnI w' w.heap.size (.slice A z.length c) z ∧ Below w.heap.size w w'
theorem cellsI_snoc (z : List Int) (n : Int) : cellsI (z ++ [n]) = cellsI z ++ [.int .i64 n] := by simp [cellsI]
theorem OwnI.snoc {w : World} {B : Nat} {v : Value} {z : List Int} {n : Int} (h : w.ownsRow B 3 1 v (z.length + 1) (cellsI z ++ [.int .i64 n])) : OwnI w B v (z ++ [n]) := by
  unfold OwnI
  rw [cellsI_snoc, List.length_append]
  exact h
theorem infoI : (Tryd.prog.info? 3).map (fun i => (i.zero, i.size, i.bytes)) = some (some (.int .i64 0), 1, 8) := by kernel_rfl
section
variable {ops : Array Oper} {rest : List Oper} {o : Oper} {a : Act} {Q : Exit → Act → World → Prop}
theorem wpList_appI (w wr : World) (n : Int) (hw : w = wr.alloc (.cells #[.int .i64 n] 3)) (hgd : o.guard = none) (s x : Operand) (ho : o.op = .call { callee := .builtin .append, args := #[s, x], argTypes := #[33, 33] })
    (B : Nat) (v : Value) (z : List Int) (hs : a.eval s = v) (h : OwnI wr B v z) (hB : B ≤ wr.heap.size) (hx : a.eval x = .slice (some ⟨wr.heap.size, 0, none⟩) 1 1) (hl : z.length ≤ 1000000)
    (hK : ∀ v' w', OwnI w' B v' (z ++ [n]) → wr.grownBy w' v.ownBlock → Below B wr w' → (v'.ownBlock = v.ownBlock ∨ ∃ k, wr.heap.size ≤ k ∧ v'.ownBlock = some k) → wpList Tryd.prog ops Q rest (a.put o.dst v') w') : wpList Tryd.prog ops Q (o :: rest) a w := by
  subst hw
  obtain ⟨i, hi, hz0, hz1, hz2⟩ := info_parts infoI
  have hal : Below wr.heap.size wr (wr.alloc (.cells #[.int .i64 n] 3)) := (Below.refl _ _).alloc (Nat.le_refl _) _
  refine wpList_append_own_at _ hgd s x _ ho B 3 i _ 1 8 Tryd.underlying33 hi hz0 hz1 hz2 rfl (by decide) v z.length (cellsI z) hs (h.below hal) ⟨wr.heap.size, 0, none⟩ 1 1 [.int .i64 n] hx rfl (fun j u hu => ?_) (by simp [Value.oneCell']) (by unfold maxLen; omega) (by omega) (Nat.le_trans hB hal.size) ?_
  · rw [Addr.add_lit, (Blk.new wr _ [.int .i64 n]).cell]
    simpa using hu
  · intro v' w' ho' hg _ hloc
    have hg0 := grown_of_alloc hg
    refine hK v' w' (OwnI.snoc ho') hg0 ((Below.refl B wr).grown hg0 hB (fun k hk => (World.ownsRow.lt h k hk).1)) ?_
    rcases hloc with e | e
    · exact .inl e
    · exact .inr ⟨_, hal.size, e⟩
end
theorem ints_at21 {w : World} {A : Option Addr} {z : List Int} (h : Ints w A z) : IntsAt w w.heap.size A z := by
  intro hne
  obtain ⟨b, off, rfl, hlt, hc⟩ := h hne
  refine ⟨b, off, rfl, hlt, fun j u hj => ?_⟩
  obtain ⟨h1, h2⟩ := List.getElem?_eq_some_iff.1 hj
  rw [hc j h1]
  simp [List.getD, hj]
def sent1 (U b : Nat) (k : Int) : List Int := if U &&& b ≠ 0 then [k] else []
/-- Which messages the first deeds send. -/
def sentN (U : Nat) : Nat → List Int
  | 0 => []
  | 1 => sent1 U 4 1
  | 2 => sent1 U 4 1 ++ sent1 U 8 4
  | _ => (sent1 U 4 1 ++ sent1 U 8 4) ++ sent1 U 16 3
theorem sent1_len (U b : Nat) (k : Int) : (sent1 U b k).length ≤ 1 := by unfold sent1; split <;> simp
theorem sentN_len (U j : Nat) : (sentN U j).length ≤ 3 := by
  have h1 := sent1_len U 4 1
  have h2 := sent1_len U 8 4
  have h3 := sent1_len U 16 3
  unfold sentN
  split <;> (try simp only [List.length_append, List.length_nil]) <;> omega
def SentRel (w : World) (U : Nat) (v i : Value) (wr : World) : Prop := Below w.heap.size w wr ∧ ∃ j : Nat, j ≤ 3 ∧ i = .int .i64 (j : Int) ∧ OwnI wr w.heap.size v (sentN U j)
theorem index52_0 (w : World) : (Instr.index 52 (.agg #[.int .i64 4, .int .i64 1, .int .i64 8, .int .i64 4, .int .i64 16, .int .i64 3]) (.int .i64 0)).run Tryd.prog w = .ok (.agg #[.int .i64 4, .int .i64 1]) w := by kernel_rfl
theorem index52_1 (w : World) : (Instr.index 52 (.agg #[.int .i64 4, .int .i64 1, .int .i64 8, .int .i64 4, .int .i64 16, .int .i64 3]) (.int .i64 1)).run Tryd.prog w = .ok (.agg #[.int .i64 8, .int .i64 4]) w := by kernel_rfl
theorem index52_2 (w : World) : (Instr.index 52 (.agg #[.int .i64 4, .int .i64 1, .int .i64 8, .int .i64 4, .int .i64 16, .int .i64 3]) (.int .i64 2)).run Tryd.prog w = .ok (.agg #[.int .i64 16, .int .i64 3]) w := by kernel_rfl
set_option maxRecDepth 100000 in
set_option maxHeartbeats 6400000 in
theorem sent_any (U : Nat) (w : World) (hU : U < 4096) : Calls Tryd.prog 25 #[.int .i64 (U : Int)] w (RetI w (sentN U 3)) := by
  have q4 := Lib.hid (i64_and_small U 4 (by omega) (by omega))
  have q8 := Lib.hid (i64_and_small U 8 (by omega) (by omega))
  have q16 := Lib.hid (i64_and_small U 16 (by omega) (by omega))
  go_enter Tryd.func25, Tryd.ntmps25
  go_wp2_with fail
  go_loopw [3, 10] (fun v i wr => SentRel w U v i wr) (fun _ i _ => 3 - (intOf i).toNat)
  case atStart => exact ⟨Below.refl _ _, 0, by omega, rfl, OwnI.nil _ _⟩
  case round =>
    obtain ⟨hbr, j, hj, rfl, hown⟩ := hrel
    have HO := Lib.hid hown; have HB := Lib.hid hbr
    clear hown hbr
    rcases (show j = 0 ∨ j = 1 ∨ j = 2 ∨ j = 3 by omega) with rfl | rfl | rfl | rfl
    · have ix := fun W => index52_0 W
      have HL := Lib.hid (show (sentN U 0).length ≤ 3 from sentN_len U 0)
      have HS := Lib.hid (show sentN U 1 = sentN U 0 ++ sent1 U 4 1 from (List.nil_append _).symm)
      obtain ⟨z, hz⟩ : ∃ z, z = sentN U 0 := ⟨_, rfl⟩
      rw [← hz] at HO HL HS
      obtain ⟨a, ha⟩ : ∃ a, a = U &&& 4 := ⟨_, rfl⟩
      have hb : bits BinOp.and IntKind.i64 (U : Int) 4 = (a : Int) := by rw [ha]; exact q4.out
      have HBA := Lib.hid (HB.out.alloc HB.out.size (.cells #[.int .i64 4, .int .i64 1] 51))
      by_cases h0 : a = 0
      · have d0 : ((a : Int) != 0) = false := by simpa using (show (a : Int) = 0 by omega)
        have HE := Lib.hid (show sentN U 1 = z by rw [HS.out]; unfold sent1; rw [← ha, if_neg (by omega), List.append_nil])
        have HOA := Lib.hid (HO.out.alloc (.cells #[.int .i64 4, .int .i64 1] 51))
        clear h0 ha hz
        go_wp2_with fail
        go_roundw
        case rel => exact ⟨HBA.out, 1, by omega, by go_num, by rw [HE.out]; exact HOA.out⟩
        case measure => simp [intOf]
      · have d0 : ((a : Int) != 0) = true := by simpa using (show ¬ (a : Int) = 0 by omega)
        have HE := Lib.hid (show sentN U 1 = z ++ [1] by rw [HS.out]; unfold sent1; rw [← ha, if_pos h0])
        have HOA := Lib.hid (HO.out.alloc (.cells #[.int .i64 4, .int .i64 1] 51))
        obtain ⟨wa, hwa⟩ : ∃ W, W = wr.alloc (.cells #[.int .i64 4, .int .i64 1] 51) := ⟨_, rfl⟩
        have HZ := Lib.hid (show wa.heap.size = wr.heap.size + 1 by rw [hwa]; simp)
        rw [← hwa] at HOA HBA
        have HWA := Lib.hid hwa
        clear h0 ha hz hwa
        go_wp2_with (at_builtin; refine wpList_appI _ wa 1 (by rw [HWA.out]) rfl (.tmp 18) (.tmp 21) rfl w.heap.size _ z rfl HOA.out HBA.out.size (by rw [HZ.out]; change Value.slice (some ⟨wr.heap.size + 1, 0, none⟩) 1 1 = _; simp) (by have := HL.out; omega) ?_)
        intro v4 w4 ho4 hg4 hb4 _
        have HO4 := Lib.hid ho4
        have HB4 := Lib.hid (HBA.out.trans hb4)
        clear ho4 hg4 hb4 HOA HBA HO HB
        go_wp2_with fail
        go_roundw
        case rel => exact ⟨HB4.out, 1, by omega, by go_num, by rw [HE.out]; exact HO4.out⟩
        case measure => simp [intOf]
    · have ix := fun W => index52_1 W
      have HL := Lib.hid (show (sentN U 1).length ≤ 3 from sentN_len U 1)
      have HS := Lib.hid (show sentN U 2 = sentN U 1 ++ sent1 U 8 4 from rfl)
      obtain ⟨z, hz⟩ : ∃ z, z = sentN U 1 := ⟨_, rfl⟩
      rw [← hz] at HO HL HS
      obtain ⟨a, ha⟩ : ∃ a, a = U &&& 8 := ⟨_, rfl⟩
      have hb : bits BinOp.and IntKind.i64 (U : Int) 8 = (a : Int) := by rw [ha]; exact q8.out
      have HBA := Lib.hid (HB.out.alloc HB.out.size (.cells #[.int .i64 8, .int .i64 4] 51))
      by_cases h0 : a = 0
      · have d0 : ((a : Int) != 0) = false := by simpa using (show (a : Int) = 0 by omega)
        have HE := Lib.hid (show sentN U 2 = z by rw [HS.out]; unfold sent1; rw [← ha, if_neg (by omega), List.append_nil])
        have HOA := Lib.hid (HO.out.alloc (.cells #[.int .i64 8, .int .i64 4] 51))
        clear h0 ha hz
        go_wp2_with fail
        go_roundw
        case rel => exact ⟨HBA.out, 2, by omega, by go_num, by rw [HE.out]; exact HOA.out⟩
        case measure => simp [intOf]
      · have d0 : ((a : Int) != 0) = true := by simpa using (show ¬ (a : Int) = 0 by omega)
        have HE := Lib.hid (show sentN U 2 = z ++ [4] by rw [HS.out]; unfold sent1; rw [← ha, if_pos h0])
        have HOA := Lib.hid (HO.out.alloc (.cells #[.int .i64 8, .int .i64 4] 51))
        obtain ⟨wa, hwa⟩ : ∃ W, W = wr.alloc (.cells #[.int .i64 8, .int .i64 4] 51) := ⟨_, rfl⟩
        have HZ := Lib.hid (show wa.heap.size = wr.heap.size + 1 by rw [hwa]; simp)
        rw [← hwa] at HOA HBA
        have HWA := Lib.hid hwa
        clear h0 ha hz hwa
        go_wp2_with (at_builtin; refine wpList_appI _ wa 4 (by rw [HWA.out]) rfl (.tmp 18) (.tmp 21) rfl w.heap.size _ z rfl HOA.out HBA.out.size (by rw [HZ.out]; change Value.slice (some ⟨wr.heap.size + 1, 0, none⟩) 1 1 = _; simp) (by have := HL.out; omega) ?_)
        intro v4 w4 ho4 hg4 hb4 _
        have HO4 := Lib.hid ho4
        have HB4 := Lib.hid (HBA.out.trans hb4)
        clear ho4 hg4 hb4 HOA HBA HO HB
        go_wp2_with fail
        go_roundw
        case rel => exact ⟨HB4.out, 2, by omega, by go_num, by rw [HE.out]; exact HO4.out⟩
        case measure => simp [intOf]
    · have ix := fun W => index52_2 W
      have HL := Lib.hid (show (sentN U 2).length ≤ 3 from sentN_len U 2)
      have HS := Lib.hid (show sentN U 3 = sentN U 2 ++ sent1 U 16 3 from rfl)
      obtain ⟨z, hz⟩ : ∃ z, z = sentN U 2 := ⟨_, rfl⟩
      rw [← hz] at HO HL HS
      obtain ⟨a, ha⟩ : ∃ a, a = U &&& 16 := ⟨_, rfl⟩
      have hb : bits BinOp.and IntKind.i64 (U : Int) 16 = (a : Int) := by rw [ha]; exact q16.out
      have HBA := Lib.hid (HB.out.alloc HB.out.size (.cells #[.int .i64 16, .int .i64 3] 51))
      by_cases h0 : a = 0
      · have d0 : ((a : Int) != 0) = false := by simpa using (show (a : Int) = 0 by omega)
        have HE := Lib.hid (show sentN U 3 = z by rw [HS.out]; unfold sent1; rw [← ha, if_neg (by omega), List.append_nil])
        have HOA := Lib.hid (HO.out.alloc (.cells #[.int .i64 16, .int .i64 3] 51))
        clear h0 ha hz
        go_wp2_with fail
        go_roundw
        case rel => exact ⟨HBA.out, 3, by omega, by go_num, by rw [HE.out]; exact HOA.out⟩
        case measure => simp [intOf]
      · have d0 : ((a : Int) != 0) = true := by simpa using (show ¬ (a : Int) = 0 by omega)
        have HE := Lib.hid (show sentN U 3 = z ++ [3] by rw [HS.out]; unfold sent1; rw [← ha, if_pos h0])
        have HOA := Lib.hid (HO.out.alloc (.cells #[.int .i64 16, .int .i64 3] 51))
        obtain ⟨wa, hwa⟩ : ∃ W, W = wr.alloc (.cells #[.int .i64 16, .int .i64 3] 51) := ⟨_, rfl⟩
        have HZ := Lib.hid (show wa.heap.size = wr.heap.size + 1 by rw [hwa]; simp)
        rw [← hwa] at HOA HBA
        have HWA := Lib.hid hwa
        clear h0 ha hz hwa
        go_wp2_with (at_builtin; refine wpList_appI _ wa 3 (by rw [HWA.out]) rfl (.tmp 18) (.tmp 21) rfl w.heap.size _ z rfl HOA.out HBA.out.size (by rw [HZ.out]; change Value.slice (some ⟨wr.heap.size + 1, 0, none⟩) 1 1 = _; simp) (by have := HL.out; omega) ?_)
        intro v4 w4 ho4 hg4 hb4 _
        have HO4 := Lib.hid ho4
        have HB4 := Lib.hid (HBA.out.trans hb4)
        clear ho4 hg4 hb4 HOA HBA HO HB
        go_wp2_with fail
        go_roundw
        case rel => exact ⟨HB4.out, 3, by omega, by go_num, by rw [HE.out]; exact HO4.out⟩
        case measure => simp [intOf]
    · obtain ⟨A1, c1, rfl, f1, f2⟩ := HO.out.form
      have HF := Lib.hid (And.intro f1 f2)
      clear f1 f2
      go_wp2_with fail
      go_ret
      exact ⟨A1, c1, rfl, HF.out.1, HF.out.2, HO.out, HB.out⟩
def sameI (y z : List Int) : Bool := decide (y = z)
theorem sameI_step {y z : List Int} {j : Nat} {u v : Int} (hy : y[j]? = some u) (hz : z[j]? = some v) (h : y.take j = z.take j) : (u = v → y.take (j + 1) = z.take (j + 1)) ∧ (¬ u = v → sameI y z = false) := by
  obtain ⟨h1, h2⟩ := List.getElem?_eq_some_iff.1 hy
  obtain ⟨h3, h4⟩ := List.getElem?_eq_some_iff.1 hz
  refine ⟨fun e => ?_, fun e => decide_eq_false (fun q => ?_)⟩
  · rw [List.take_succ_eq_append_getElem h1, List.take_succ_eq_append_getElem h3, h, h2, h4, e]
  · subst q
    rw [hy] at hz
    injection hz with hz
    exact e hz
theorem sameI_end {y z : List Int} (hl : y.length = z.length) (h : y.take y.length = z.take y.length) : sameI y z = true := by
  rw [List.take_length, hl, List.take_length] at h
  exact decide_eq_true h
set_option maxHeartbeats 1600000 in
theorem EqualI_any (A A' : Option Addr) (c c' : Nat) (y z : List Int) (w : World) (h : IntsAt w w.heap.size A y) (h' : IntsAt w w.heap.size A' z) (hl : y.length ≤ 1000000) :
    Calls Tryd.prog 24 #[.slice A y.length c, .slice A' z.length c'] w fun e w' => e = .returned (.bool (sameI y z)) ∧ Below w.heap.size w w' := by
  have HS := Lib.hid h; have HS' := Lib.hid h'; clear h h'
  by_cases hlen : y.length = z.length
  · have HL := Lib.hid hlen
    rw [← hlen]
    clear hlen
    go_enter Tryd.func24, Tryd.ntmps24
    go_wp2_with fail
    go_loopw [13] (fun i wr => ∃ (j m : Nat), wr = w.drewN m ∧ j ≤ y.length ∧ i = .int .i64 (j : Int) ∧ Hid (y.take j = z.take j)) (fun i _ => y.length - (intOf i).toNat)
    case atStart => exact ⟨0, 0, rfl, Nat.zero_le _, rfl, Lib.hid (by simp)⟩
    case round =>
      obtain ⟨j, m, rfl, hj, rfl, hsm⟩ := hrel
      by_cases hlt : j < y.length
      · have hlt' : j < z.length := by rw [← HL.out]; exact hlt
        obtain ⟨x, hx⟩ : ∃ u, y[j]? = some u := ⟨_, List.getElem?_eq_getElem hlt⟩
        obtain ⟨x', hx'⟩ : ∃ u, z[j]? = some u := ⟨_, List.getElem?_eq_getElem hlt'⟩
        obtain ⟨b, off, hA, hb, k1⟩ := HS.out.at hx
        obtain ⟨b', off', hA', hb', k2⟩ := HS'.out.at hx'
        replace k1 := k1 j x hx
        replace k2 := k2 j x' hx'
        have HST := Lib.hid (sameI_step hx hx' hsm.out)
        have HJ := Lib.hid hlt
        clear hx hx' hlt'
        subst hA; subst hA'
        by_cases he : x = x'
        · have he2 : (x != x') = false := by simpa using he
          have HN := Lib.hid (HST.out.1 he)
          clear he HST
          go_wp2_with fail
          go_quiet (fail)
          go_wp2_with fail
          go_roundw
          case rel => exact ⟨j + 1, _, rfl, HJ.out, by go_num, HN⟩
          case measure => have := HJ.out; simp [intOf]; omega
        · have he2 : (x != x') = true := by simpa using he
          have HN := Lib.hid (HST.out.2 he)
          clear he HST
          go_wp2_with fail
          go_quiet (fail)
          go_wp2_with fail
          go_ret
          exact ⟨by rw [HN.out]; rfl, below_drewN (below_drewN (Below.refl _ _) _) _⟩
      · obtain rfl : j = y.length := by omega
        have HE := Lib.hid (sameI_end HL.out hsm.out)
        go_wp2_with fail
        go_ret
        exact ⟨by rw [HE.out]; rfl, below_drewN (Below.refl _ _) _⟩
  · have hne : ((y.length : Int) != (z.length : Int)) = true := by simp; omega
    have HE := Lib.hid (show sameI y z = false from decide_eq_false (fun e => hlen (by rw [e])))
    clear hlen
    go_enter Tryd.func24, Tryd.ntmps24
    go_wp2_with fail
    go_ret
    exact ⟨by rw [HE.out]; rfl, Below.refl _ _⟩
theorem bit_is4 (U : Nat) : (U &&& 4 ≠ 0) ↔ U / 4 % 2 = 1 := by
  have h := nat_bit 2 U
  have e : (2 : Nat) ^ 2 = 4 := by decide
  rw [e] at h
  rw [h]
  omega
theorem Has_4 (U : Nat) (w : World) (hU : U < 4096) : Calls Tryd.prog 27 #[.int .i64 (U : Int), .int .i64 4] w fun e w' => e = .returned (.bool (decide (U &&& 4 ≠ 0))) ∧ w = w' := by
  have HB := Lib.hid (bit_is4 U)
  by_cases h : U / 4 % 2 = 1
  · have HE := Lib.hid (show decide (U &&& 4 ≠ 0) = true from decide_eq_true ((bit_is4 U).2 h))
    have d : ((U : Int) / 4 % 2 == 1) = true := by simpa using (show (U : Int) / 4 % 2 = 1 by omega)
    go_enter Tryd.func27, Tryd.ntmps27
    go_wp2_with fail
    go_ret
    exact ⟨by rw [HE.out]; first | rfl | exact congrArg (fun b => Ending.returned (.bool b)) d, rfl⟩
  · have HE := Lib.hid (show decide (U &&& 4 ≠ 0) = false from decide_eq_false (fun q => h ((bit_is4 U).1 q)))
    have d : ((U : Int) / 4 % 2 == 1) = false := by simpa using (show ¬ (U : Int) / 4 % 2 = 1 by omega)
    go_enter Tryd.func27, Tryd.ntmps27
    go_wp2_with fail
    go_ret
    exact ⟨by rw [HE.out]; first | rfl | exact congrArg (fun b => Ending.returned (.bool b)) d, rfl⟩
theorem bit_is8 (U : Nat) : (U &&& 8 ≠ 0) ↔ U / 8 % 2 = 1 := by
  have h := nat_bit 3 U
  have e : (2 : Nat) ^ 3 = 8 := by decide
  rw [e] at h
  rw [h]
  omega
theorem Has_8 (U : Nat) (w : World) (hU : U < 4096) : Calls Tryd.prog 27 #[.int .i64 (U : Int), .int .i64 8] w fun e w' => e = .returned (.bool (decide (U &&& 8 ≠ 0))) ∧ w = w' := by
  have HB := Lib.hid (bit_is8 U)
  by_cases h : U / 8 % 2 = 1
  · have HE := Lib.hid (show decide (U &&& 8 ≠ 0) = true from decide_eq_true ((bit_is8 U).2 h))
    have d : ((U : Int) / 8 % 2 == 1) = true := by simpa using (show (U : Int) / 8 % 2 = 1 by omega)
    go_enter Tryd.func27, Tryd.ntmps27
    go_wp2_with fail
    go_ret
    exact ⟨by rw [HE.out]; first | rfl | exact congrArg (fun b => Ending.returned (.bool b)) d, rfl⟩
  · have HE := Lib.hid (show decide (U &&& 8 ≠ 0) = false from decide_eq_false (fun q => h ((bit_is8 U).1 q)))
    have d : ((U : Int) / 8 % 2 == 1) = false := by simpa using (show ¬ (U : Int) / 8 % 2 = 1 by omega)
    go_enter Tryd.func27, Tryd.ntmps27
    go_wp2_with fail
    go_ret
    exact ⟨by rw [HE.out]; first | rfl | exact congrArg (fun b => Ending.returned (.bool b)) d, rfl⟩
theorem bit_is16 (U : Nat) : (U &&& 16 ≠ 0) ↔ U / 16 % 2 = 1 := by
  have h := nat_bit 4 U
  have e : (2 : Nat) ^ 4 = 16 := by decide
  rw [e] at h
  rw [h]
  omega
theorem Has_16 (U : Nat) (w : World) (hU : U < 4096) : Calls Tryd.prog 27 #[.int .i64 (U : Int), .int .i64 16] w fun e w' => e = .returned (.bool (decide (U &&& 16 ≠ 0))) ∧ w = w' := by
  have HB := Lib.hid (bit_is16 U)
  by_cases h : U / 16 % 2 = 1
  · have HE := Lib.hid (show decide (U &&& 16 ≠ 0) = true from decide_eq_true ((bit_is16 U).2 h))
    have d : ((U : Int) / 16 % 2 == 1) = true := by simpa using (show (U : Int) / 16 % 2 = 1 by omega)
    go_enter Tryd.func27, Tryd.ntmps27
    go_wp2_with fail
    go_ret
    exact ⟨by rw [HE.out]; first | rfl | exact congrArg (fun b => Ending.returned (.bool b)) d, rfl⟩
  · have HE := Lib.hid (show decide (U &&& 16 ≠ 0) = false from decide_eq_false (fun q => h ((bit_is16 U).1 q)))
    have d : ((U : Int) / 16 % 2 == 1) = false := by simpa using (show ¬ (U : Int) / 16 % 2 = 1 by omega)
    go_enter Tryd.func27, Tryd.ntmps27
    go_wp2_with fail
    go_ret
    exact ⟨by rw [HE.out]; first | rfl | exact congrArg (fun b => Ending.returned (.bool b)) d, rfl⟩
end Go.Proofs.YthjnbjhdepfclaaDoor

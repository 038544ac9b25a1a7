/-
  Numbers of a call's own; a clock so many ticks later.
-/
import Derived.Test.YteihadheplcccaaSet20
import Derived.Maps.AppendAt
namespace Go.Proofs.Yteihadheplcccaa
set_option linter.unusedVariables false
set_option linter.unusedSimpArgs false
open Go.RowKit

def cellsI (z : List Int) : List Value := z.map fun (n : Int) => Value.int .i64 n
theorem cellsI_one (z : List Int) : ∀ u ∈ cellsI z, u.oneCell' = true := by
  intro u hu
  obtain ⟨_, _, rfl⟩ := List.mem_map.1 hu
  rfl
/-- The slice's address A leads to the numbers z, in a block below B. -/
def IntsAt (w : World) (B : Nat) (A : Option Addr) (z : List Int) : Prop :=
  z ≠ [] → ∃ b off, A = some ⟨b, off, none⟩ ∧ b < B ∧ ∀ (j : Nat) (u : Int), z[j]? = some u → w.cell? ⟨b, off + j, none⟩ = some (.int .i64 u)
theorem IntsAt.nil (w : World) (B : Nat) (A : Option Addr) : IntsAt w B A [] := fun h => absurd rfl h
theorem IntsAt.below {w w' : World} {B B' : Nat} {A : Option Addr} {z : List Int} (h : IntsAt w B A z) (hb : Below B' w w') (hB : B ≤ B') : IntsAt w' B A z := by
  intro hl
  obtain ⟨b, off, rfl, hlt, hc⟩ := h hl
  exact ⟨b, off, rfl, hlt, fun j u hj => (hb.cell (p := ⟨b, off + j, none⟩) (Nat.lt_of_lt_of_le hlt hB)).trans (hc j u hj)⟩
theorem IntsAt.lift {w : World} {B B' : Nat} {A : Option Addr} {z : List Int} (h : IntsAt w B A z) (hB : B ≤ B') : IntsAt w B' A z := fun hl => by
  obtain ⟨b, off, rfl, hlt, hc⟩ := h hl
  exact ⟨b, off, rfl, Nat.lt_of_lt_of_le hlt hB, hc⟩
theorem IntsAt.go {w w' : World} {A : Option Addr} {z : List Int} (h : IntsAt w w.heap.size A z) (hb : Below w.heap.size w w') : IntsAt w' w'.heap.size A z := (h.below hb (Nat.le_refl _)).lift hb.size
theorem IntsAt.at {w : World} {B : Nat} {A : Option Addr} {z : List Int} (h : IntsAt w B A z) {j : Nat} {u : Int} (hj : z[j]? = some u) : ∃ b off, A = some ⟨b, off, none⟩ ∧ b < B ∧ ∀ (j : Nat) (u : Int), z[j]? = some u → w.cell? ⟨b, off + j, none⟩ = some (.int .i64 u) :=
  h (by intro e; subst e; simp at hj)
/-- The value v is a slice of the call's own that holds the numbers z. -/
def OwnI (w : World) (B : Nat) (v : Value) (z : List Int) : Prop := w.ownsRow B 3 1 v z.length (cellsI z)
section
variable {w w' : World} {B : Nat} {v : Value} {z : List Int}
theorem OwnI.nil (w : World) (B : Nat) : OwnI w B (.slice none 0 0) [] := World.ownsRow_nil w B _ 1
theorem OwnI.form (h : OwnI w B v z) : ∃ A c, v = .slice A z.length c ∧ z.length ≤ c ∧ c ≤ maxLen := by
  rcases h.2 with ⟨rfl, hn⟩ | ⟨g, cap, cur, rfl, hbg, hg, hnc, hcm, hcs, htake⟩
  · exact ⟨none, 0, by rw [hn], by omega, Nat.zero_le _⟩
  · exact ⟨_, cap, rfl, hnc, hcm⟩
theorem OwnI.at {A : Option Addr} {n c : Nat} (h : OwnI w B (.slice A n c) z) : IntsAt w w.heap.size A z := by
  intro hl
  rcases h.2 with ⟨hv, hn⟩ | ⟨g, cap, cur, hv, hbg, hg, hnc, hcm, hcs, htake⟩
  · exact absurd (List.eq_nil_of_length_eq_zero hn) hl
  · have hA : A = some ⟨g, 0, none⟩ := by injection hv
    refine ⟨g, 0, hA, (Array.getElem?_eq_some_iff.1 hg).1, fun j u hj => ?_⟩
    have hj2 := World.ownsRow.cells h (g := g) (by subst hA; rfl) j (.int .i64 u) (by simp [cellsI, hj])
    rwa [Addr.add_lit] at hj2
theorem OwnI.alloc (h : OwnI w B v z) (o : Obj) : OwnI (w.alloc o) B v z := World.ownsRow.alloc h o
theorem OwnI.below (h : OwnI w B v z) (hb : Below w.heap.size w w') : OwnI w' B v z :=
  World.ownsRow.kept h (row := none) ⟨hb.os, hb.tape, hb.output, hb.size, fun k hk _ => hb.block k hk⟩ (by cases v.ownBlock <;> simp)
theorem OwnI.lower {B' : Nat} (h : OwnI w B v z) (hB : B' ≤ B) : OwnI w B' v z := by
  refine ⟨h.1, ?_⟩
  rcases h.2 with h2 | ⟨g, cap, cur, hv, hbg, r⟩
  · exact .inl h2
  · exact .inr ⟨g, cap, cur, hv, Nat.le_trans hB hbg, r⟩
end
/-- What a call leaves that returns numbers of its own making. -/
def RetI (w : World) (z : List Int) (e : Ending) (w' : World) : Prop :=
  ∃ A c, e = .returned (.slice A z.length c) ∧ z.length ≤ c ∧ c ≤ maxLen ∧ OwnI w' w.heap.size (.slice A z.length c) z ∧ Below w.heap.size w w'
theorem cellsI_snoc (z : List Int) (n : Int) : cellsI (z ++ [n]) = cellsI z ++ [.int .i64 n] := by simp [cellsI]
theorem OwnI.snoc {w : World} {B : Nat} {v : Value} {z : List Int} {n : Int} (h : w.ownsRow B 3 1 v (z.length + 1) (cellsI z ++ [.int .i64 n])) : OwnI w B v (z ++ [n]) := by
  unfold OwnI
  rw [cellsI_snoc, List.length_append]
  exact h
theorem infoI : (Try.prog.info? 3).map (fun i => (i.zero, i.size, i.bytes)) = some (some (.int .i64 0), 1, 8) := by kernel_rfl
section
variable {ops : Array Oper} {rest : List Oper} {o : Oper} {a : Act} {Q : Exit → Act → World → Prop}
theorem wpList_appI (w wr : World) (n : Int) (hw : w = wr.alloc (.cells #[.int .i64 n] 3)) (hgd : o.guard = none) (s x : Operand) (ho : o.op = .call { callee := .builtin .append, args := #[s, x], argTypes := #[30, 30] })
    (B : Nat) (v : Value) (z : List Int) (hs : a.eval s = v) (h : OwnI wr B v z) (hB : B ≤ wr.heap.size) (hx : a.eval x = .slice (some ⟨wr.heap.size, 0, none⟩) 1 1) (hl : z.length ≤ 1000000)
    (hK : ∀ v' w', OwnI w' B v' (z ++ [n]) → wr.grownBy w' v.ownBlock → Below B wr w' → (v'.ownBlock = v.ownBlock ∨ ∃ k, wr.heap.size ≤ k ∧ v'.ownBlock = some k) → wpList Try.prog ops Q rest (a.put o.dst v') w') : wpList Try.prog ops Q (o :: rest) a w := by
  subst hw
  obtain ⟨i, hi, hz0, hz1, hz2⟩ := info_parts infoI
  have hal : Below wr.heap.size wr (wr.alloc (.cells #[.int .i64 n] 3)) := (Below.refl _ _).alloc (Nat.le_refl _) _
  refine wpList_append_own_at _ hgd s x _ ho B 3 i _ 1 8 Try.underlying30 hi hz0 hz1 hz2 rfl (by decide) v z.length (cellsI z) hs (h.below hal) ⟨wr.heap.size, 0, none⟩ 1 1 [.int .i64 n] hx rfl (fun j u hu => ?_) (by simp [Value.oneCell']) (by unfold maxLen; omega) (by omega) (Nat.le_trans hB hal.size) ?_
  · rw [Addr.add_lit, (Blk.new wr _ [.int .i64 n]).cell]
    simpa using hu
  · intro v' w' ho' hg _ hloc
    have hg0 := grown_of_alloc hg
    refine hK v' w' (OwnI.snoc ho') hg0 ((Below.refl B wr).grown hg0 hB (fun k hk => (World.ownsRow.lt h k hk).1)) ?_
    rcases hloc with e | e
    · exact .inl e
    · exact .inr ⟨_, hal.size, e⟩
end
theorem OwnI.grown {w w' : World} {B g : Nat} {v : Value} {z : List Int} (h : OwnI w B v z) (hg : w.grownBy w' (some g)) (hlt : g < B) : OwnI w' B v z :=
  World.ownsRow.kept h hg (by
    cases e : v.ownBlock with
    | none => exact .inl rfl
    | some k =>
      right
      intro q
      injection q with q
      have := (World.ownsRow.lt h k e).1
      omega)
/-- The cells of three times. -/
def triL (t : Tri) : List Value := [.int .i64 t.a, .int .i64 t.b, .int .i64 t.c]
def PassRel (w : World) (k a b c : Int) (v i : Value) (wr : World) : Prop :=
  Below w.heap.size w wr ∧ ∃ j : Nat, j ≤ 3 ∧ i = .int .i64 (j : Int) ∧ Blk wr w.heap.size 24 (triL (passN k ⟨a, b, c⟩ j)) ∧ Blk wr (w.heap.size + 1) 24 [.int .i64 0, .int .i64 0, .int .i64 0] ∧ OwnI wr (w.heap.size + 2) v (endN k ⟨a, b, c⟩ j)
/-- What pass leaves: a clock, and which times came to 0. -/
def PassPost (w : World) (t : Tri) (z : List Int) (e : Ending) (w' : World) : Prop :=
  ∃ A n, e = .returned (.tuple #[.agg #[.int .i64 t.a, .int .i64 t.b, .int .i64 t.c], .slice A z.length n]) ∧ OwnI w' w.heap.size (.slice A z.length n) z ∧ Below w.heap.size w w'
theorem OwnI.setBelow {w : World} {B : Nat} {v : Value} {z : List Int} (h : OwnI w B v z) {g i : Nat} (hg : g < B) (u : Value) : OwnI (w.setCell ⟨g, i, none⟩ u) B v z :=
  h.grown (grown_setCell (grown_refl w (some g)) i u) hg
set_option maxRecDepth 100000 in
set_option maxHeartbeats 12800000 in
theorem pass_any (a b c k : Int) (w : World) (hk : Fits k ⟨a, b, c⟩) (ht : (⟨a, b, c⟩ : Tri).I64) :
    Calls Try.prog 18 #[.agg #[.int .i64 a, .int .i64 b, .int .i64 c], .int .i64 k] w (PassPost w (passN k ⟨a, b, c⟩ 3) (endN k ⟨a, b, c⟩ 3)) := by
  obtain ⟨hk0, hka, hkb, hkc⟩ := hk
  obtain ⟨⟨_, ha⟩, ⟨_, hb⟩, ⟨_, hc⟩⟩ := ht
  have HWa := Lib.hid (fun (h : 0 < a) => show IntKind.i64.wrap (a - k) = a - k from IntWalk.i64_in _ ⟨by have := hka h; dsimp at *; omega, by dsimp at *; omega⟩)
  have HWb := Lib.hid (fun (h : 0 < b) => show IntKind.i64.wrap (b - k) = b - k from IntWalk.i64_in _ ⟨by have := hkb h; dsimp at *; omega, by dsimp at *; omega⟩)
  have HWc := Lib.hid (fun (h : 0 < c) => show IntKind.i64.wrap (c - k) = c - k from IntWalk.i64_in _ ⟨by have := hkc h; dsimp at *; omega, by dsimp at *; omega⟩)
  obtain ⟨hb0, k1, k2, hz⟩ := box2 w (.int .i64 a) (.int .i64 b) (.int .i64 c) (.int .i64 0) (.int .i64 0) (.int .i64 0) 24 24
  have HB := Lib.hid hb0; have K1 := Lib.hid k1; have K2 := Lib.hid k2; have HZ := Lib.hid hz
  have HN0 := Lib.hid (OwnI.nil ((w.alloc (.cells #[.int .i64 a, .int .i64 b, .int .i64 c] 24)).alloc (.cells #[.int .i64 0, .int .i64 0, .int .i64 0] 24)) (w.heap.size + 2))
  have c0 := cells3 k1
  clear hb0 k1 k2 hz hk0 hka hkb hkc ha hb hc
  go_enter Try.func18, Try.ntmps18
  go_wp2_with fail
  go_loopw [6, 11] (fun v i wr => PassRel w k a b c v i wr) (fun _ i _ => 3 - (intOf i).toNat)
  case atStart => exact ⟨HB.out, 0, by omega, rfl, K1.out, K2.out, HN0.out⟩
  case round =>
    clear HB K1 K2 HN0 c0
    obtain ⟨hbr, j, hj, rfl, k1, k2, hown⟩ := hrel
    rcases (show j = 0 ∨ j = 1 ∨ j = 2 ∨ j = 3 by omega) with rfl | rfl | rfl | rfl
    · have ix := fun w => index3_0 (.int .i64 a) (.int .i64 b) (.int .i64 c) w
      obtain ⟨z, hzz⟩ : ∃ z, z = endN k ⟨a, b, c⟩ 0 := ⟨_, rfl⟩
      have HZL := Lib.hid (show z.length ≤ 0 by rw [hzz]; exact endN_len _ _ _)
      have HT := Lib.hid (show triL (passN k ⟨a, b, c⟩ 1) = [.int .i64 (less k a), .int .i64 b, .int .i64 c] by rfl)
      have HE := Lib.hid (show endN k ⟨a, b, c⟩ 1 = z ++ end1 k a 0 by rw [hzz]; rfl)
      replace k1 : Blk wr w.heap.size 24 [.int .i64 a, .int .i64 b, .int .i64 c] := by exact k1
      rw [← hzz] at hown
      have c1 := cells3 k1; have f1 := free3 k1
      have HB := Lib.hid hbr; have K1 := Lib.hid k1; have K2 := Lib.hid k2; have HO := Lib.hid hown
      clear hbr k1 k2 hown hzz 
      by_cases h0 : 0 < a
      · have d0 : ¬ a ≤ 0 := by omega
        obtain ⟨y1, hy1⟩ : ∃ n, n = a - k := ⟨_, rfl⟩
        have w1 : IntKind.i64.wrap (a - k) = y1 := by rw [hy1]; exact HWa.out h0
        have HY := Lib.hid (show less k a = y1 by unfold less; rw [if_pos h0, hy1])
        have K1' := Lib.hid (show Blk (wr.setCell ⟨w.heap.size, 0, none⟩ (.int .i64 y1)) w.heap.size 24 [.int .i64 y1, .int .i64 b, .int .i64 c] from K1.out.set 0 (.int .i64 y1))
        have K2' := Lib.hid (K2.out.other (i := 0) (u := .int .i64 y1) (Nat.succ_ne_self w.heap.size))
        have HO' := Lib.hid (HO.out.setBelow (g := w.heap.size) (i := 0) (by omega) (.int .i64 y1))
        have HB' := Lib.hid (HB.out.setCell (p := ⟨w.heap.size, 0, none⟩) (Nat.le_refl _) (.int .i64 y1))
        by_cases hkx : a = k
        · have d1 : (a == k) = true := by simpa using hkx
          have HV := Lib.hid (show end1 k a 0 = [(0 : Int)] by unfold end1; rw [if_pos ⟨h0, hkx⟩]; rfl)
          have HSZ := Lib.hid (show w.heap.size + 2 ≤ (wr.setCell ⟨w.heap.size, 0, none⟩ (.int .i64 y1)).heap.size from K2'.out.lt)
          clear hkx hy1
          go_wp2_with (at_builtin; refine wpList_appI _ (wr.setCell ⟨w.heap.size, 0, none⟩ (.int .i64 y1)) (0 : Int) rfl rfl (.tmp 26) (.tmp 28) rfl (w.heap.size + 2) _ z rfl HO'.out HSZ.out (by change Value.slice (some ⟨wr.heap.size, 0, none⟩) 1 1 = _; simp) (by have := HZL.out; omega) ?_)
          intro v4 w4 ho4 hg4 hb4 _
          have HO4 := Lib.hid ho4
          have K14 := Lib.hid (K1'.out.below hb4 (by omega)); have K24 := Lib.hid (K2'.out.below hb4 (by omega))
          have HB4 := Lib.hid (HB'.out.trans (hb4.mono (by omega)))
          clear ho4 hg4 hb4 c1 f1 HO' K1' K2' HB' HB K1 K2 HO w1
          go_wp2_with fail
          go_roundw
          case rel => exact ⟨HB4.out, 1, by omega, by go_num, by rw [HT.out, HY.out]; exact K14.out, K24.out, by rw [HE.out, HV.out]; exact HO4.out⟩
          case measure => simp [intOf]
        · have d1 : (a == k) = false := by simpa using hkx
          have HV := Lib.hid (show end1 k a 0 = [] by unfold end1; rw [if_neg (fun q => hkx q.2)])
          clear hkx hy1
          go_wp2_with fail
          go_roundw
          case rel => exact ⟨HB'.out, 1, by omega, by go_num, by rw [HT.out, HY.out]; exact K1'.out, K2'.out, by rw [HE.out, HV.out, List.append_nil]; exact HO'.out⟩
          case measure => simp [intOf]
      · have d0 : a ≤ 0 := by omega
        have HY := Lib.hid (show less k a = a by unfold less; rw [if_neg h0])
        have HV := Lib.hid (show end1 k a 0 = [] by unfold end1; rw [if_neg (fun q => h0 q.1)])
        go_wp2_with fail
        go_roundw
        case rel => exact ⟨HB.out, 1, by omega, by go_num, by rw [HT.out, HY.out]; exact K1.out, K2.out, by rw [HE.out, HV.out, List.append_nil]; exact HO.out⟩
        case measure => simp [intOf]
    · have ix := fun w => index3_1 (.int .i64 a) (.int .i64 b) (.int .i64 c) w
      obtain ⟨z, hzz⟩ : ∃ z, z = endN k ⟨a, b, c⟩ 1 := ⟨_, rfl⟩
      have HZL := Lib.hid (show z.length ≤ 1 by rw [hzz]; exact endN_len _ _ _)
      obtain ⟨x, hx⟩ : ∃ n, n = less k a := ⟨_, rfl⟩
      have HT := Lib.hid (show triL (passN k ⟨a, b, c⟩ 2) = [.int .i64 x, .int .i64 (less k b), .int .i64 c] by subst hx; rfl)
      have HE := Lib.hid (show endN k ⟨a, b, c⟩ 2 = z ++ end1 k b 1 by rw [hzz]; rfl)
      replace k1 : Blk wr w.heap.size 24 [.int .i64 x, .int .i64 b, .int .i64 c] := by subst hx; exact k1
      rw [← hzz] at hown
      have c1 := cells3 k1; have f1 := free3 k1
      have HB := Lib.hid hbr; have K1 := Lib.hid k1; have K2 := Lib.hid k2; have HO := Lib.hid hown
      clear hbr k1 k2 hown hzz hx
      by_cases h0 : 0 < b
      · have d0 : ¬ b ≤ 0 := by omega
        obtain ⟨y1, hy1⟩ : ∃ n, n = b - k := ⟨_, rfl⟩
        have w1 : IntKind.i64.wrap (b - k) = y1 := by rw [hy1]; exact HWb.out h0
        have HY := Lib.hid (show less k b = y1 by unfold less; rw [if_pos h0, hy1])
        have K1' := Lib.hid (show Blk (wr.setCell ⟨w.heap.size, 1, none⟩ (.int .i64 y1)) w.heap.size 24 [.int .i64 x, .int .i64 y1, .int .i64 c] from K1.out.set 1 (.int .i64 y1))
        have K2' := Lib.hid (K2.out.other (i := 1) (u := .int .i64 y1) (Nat.succ_ne_self w.heap.size))
        have HO' := Lib.hid (HO.out.setBelow (g := w.heap.size) (i := 1) (by omega) (.int .i64 y1))
        have HB' := Lib.hid (HB.out.setCell (p := ⟨w.heap.size, 1, none⟩) (Nat.le_refl _) (.int .i64 y1))
        by_cases hkx : b = k
        · have d1 : (b == k) = true := by simpa using hkx
          have HV := Lib.hid (show end1 k b 1 = [(1 : Int)] by unfold end1; rw [if_pos ⟨h0, hkx⟩]; rfl)
          have HSZ := Lib.hid (show w.heap.size + 2 ≤ (wr.setCell ⟨w.heap.size, 1, none⟩ (.int .i64 y1)).heap.size from K2'.out.lt)
          clear hkx hy1
          go_wp2_with (at_builtin; refine wpList_appI _ (wr.setCell ⟨w.heap.size, 1, none⟩ (.int .i64 y1)) (1 : Int) rfl rfl (.tmp 26) (.tmp 28) rfl (w.heap.size + 2) _ z rfl HO'.out HSZ.out (by change Value.slice (some ⟨wr.heap.size, 0, none⟩) 1 1 = _; simp) (by have := HZL.out; omega) ?_)
          intro v4 w4 ho4 hg4 hb4 _
          have HO4 := Lib.hid ho4
          have K14 := Lib.hid (K1'.out.below hb4 (by omega)); have K24 := Lib.hid (K2'.out.below hb4 (by omega))
          have HB4 := Lib.hid (HB'.out.trans (hb4.mono (by omega)))
          clear ho4 hg4 hb4 c1 f1 HO' K1' K2' HB' HB K1 K2 HO w1
          go_wp2_with fail
          go_roundw
          case rel => exact ⟨HB4.out, 2, by omega, by go_num, by rw [HT.out, HY.out]; exact K14.out, K24.out, by rw [HE.out, HV.out]; exact HO4.out⟩
          case measure => simp [intOf]
        · have d1 : (b == k) = false := by simpa using hkx
          have HV := Lib.hid (show end1 k b 1 = [] by unfold end1; rw [if_neg (fun q => hkx q.2)])
          clear hkx hy1
          go_wp2_with fail
          go_roundw
          case rel => exact ⟨HB'.out, 2, by omega, by go_num, by rw [HT.out, HY.out]; exact K1'.out, K2'.out, by rw [HE.out, HV.out, List.append_nil]; exact HO'.out⟩
          case measure => simp [intOf]
      · have d0 : b ≤ 0 := by omega
        have HY := Lib.hid (show less k b = b by unfold less; rw [if_neg h0])
        have HV := Lib.hid (show end1 k b 1 = [] by unfold end1; rw [if_neg (fun q => h0 q.1)])
        go_wp2_with fail
        go_roundw
        case rel => exact ⟨HB.out, 2, by omega, by go_num, by rw [HT.out, HY.out]; exact K1.out, K2.out, by rw [HE.out, HV.out, List.append_nil]; exact HO.out⟩
        case measure => simp [intOf]
    · have ix := fun w => index3_2 (.int .i64 a) (.int .i64 b) (.int .i64 c) w
      obtain ⟨z, hzz⟩ : ∃ z, z = endN k ⟨a, b, c⟩ 2 := ⟨_, rfl⟩
      have HZL := Lib.hid (show z.length ≤ 2 by rw [hzz]; exact endN_len _ _ _)
      obtain ⟨x, hx⟩ : ∃ n, n = less k a := ⟨_, rfl⟩
      obtain ⟨y, hy⟩ : ∃ n, n = less k b := ⟨_, rfl⟩
      have HT := Lib.hid (show triL (passN k ⟨a, b, c⟩ 3) = [.int .i64 x, .int .i64 y, .int .i64 (less k c)] by subst hx hy; rfl)
      have HE := Lib.hid (show endN k ⟨a, b, c⟩ 3 = z ++ end1 k c 2 by rw [hzz]; rfl)
      replace k1 : Blk wr w.heap.size 24 [.int .i64 x, .int .i64 y, .int .i64 c] := by subst hx hy; exact k1
      rw [← hzz] at hown
      have c1 := cells3 k1; have f1 := free3 k1
      have HB := Lib.hid hbr; have K1 := Lib.hid k1; have K2 := Lib.hid k2; have HO := Lib.hid hown
      clear hbr k1 k2 hown hzz hx hy
      by_cases h0 : 0 < c
      · have d0 : ¬ c ≤ 0 := by omega
        obtain ⟨y1, hy1⟩ : ∃ n, n = c - k := ⟨_, rfl⟩
        have w1 : IntKind.i64.wrap (c - k) = y1 := by rw [hy1]; exact HWc.out h0
        have HY := Lib.hid (show less k c = y1 by unfold less; rw [if_pos h0, hy1])
        have K1' := Lib.hid (show Blk (wr.setCell ⟨w.heap.size, 2, none⟩ (.int .i64 y1)) w.heap.size 24 [.int .i64 x, .int .i64 y, .int .i64 y1] from K1.out.set 2 (.int .i64 y1))
        have K2' := Lib.hid (K2.out.other (i := 2) (u := .int .i64 y1) (Nat.succ_ne_self w.heap.size))
        have HO' := Lib.hid (HO.out.setBelow (g := w.heap.size) (i := 2) (by omega) (.int .i64 y1))
        have HB' := Lib.hid (HB.out.setCell (p := ⟨w.heap.size, 2, none⟩) (Nat.le_refl _) (.int .i64 y1))
        by_cases hkx : c = k
        · have d1 : (c == k) = true := by simpa using hkx
          have HV := Lib.hid (show end1 k c 2 = [(2 : Int)] by unfold end1; rw [if_pos ⟨h0, hkx⟩]; rfl)
          have HSZ := Lib.hid (show w.heap.size + 2 ≤ (wr.setCell ⟨w.heap.size, 2, none⟩ (.int .i64 y1)).heap.size from K2'.out.lt)
          clear hkx hy1
          go_wp2_with (at_builtin; refine wpList_appI _ (wr.setCell ⟨w.heap.size, 2, none⟩ (.int .i64 y1)) (2 : Int) rfl rfl (.tmp 26) (.tmp 28) rfl (w.heap.size + 2) _ z rfl HO'.out HSZ.out (by change Value.slice (some ⟨wr.heap.size, 0, none⟩) 1 1 = _; simp) (by have := HZL.out; omega) ?_)
          intro v4 w4 ho4 hg4 hb4 _
          have HO4 := Lib.hid ho4
          have K14 := Lib.hid (K1'.out.below hb4 (by omega)); have K24 := Lib.hid (K2'.out.below hb4 (by omega))
          have HB4 := Lib.hid (HB'.out.trans (hb4.mono (by omega)))
          clear ho4 hg4 hb4 c1 f1 HO' K1' K2' HB' HB K1 K2 HO w1
          go_wp2_with fail
          go_roundw
          case rel => exact ⟨HB4.out, 3, by omega, by go_num, by rw [HT.out, HY.out]; exact K14.out, K24.out, by rw [HE.out, HV.out]; exact HO4.out⟩
          case measure => simp [intOf]
        · have d1 : (c == k) = false := by simpa using hkx
          have HV := Lib.hid (show end1 k c 2 = [] by unfold end1; rw [if_neg (fun q => hkx q.2)])
          clear hkx hy1
          go_wp2_with fail
          go_roundw
          case rel => exact ⟨HB'.out, 3, by omega, by go_num, by rw [HT.out, HY.out]; exact K1'.out, K2'.out, by rw [HE.out, HV.out, List.append_nil]; exact HO'.out⟩
          case measure => simp [intOf]
      · have d0 : c ≤ 0 := by omega
        have HY := Lib.hid (show less k c = c by unfold less; rw [if_neg h0])
        have HV := Lib.hid (show end1 k c 2 = [] by unfold end1; rw [if_neg (fun q => h0 q.1)])
        go_wp2_with fail
        go_roundw
        case rel => exact ⟨HB.out, 3, by omega, by go_num, by rw [HT.out, HY.out]; exact K1.out, K2.out, by rw [HE.out, HV.out, List.append_nil]; exact HO.out⟩
        case measure => simp [intOf]
    · obtain ⟨⟨x, y, t⟩, hT⟩ : ∃ t, t = passN k ⟨a, b, c⟩ 3 := ⟨_, rfl⟩
      obtain ⟨z, hzz⟩ : ∃ z, z = endN k ⟨a, b, c⟩ 3 := ⟨_, rfl⟩
      rw [← hT] at k1
      rw [← hzz] at hown
      have HTT := Lib.hid hT; have HZZ := Lib.hid hzz
      replace k1 : Blk wr w.heap.size 24 [.int .i64 x, .int .i64 y, .int .i64 t] := k1
      obtain ⟨A1, c1, rfl, p1, p2⟩ := hown.form
      have HI := Lib.hid hown.at
      have e1 := cells3 k1; have f1 := free3 k1; have e2 := cells3 k2; have f2 := free3 k2
      have r2 := res3 (.int .i64 x) (.int .i64 y) (.int .i64 t) k2
      have HB := Lib.hid hbr
      have HO := Lib.hid (show OwnI (((wr.setCell ⟨w.heap.size + 1, 0, none⟩ (.int .i64 x)).setCell ⟨w.heap.size + 1, 1, none⟩ (.int .i64 y)).setCell ⟨w.heap.size + 1, 2, none⟩ (.int .i64 t)) _ _ z from ((hown.setBelow (g := w.heap.size + 1) (i := 0) (by omega) (.int .i64 x)).setBelow (g := w.heap.size + 1) (i := 1) (by omega) (.int .i64 y)).setBelow (g := w.heap.size + 1) (i := 2) (by omega) (.int .i64 t))
      clear hT hzz k1 k2 hown hbr p1 p2
      go_wp2_with fail
      refine bodyPost_ret (v := .tuple #[.agg #[.int .i64 x, .int .i64 y, .int .i64 t], .slice A1 z.length c1]) (by simp [results, Try.results18, go_sem, r2.1, r2.2.1, r2.2.2]) rfl ?_
      rw [← HTT.out, ← HZZ.out]
      exact ⟨A1, c1, rfl, HO.out.lower (by omega), below_set3' HB.out (Nat.le_succ _)⟩
end Go.Proofs.Yteihadheplcccaa

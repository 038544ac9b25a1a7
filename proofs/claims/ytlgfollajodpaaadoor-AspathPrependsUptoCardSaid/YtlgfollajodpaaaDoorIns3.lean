/-
  slices.Insert: one element ahead of a row of the call's own (written by gen03i.py).
-/
import Derived.Test.YtlgfollajodpaaaDoorCopyK
import Derived.Lib.AppendZerosOnto
import Derived.Lib.AppendZeros
import Derived.Lib.Overlaps
import Derived.Laws.Externs
import Derived.Laws.NewBlocks
import Derived.Deep.RegionLaw
import Derived.WalkLawsBesides
namespace Go.Proofs.YtlgfollajodpaaaDoor
set_option linter.unusedVariables false
set_option linter.unusedSimpArgs false
open Go.RowKit

/-- What a call leaves that lays one element ahead of a row. -/
def InsPost (e : TypeId) (size : Nat) (w : World) (B : Nat) (v : Value) (n : Nat) (cs xs : List Value) (en : Ending) (w' : World) : Prop :=
  ∃ A c, en = .returned (.slice A (n + 1) c) ∧ w'.ownsRow B e size (.slice A (n + 1) c) (n + 1) (cs ++ xs) ∧ w.grownBy w' v.ownBlock ∧ n + 1 ≤ c ∧ c ≤ maxLen
theorem splice_two {size : Nat} (cur cs xs : List Value) (hc : cs.length = size) (hl : size + xs.length ≤ cur.length) : (splice (splice cur size xs) 0 cs).take (size + xs.length) = cs ++ xs := by
  have e : splice (splice cur size xs) 0 cs = (cs ++ xs) ++ cur.drop (size + xs.length) := by
    unfold splice
    simp only [List.take_zero, List.nil_append, Nat.zero_add, hc]
    rw [List.drop_append, List.drop_eq_nil_of_le (by simp; omega)]
    have e2 : size - (cur.take size).length = 0 := by simp; omega
    rw [e2]
    simp
  rw [e, List.take_append_of_le_length (by simp; omega), List.take_of_length_le (by simp; omega)]
theorem splice_two' {size : Nat} (cur cs xs : List Value) (hc : cs.length = size) (hl : size + xs.length ≤ cur.length) : (splice (splice cur 0 cs) size xs).take (size + xs.length) = cs ++ xs := by
  have e : splice (splice cur 0 cs) size xs = (cs ++ xs) ++ cur.drop (size + xs.length) := by
    unfold splice
    simp only [List.take_zero, List.nil_append, Nat.zero_add, hc]
    rw [List.take_append_of_le_length (by omega), List.take_of_length_le (by omega), List.drop_append, List.drop_eq_nil_of_le (by omega), hc]
    have e2 : size + xs.length - size = xs.length := by omega
    rw [e2, List.drop_drop]
    simp
  rw [e, List.take_append_of_le_length (by simp; omega), List.take_of_length_le (by simp; omega)]
theorem splice_len {cur cs : List Value} {off : Nat} (h : off + cs.length ≤ cur.length) : (splice cur off cs).length = cur.length := length_splice cur off cs h

theorem ins_info32 : (Tryd.prog.info? 23).map (·.size) = some 1 := by kernel_rfl
theorem ins_over32 {w : World} {g vb o lb cb : Nat} {cur cs : List Value} (hg : w.heap[g]? = some (.cells cur.toArray 23 (0, 0))) (hv : w.heap[vb]? = some (.cells cs.toArray 23 (0, 0))) (hne : vb ≠ g) (hcur : cur.length ≠ 0) :
    (callFunc 35 #[.slice (some ⟨vb, 0, none⟩) 1 1, .slice (some ⟨g, o, none⟩) lb cb]).run Tryd.prog w = .ok (.value (.bool false)) w := by
  rw [run_callFunc_extern Tryd.func35 (by kernel_rfl) (by kernel_rfl) (by kernel_rfl) (e := Extern.SlicesOverlaps.overlaps #[37, 37] #[4]) (by kernel_rfl),
    Lib.run_overlaps_apart w 37 4 23 Tryd.underlying37 1 (fun _ => by kernel_rfl) ⟨vb, 0, none⟩ ⟨g, o, none⟩ 1 1 lb cb hne 23 23 cs.length cur.length (by simp [World.shape?, hv]) (by simp [World.shape?, hg]) hcur (by simp [World.frozen?, hv]) (by simp [World.frozen?, hv])]
  rfl

set_option maxHeartbeats 6400000 in
/-- There is room: the row's own block. -/
theorem Ins32_shift (B g n c vb : Nat) (cur cs xs : List Value) (w : World) (hB : B ≤ g) (hg : w.heap[g]? = some (.cells cur.toArray 23 (0, 0))) (hcl : cur.length = c * 1) (hx : cur.take (n * 1) = xs) (hn : 0 < n) (hnc : n + 1 ≤ c) (hcm : c ≤ maxLen)
    (h1 : ∀ u ∈ xs, u.oneCell' = true) (hv : w.heap[vb]? = some (.cells cs.toArray 23 (0, 0))) (hcs : cs.length = 1) (h2 : ∀ u ∈ cs, u.oneCell' = true) (hne : vb ≠ g) (hnm : n ≤ 1000000) :
    Calls Tryd.prog 21 #[.slice (some ⟨g, 0, none⟩) n c, .int .i64 0, .slice (some ⟨vb, 0, none⟩) 1 1] w (InsPost 23 1 w B (.slice (some ⟨g, 0, none⟩) n c) n cs xs) := by
  have hxl : xs.length = n * 1 := by rw [← hx, List.length_take, hcl]; exact Nat.min_eq_left (Nat.mul_le_mul_right _ (by omega))
  have HG := Lib.hid hg; have HV := Lib.hid hv; have HX := Lib.hid hx; have HXL := Lib.hid hxl; have HCL := Lib.hid hcl; have HCS := Lib.hid hcs; have HNE := Lib.hid hne
  have hov := fun lb cb => ins_over32 (o := 1) (lb := lb) (cb := cb) hg hv hne (by rw [hcl]; exact Nat.pos_iff_ne_zero.1 (Nat.mul_pos (by omega) (by decide)))
  have hz2 : ((0 : Int) == (n : Int)) = false := by simp; omega
  have hz3 : ¬ (c : Int) < (n : Int) + 1 := by omega
  have hw1 : IntKind.i64.wrap ((n : Int) + 1) = (n : Int) + 1 := by rw [IntKind.wrap_i64]; omega
  have hcI : (c : Int) ≤ 9223372036854775807 := by unfold maxLen at hcm; omega
  have hw2 : IntKind.i64.wrap 1 = 1 := by decide
  have hc1 : ¬ c = 1 := by omega
  have hc0 : ¬ c = 0 := by omega
  have hb1 : (1 : Int) ≤ (n : Int) + 1 := by omega
  have hb0 : (0 : Int) ≤ (n : Int) + 1 := by omega
  clear hg hv hx hxl hcl hcs hne
  go_enter Tryd.func21, Tryd.ntmps21
  have hsrc : ∀ j v, xs[j]? = some v → w.drew.cell? ((⟨g, 0, none⟩ : Addr).add j) = some v := fun j v hj => by
    rw [Addr.add_lit, Nat.zero_add, show w.drew.cell? ⟨g, j, none⟩ = w.cell? ⟨g, j, none⟩ from rfl, (show Blk w g 23 cur from HG.out).cell j]
    rw [← HX.out, List.getElem?_take] at hj
    split at hj
    · exact hj
    · cases hj
  have HSRC := Lib.hid hsrc
  have hfit : 1 + xs.length ≤ cur.length := by
    rw [HXL.out, HCL.out]
    have : (n + 1) * 1 ≤ c * 1 := Nat.mul_le_mul_right _ hnc
    omega
  have HFIT := Lib.hid hfit
  clear hsrc hfit
  go_wp2_with (simp only [hov])
  go_region_law (go_loud (refine step_copyK rfl (.tmp 73) (.tmp 76) 37 37 rfl 23 1 Tryd.underlying37 ins_info32 g 1 (n + 1 - 1) (c - 1) ⟨g, 0, none⟩ (n + 1) c (by simp [Act.eval, Act.put]) (by simp [Act.eval, Act.put]) cur 23 HG.out xs (by rw [HXL.out]; simp) HSRC.out HFIT.out h1 ?_; intro w1 hg1 hr1))
  all_goals (
    have hv1 := (hr1.out.block vb (Array.getElem?_eq_some_iff.1 HV.out).1 (by intro e; exact HNE.out (Option.some.inj e))).trans HV.out
    have hfit2 : 0 + cs.length ≤ (splice cur 1 xs).length := by rw [splice_len HFIT.out, HCS.out]; have := HFIT.out; omega
    have hsrc2 : ∀ j v, cs[j]? = some v → w1.cell? ((⟨vb, 0, none⟩ : Addr).add j) = some v := fun j v hj => by
      rw [Addr.add_lit, Nat.zero_add, (show Blk w1 vb 23 cs from hv1).cell j]; exact hj
    have HF2 := Lib.hid hfit2; have HS2 := Lib.hid hsrc2
    clear hfit2 hsrc2 hv1 hov
    go_wp2_with (refine wpList_copyK rfl (.tmp 80) (.tmp 81) 37 37 rfl 23 1 Tryd.underlying37 ins_info32 g 0 (n + 1) c ⟨vb, 0, none⟩ 1 1 rfl rfl (splice cur 1 xs) 23 hg1.out cs (by rw [HCS.out]; simp) HS2.out HF2.out h2 ?_)
    intro w2 hg2 hr2
    go_wp2_with fail
    go_ret
    refine ⟨_, c, rfl, ⟨by simp [HCS.out, HXL.out]; omega, .inr ⟨g, c, _, rfl, hB, hg2.out, hnc, hcm, ?_, ?_⟩⟩, ?_, hnc, hcm⟩
    · have e1 := splice_len HF2.out
      have e2 := splice_len HFIT.out
      simp only [List.size_toArray]
      rw [e1, e2, HCL.out]
    · have e3 : (n + 1) * 1 = 1 + xs.length := by rw [HXL.out, Nat.add_mul]; omega
      rw [e3]
      exact splice_two cur cs xs HCS.out HFIT.out
    · exact grown_trans (g := g) (show w.grownBy w1 (some g) from ⟨hr1.out.os, hr1.out.tape, hr1.out.output, hr1.out.size, hr1.out.block⟩) hr2.out)

theorem ins_parts32 : ∃ i0, Tryd.prog.info? 23 = some i0 ∧ i0.zero = some (.int .u32 0) ∧ i0.size = 1 ∧ i0.bytes = 4 := by
  have h := isU32.info
  cases hi : Tryd.prog.info? 23 with
  | none => rw [hi] at h; cases h
  | some i0 =>
    rw [hi] at h
    simp only [Option.map_some, Option.some.injEq, Prod.mk.injEq] at h
    exact ⟨i0, rfl, h.1, h.2.1, h.2.2⟩

set_option maxHeartbeats 6400000 in
/-- There is no room: a new block. -/
theorem Ins32_grow (B g n c vb : Nat) (cur cs xs : List Value) (w : World) (hB : B ≤ w.heap.size) (hg : w.heap[g]? = some (.cells cur.toArray 23 (0, 0))) (hcl : cur.length = c * 1) (hx : cur.take (n * 1) = xs) (hn : 0 < n) (hnl : n ≤ c) (hnc : c < n + 1)
    (h1 : ∀ u ∈ xs, u.oneCell' = true) (hv : w.heap[vb]? = some (.cells cs.toArray 23 (0, 0))) (hcs : cs.length = 1) (h2 : ∀ u ∈ cs, u.oneCell' = true) (hne : vb ≠ g) (hnm : n ≤ 1000000) :
    Calls Tryd.prog 21 #[.slice (some ⟨g, 0, none⟩) n c, .int .i64 0, .slice (some ⟨vb, 0, none⟩) 1 1] w (InsPost 23 1 w B (.slice (some ⟨g, 0, none⟩) n c) n cs xs) := by
  have hxl : xs.length = n * 1 := by rw [← hx, List.length_take, hcl]; exact Nat.min_eq_left (Nat.mul_le_mul_right _ hnl)
  have hgl : g < w.heap.size := (Array.getElem?_eq_some_iff.1 hg).1
  have hvl : vb < w.heap.size := (Array.getElem?_eq_some_iff.1 hv).1
  have HX := Lib.hid hx; have HXL := Lib.hid hxl; have HCL := Lib.hid hcl; have HCS := Lib.hid hcs; have HNE := Lib.hid hne
  obtain ⟨i0, hi0, hz0, hzs, hzb⟩ := ins_parts32
  have hold : (Builtin.firstCells i0.size 0 (.slice (some ⟨g, 0, none⟩) 0 c)).run Tryd.prog w.drew = .ok ([] : List Value).toArray w.drew := by
    rw [hzs]
    exact run_firstCells_some w.drew 1 0 ⟨g, 0, none⟩ 0 c [] (by simp) (fun j v hj => by simp at hj)
  obtain ⟨G, hG⟩ : ∃ G, G = grownCap w (n + 1) c 23 := ⟨_, rfl⟩
  have hG1 : n + 1 ≤ G := by rw [hG]; exact grownCap_ge w _ _ _
  have hG2 : G ≤ maxLen := by rw [hG]; exact grownCap_le_maxLen w _ _ _ (by unfold maxLen; omega)
  obtain ⟨ROW, hROW⟩ : ∃ ROW : List Value, ROW.toArray = (([] : List Value).toArray ++ Builtin.zeroCells (Value.cells (.int .u32 0)) (n + 1) ++ Builtin.zeroCells (Value.cells (.int .u32 0)) (G - (n + 1))) := ⟨_, Array.toArray_toList⟩
  have hRL : ROW.length = G * 1 := by
    have e := congrArg Array.size hROW
    simp only [List.size_toArray, Array.size_append, size_zeroCells, List.length_nil] at e
    have e2 : (Value.cells (.int .u32 0)).size = 1 := rfl
    rw [e2] at e
    rw [e]
    have e3 : G * 1 = (n + 1) * 1 + (G - (n + 1)) * 1 := by rw [← Nat.add_mul]; congr 1; omega
    omega
  obtain ⟨W1, hW1⟩ : ∃ W1, W1 = w.drew.alloc (.cells ROW.toArray 23) := ⟨_, rfl⟩
  have hrz : ∀ ty, (Builtin.append_ #[37, 3] ty #[.slice (some ⟨g, 0, none⟩) 0 c, .int .i64 ((n : Int) + 1)]).run Tryd.prog w = .ok (.slice (some ⟨w.heap.size, 0, none⟩) (n + 1) G) W1 := fun ty => by
    have h := Lib.run_append_grow_zeros w 37 3 ty 23 i0 _ .i64 .i64 Tryd.underlying37 Tryd.underlying3 hi0 hz0 (some ⟨g, 0, none⟩) 0 c [] hold (n + 1) (by omega) (by rw [hzs]; decide) (by omega) (by omega) (by rw [hzb]; omega) (by rw [hzb]; exact growslice_fits (by omega) (by omega))
    rw [Nat.zero_add, ← hG, ← hROW, ← hW1] at h
    rw [show ((n : Int) + 1) = ((n + 1 : Nat) : Int) by omega]
    exact h
  have hN : W1.heap[w.heap.size]? = some (.cells ROW.toArray 23 (0, 0)) := by rw [hW1]; exact heap_alloc_new w.drew _
  have hW1o : ∀ k, k < w.heap.size → W1.heap[k]? = w.heap[k]? := fun k hk => by
    rw [hW1]
    exact ((Below.refl w.heap.size w.drew).alloc (Nat.le_refl _) (.cells ROW.toArray 23)).block k hk
  have hgw : w.grownBy W1 (some g) := by
    refine ⟨by rw [hW1]; rfl, by rw [hW1]; rfl, by rw [hW1]; rfl, by rw [hW1]; simp, fun k hk _ => hW1o k hk⟩
  have HN := Lib.hid hN
  have HV := Lib.hid ((hW1o vb hvl).trans hv)
  have HGG := Lib.hid ((hW1o g hgl).trans hg)
  have HGW := Lib.hid hgw
  have HR := Lib.hid hRL
  have HS1 := Lib.hid (show ∀ j v, cs[j]? = some v → W1.cell? ((⟨vb, 0, none⟩ : Addr).add j) = some v from fun j v hj => by
    rw [Addr.add_lit, Nat.zero_add, (show Blk W1 vb 23 cs from HV.out).cell j]; exact hj)
  have HF1 := Lib.hid (show 0 + cs.length ≤ ROW.length by rw [hRL, hcs]; have : (n + 1) * 1 ≤ G * 1 := Nat.mul_le_mul_right _ hG1; omega)
  have HF2 := Lib.hid (show 1 + xs.length ≤ ROW.length by rw [hRL, hxl]; have : (n + 1) * 1 ≤ G * 1 := Nat.mul_le_mul_right _ hG1; omega)
  have hz2 : ((0 : Int) == (n : Int)) = false := by simp; omega
  have hz3 : (c : Int) < (n : Int) + 1 := by omega
  have hw1 : IntKind.i64.wrap ((n : Int) + 1) = (n : Int) + 1 := by rw [IntKind.wrap_i64]; omega
  have hcI : (c : Int) ≤ 9223372036854775807 := by omega
  have hw2 : IntKind.i64.wrap 1 = 1 := by decide
  have hc1 : ¬ G = 1 := by omega
  have hc0 : ¬ G = 0 := by omega
  have hcz : ¬ c = 0 := by omega
  have hb1 : (1 : Int) ≤ (n : Int) + 1 := by omega
  have hb0 : (0 : Int) ≤ (n : Int) + 1 := by omega
  have hwN : ¬ g = w.heap.size := by omega
  have HVN := Lib.hid (show vb ≠ w.heap.size by omega)
  have HGN := Lib.hid (show g ≠ w.heap.size by omega)
  have HG1 := Lib.hid hG1; have HG2 := Lib.hid hG2
  clear hG hROW hW1 hN hW1o hgw hx hxl hcl hcs hne hg hv hi0 hz0 hzs hzb hold hRL hgl hvl
  go_enter Tryd.func21, Tryd.ntmps21
  go_wp2_with (first
    | (at_builtin; refine Lib.wpList_append_run _ rfl _ _ _ _ rfl _ _ rfl rfl _ _ (hrz _) ?_)
    | (refine wpList_copyK rfl (.tmp 43) (.tmp 44) 37 37 rfl 23 1 Tryd.underlying37 ins_info32 w.heap.size 0 (n + 1) G ⟨vb, 0, none⟩ 1 1 rfl rfl ROW 23 HN.out cs (by rw [HCS.out]; simp) HS1.out HF1.out h2 ?_))
  intro w2 hg2 hr2
  have HS3 := Lib.hid (show ∀ j v, xs[j]? = some v → w2.drew.cell? ((⟨g, 0, none⟩ : Addr).add j) = some v from fun j v hj => by
    have hb := (hr2.out.block g (Array.getElem?_eq_some_iff.1 HGG.out).1 (by intro e; exact HGN.out (Option.some.inj e))).trans HGG.out
    rw [Addr.add_lit, Nat.zero_add, show w2.drew.cell? ⟨g, j, none⟩ = w2.cell? ⟨g, j, none⟩ from rfl, (show Blk w2 g 23 cur from hb).cell j]
    rw [← HX.out, List.getElem?_take] at hj
    split at hj
    · exact hj
    · cases hj)
  have HF3 := Lib.hid (show 1 + xs.length ≤ (splice ROW 0 cs).length by rw [splice_len HF1.out]; exact HF2.out)
  go_wp2_with fail
  go_region_law (go_loud (refine step_copyK rfl (.tmp 50) (.tmp 53) 37 37 rfl 23 1 Tryd.underlying37 ins_info32 w.heap.size 1 (n + 1 - 1) (G - 1) ⟨g, 0, none⟩ n c (by simp [Act.eval, Act.put]) (by simp [Act.eval, Act.put]) (splice ROW 0 cs) 23 hg2.out xs (by rw [HXL.out]; simp) HS3.out HF3.out h1 ?_; intro w3 hg3 hr3))
  all_goals (
    go_wp2_with fail
    go_ret
    refine ⟨_, G, rfl, ⟨by simp [HCS.out, HXL.out]; omega, .inr ⟨w.heap.size, G, _, rfl, hB, hg3.out, HG1.out, HG2.out, ?_, ?_⟩⟩, ?_, HG1.out, HG2.out⟩
    · have e1 := splice_len HF3.out
      have e2 := splice_len HF1.out
      simp only [List.size_toArray]
      rw [e1, e2, HR.out]
    · have e3 : (n + 1) * 1 = 1 + xs.length := by rw [HXL.out, Nat.add_mul]; omega
      rw [e3]
      exact splice_two' ROW cs xs HCS.out HF2.out
    · have k2 : w.grownBy w2 (some g) := ⟨hr2.out.os.trans HGW.out.os, hr2.out.tape.trans HGW.out.tape, hr2.out.output.trans HGW.out.output, Nat.le_trans HGW.out.size hr2.out.size, fun k hk hne => (hr2.out.block k (Nat.lt_of_lt_of_le hk HGW.out.size) (by intro e; have := Option.some.inj e; omega)).trans (HGW.out.block k hk hne)⟩
      exact ⟨hr3.out.os.trans k2.os, hr3.out.tape.trans k2.tape, hr3.out.output.trans k2.output, Nat.le_trans k2.size hr3.out.size, fun k hk hne => (hr3.out.block k (Nat.lt_of_lt_of_le hk k2.size) (by intro e; have := Option.some.inj e; omega)).trans (k2.block k hk hne)⟩)

set_option maxHeartbeats 6400000 in
/-- The row is empty. -/
theorem Ins32_end (B c vb : Nat) (A : Option Addr) (cs : List Value) (w : World) (hB : B ≤ w.heap.size) (ho : w.ownsRow B 23 1 (.slice A 0 c) 0 [])
    (hv : w.heap[vb]? = some (.cells cs.toArray 23 (0, 0))) (hcs : cs.length = 1) (h2 : ∀ u ∈ cs, u.oneCell' = true) :
    Calls Tryd.prog 21 #[.slice A 0 c, .int .i64 0, .slice (some ⟨vb, 0, none⟩) 1 1] w (InsPost 23 1 w B (.slice A 0 c) 0 cs []) := by
  obtain ⟨w0, hw0⟩ : ∃ w0 : World, w0.heap.size = B ∧ Below B w0 w := ⟨{ w with heap := w.heap.extract 0 B }, by simp [hB], ⟨rfl, rfl, rfl, by simp; omega, fun k hk => by simp [Array.getElem?_extract]; omega⟩⟩
  obtain ⟨hw1, hw2⟩ := hw0
  subst hw1
  have HO := Lib.hid ho; have HB := Lib.hid hw2
  have HS := Lib.hid (show (1 : Nat) ≠ 0 → ∃ ad, (some ⟨vb, 0, none⟩ : Option Addr) = some ad ∧ ∀ j u, cs[j]? = some u → w.cell? (ad.add j) = some u from fun _ => ⟨_, rfl, fun j u hj => by
    rw [Addr.add_lit, Nat.zero_add, (show Blk w vb 23 cs from hv).cell j]; exact hj⟩)
  have HCS := Lib.hid hcs
  clear ho hw2 hv hcs
  go_enter Tryd.func21, Tryd.ntmps21
  go_wp2_with (at_builtin; refine wpList_app isU32 rfl (.tmp 23) (.tmp 24) rfl w0 _ 0 [] rfl HO.out (some ⟨vb, 0, none⟩) 1 1 cs rfl (by rw [HCS.out]) HS.out h2 (by decide) HB.out ?_)
  intro v1 w1 hown1 hg1 hb1
  have H1 := Lib.hid hown1
  have HG1 := Lib.hid hg1
  obtain ⟨A1, c1, rfl, f1, f2⟩ : ∃ A1 c1, v1 = .slice A1 (0 + 1) c1 ∧ 0 + 1 ≤ c1 ∧ c1 ≤ maxLen := by
    rcases hown1.2 with ⟨_, hn⟩ | ⟨g, cap, cur, rfl, hbg, hg, hnc, hcm, _⟩
    · omega
    · exact ⟨_, cap, rfl, hnc, hcm⟩
  clear hown1 hg1 hb1
  go_wp2_with fail
  go_ret
  exact ⟨A1, c1, rfl, by simpa using H1.out, HG1.out, f1, f2⟩

/-- One element ahead of a row of the call's own. -/
theorem Ins32_any (B n c vb : Nat) (A : Option Addr) (cs xs : List Value) (w : World) (hB : B ≤ w.heap.size) (ho : w.ownsRow B 23 1 (.slice A n c) n xs) (h1 : ∀ u ∈ xs, u.oneCell' = true)
    (hv : w.heap[vb]? = some (.cells cs.toArray 23 (0, 0))) (hcs : cs.length = 1) (h2 : ∀ u ∈ cs, u.oneCell' = true) (hne : (Value.slice A n c).ownBlock ≠ some vb) (hnm : n ≤ 1000000) :
    Calls Tryd.prog 21 #[.slice A n c, .int .i64 0, .slice (some ⟨vb, 0, none⟩) 1 1] w (InsPost 23 1 w B (.slice A n c) n cs xs) := by
  by_cases hn : n = 0
  · subst hn
    obtain rfl : xs = [] := List.eq_nil_of_length_eq_zero (by have := ho.1; omega)
    exact Ins32_end B c vb A cs w hB ho hv hcs h2
  · rcases ho.2 with ⟨_, h0⟩ | ⟨g, cap, cur, hve, hbg, hg, hnc, hcm, hsz, htk⟩
    · exact absurd h0 hn
    · injection hve with e1 e2 e3
      subst e1 e3
      have hne2 : vb ≠ g := fun e => hne (by rw [e]; rfl)
      have hg2 : w.heap[g]? = some (.cells cur.toList.toArray 23 (0, 0)) := by simpa using hg
      by_cases hr : n + 1 ≤ c
      · exact Ins32_shift B g n c vb cur.toList cs xs w hbg hg2 (by simpa using hsz) htk (by omega) hr hcm h1 hv hcs h2 hne2 hnm
      · exact Ins32_grow B g n c vb cur.toList cs xs w hB hg2 (by simpa using hsz) htk (by omega) hnc (by omega) h1 hv hcs h2 hne2 hnm

theorem ins_infoS : (Tryd.prog.info? 39).map (·.size) = some 2 := by kernel_rfl
theorem ins_overS {w : World} {g vb o lb cb : Nat} {cur cs : List Value} (hg : w.heap[g]? = some (.cells cur.toArray 39 (0, 0))) (hv : w.heap[vb]? = some (.cells cs.toArray 39 (0, 0))) (hne : vb ≠ g) (hcur : cur.length ≠ 0) :
    (callFunc 37 #[.slice (some ⟨vb, 0, none⟩) 1 1, .slice (some ⟨g, o, none⟩) lb cb]).run Tryd.prog w = .ok (.value (.bool false)) w := by
  rw [run_callFunc_extern Tryd.func37 (by kernel_rfl) (by kernel_rfl) (by kernel_rfl) (e := Extern.SlicesOverlaps.overlaps #[22, 22] #[4]) (by kernel_rfl),
    Lib.run_overlaps_apart w 22 4 39 Tryd.underlying22 2 (fun _ => by kernel_rfl) ⟨vb, 0, none⟩ ⟨g, o, none⟩ 1 1 lb cb hne 39 39 cs.length cur.length (by simp [World.shape?, hv]) (by simp [World.shape?, hg]) hcur (by simp [World.frozen?, hv]) (by simp [World.frozen?, hv])]
  rfl

set_option maxHeartbeats 6400000 in
/-- There is room: the row's own block. -/
theorem InsS_shift (B g n c vb : Nat) (cur cs xs : List Value) (w : World) (hB : B ≤ g) (hg : w.heap[g]? = some (.cells cur.toArray 39 (0, 0))) (hcl : cur.length = c * 2) (hx : cur.take (n * 2) = xs) (hn : 0 < n) (hnc : n + 1 ≤ c) (hcm : c ≤ maxLen)
    (h1 : ∀ u ∈ xs, u.oneCell' = true) (hv : w.heap[vb]? = some (.cells cs.toArray 39 (0, 0))) (hcs : cs.length = 2) (h2 : ∀ u ∈ cs, u.oneCell' = true) (hne : vb ≠ g) (hnm : n ≤ 1000000) :
    Calls Tryd.prog 22 #[.slice (some ⟨g, 0, none⟩) n c, .int .i64 0, .slice (some ⟨vb, 0, none⟩) 1 1] w (InsPost 39 2 w B (.slice (some ⟨g, 0, none⟩) n c) n cs xs) := by
  have hxl : xs.length = n * 2 := by rw [← hx, List.length_take, hcl]; exact Nat.min_eq_left (Nat.mul_le_mul_right _ (by omega))
  have HG := Lib.hid hg; have HV := Lib.hid hv; have HX := Lib.hid hx; have HXL := Lib.hid hxl; have HCL := Lib.hid hcl; have HCS := Lib.hid hcs; have HNE := Lib.hid hne
  have hov := fun lb cb => ins_overS (o := 2) (lb := lb) (cb := cb) hg hv hne (by rw [hcl]; exact Nat.pos_iff_ne_zero.1 (Nat.mul_pos (by omega) (by decide)))
  have hz2 : ((0 : Int) == (n : Int)) = false := by simp; omega
  have hz3 : ¬ (c : Int) < (n : Int) + 1 := by omega
  have hw1 : IntKind.i64.wrap ((n : Int) + 1) = (n : Int) + 1 := by rw [IntKind.wrap_i64]; omega
  have hcI : (c : Int) ≤ 9223372036854775807 := by unfold maxLen at hcm; omega
  have hw2 : IntKind.i64.wrap 1 = 1 := by decide
  have hc1 : ¬ c = 1 := by omega
  have hc0 : ¬ c = 0 := by omega
  have hb1 : (1 : Int) ≤ (n : Int) + 1 := by omega
  have hb0 : (0 : Int) ≤ (n : Int) + 1 := by omega
  clear hg hv hx hxl hcl hcs hne
  go_enter Tryd.func22, Tryd.ntmps22
  have hsrc : ∀ j v, xs[j]? = some v → w.drew.cell? ((⟨g, 0, none⟩ : Addr).add j) = some v := fun j v hj => by
    rw [Addr.add_lit, Nat.zero_add, show w.drew.cell? ⟨g, j, none⟩ = w.cell? ⟨g, j, none⟩ from rfl, (show Blk w g 39 cur from HG.out).cell j]
    rw [← HX.out, List.getElem?_take] at hj
    split at hj
    · exact hj
    · cases hj
  have HSRC := Lib.hid hsrc
  have hfit : 2 + xs.length ≤ cur.length := by
    rw [HXL.out, HCL.out]
    have : (n + 1) * 2 ≤ c * 2 := Nat.mul_le_mul_right _ hnc
    omega
  have HFIT := Lib.hid hfit
  clear hsrc hfit
  go_wp2_with (simp only [hov])
  go_region_law (go_loud (refine step_copyK rfl (.tmp 73) (.tmp 76) 22 22 rfl 39 2 Tryd.underlying22 ins_infoS g 2 (n + 1 - 1) (c - 1) ⟨g, 0, none⟩ (n + 1) c (by simp [Act.eval, Act.put]) (by simp [Act.eval, Act.put]) cur 39 HG.out xs (by rw [HXL.out]; simp) HSRC.out HFIT.out h1 ?_; intro w1 hg1 hr1))
  all_goals (
    have hv1 := (hr1.out.block vb (Array.getElem?_eq_some_iff.1 HV.out).1 (by intro e; exact HNE.out (Option.some.inj e))).trans HV.out
    have hfit2 : 0 + cs.length ≤ (splice cur 2 xs).length := by rw [splice_len HFIT.out, HCS.out]; have := HFIT.out; omega
    have hsrc2 : ∀ j v, cs[j]? = some v → w1.cell? ((⟨vb, 0, none⟩ : Addr).add j) = some v := fun j v hj => by
      rw [Addr.add_lit, Nat.zero_add, (show Blk w1 vb 39 cs from hv1).cell j]; exact hj
    have HF2 := Lib.hid hfit2; have HS2 := Lib.hid hsrc2
    clear hfit2 hsrc2 hv1 hov
    go_wp2_with (refine wpList_copyK rfl (.tmp 80) (.tmp 81) 22 22 rfl 39 2 Tryd.underlying22 ins_infoS g 0 (n + 1) c ⟨vb, 0, none⟩ 1 1 rfl rfl (splice cur 2 xs) 39 hg1.out cs (by rw [HCS.out]; simp) HS2.out HF2.out h2 ?_)
    intro w2 hg2 hr2
    go_wp2_with fail
    go_ret
    refine ⟨_, c, rfl, ⟨by simp [HCS.out, HXL.out]; omega, .inr ⟨g, c, _, rfl, hB, hg2.out, hnc, hcm, ?_, ?_⟩⟩, ?_, hnc, hcm⟩
    · have e1 := splice_len HF2.out
      have e2 := splice_len HFIT.out
      simp only [List.size_toArray]
      rw [e1, e2, HCL.out]
    · have e3 : (n + 1) * 2 = 2 + xs.length := by rw [HXL.out, Nat.add_mul]; omega
      rw [e3]
      exact splice_two cur cs xs HCS.out HFIT.out
    · exact grown_trans (g := g) (show w.grownBy w1 (some g) from ⟨hr1.out.os, hr1.out.tape, hr1.out.output, hr1.out.size, hr1.out.block⟩) hr2.out)

theorem ins_partsS : ∃ i0, Tryd.prog.info? 39 = some i0 ∧ i0.zero = some (.agg #[.int .i64 0, .slice none 0 0]) ∧ i0.size = 2 ∧ i0.bytes = 32 := by
  have h := isSeg.info
  cases hi : Tryd.prog.info? 39 with
  | none => rw [hi] at h; cases h
  | some i0 =>
    rw [hi] at h
    simp only [Option.map_some, Option.some.injEq, Prod.mk.injEq] at h
    exact ⟨i0, rfl, h.1, h.2.1, h.2.2⟩

set_option maxHeartbeats 6400000 in
/-- There is no room: a new block. -/
theorem InsS_grow (B g n c vb : Nat) (cur cs xs : List Value) (w : World) (hB : B ≤ w.heap.size) (hg : w.heap[g]? = some (.cells cur.toArray 39 (0, 0))) (hcl : cur.length = c * 2) (hx : cur.take (n * 2) = xs) (hn : 0 < n) (hnl : n ≤ c) (hnc : c < n + 1)
    (h1 : ∀ u ∈ xs, u.oneCell' = true) (hv : w.heap[vb]? = some (.cells cs.toArray 39 (0, 0))) (hcs : cs.length = 2) (h2 : ∀ u ∈ cs, u.oneCell' = true) (hne : vb ≠ g) (hnm : n ≤ 1000000) :
    Calls Tryd.prog 22 #[.slice (some ⟨g, 0, none⟩) n c, .int .i64 0, .slice (some ⟨vb, 0, none⟩) 1 1] w (InsPost 39 2 w B (.slice (some ⟨g, 0, none⟩) n c) n cs xs) := by
  have hxl : xs.length = n * 2 := by rw [← hx, List.length_take, hcl]; exact Nat.min_eq_left (Nat.mul_le_mul_right _ hnl)
  have hgl : g < w.heap.size := (Array.getElem?_eq_some_iff.1 hg).1
  have hvl : vb < w.heap.size := (Array.getElem?_eq_some_iff.1 hv).1
  have HX := Lib.hid hx; have HXL := Lib.hid hxl; have HCL := Lib.hid hcl; have HCS := Lib.hid hcs; have HNE := Lib.hid hne
  obtain ⟨i0, hi0, hz0, hzs, hzb⟩ := ins_partsS
  have hold : (Builtin.firstCells i0.size 0 (.slice (some ⟨g, 0, none⟩) 0 c)).run Tryd.prog w.drew = .ok ([] : List Value).toArray w.drew := by
    rw [hzs]
    exact run_firstCells_some w.drew 2 0 ⟨g, 0, none⟩ 0 c [] (by simp) (fun j v hj => by simp at hj)
  obtain ⟨G, hG⟩ : ∃ G, G = grownCap w (n + 1) c 39 := ⟨_, rfl⟩
  have hG1 : n + 1 ≤ G := by rw [hG]; exact grownCap_ge w _ _ _
  have hG2 : G ≤ maxLen := by rw [hG]; exact grownCap_le_maxLen w _ _ _ (by unfold maxLen; omega)
  obtain ⟨ROW, hROW⟩ : ∃ ROW : List Value, ROW.toArray = (([] : List Value).toArray ++ Builtin.zeroCells (Value.cells (.agg #[.int .i64 0, .slice none 0 0])) (n + 1) ++ Builtin.zeroCells (Value.cells (.agg #[.int .i64 0, .slice none 0 0])) (G - (n + 1))) := ⟨_, Array.toArray_toList⟩
  have hRL : ROW.length = G * 2 := by
    have e := congrArg Array.size hROW
    simp only [List.size_toArray, Array.size_append, size_zeroCells, List.length_nil] at e
    have e2 : (Value.cells (.agg #[.int .i64 0, .slice none 0 0])).size = 2 := rfl
    rw [e2] at e
    rw [e]
    have e3 : G * 2 = (n + 1) * 2 + (G - (n + 1)) * 2 := by rw [← Nat.add_mul]; congr 1; omega
    omega
  obtain ⟨W1, hW1⟩ : ∃ W1, W1 = w.drew.alloc (.cells ROW.toArray 39) := ⟨_, rfl⟩
  have hrz : ∀ ty, (Builtin.append_ #[22, 3] ty #[.slice (some ⟨g, 0, none⟩) 0 c, .int .i64 ((n : Int) + 1)]).run Tryd.prog w = .ok (.slice (some ⟨w.heap.size, 0, none⟩) (n + 1) G) W1 := fun ty => by
    have h := Lib.run_append_grow_zeros w 22 3 ty 39 i0 _ .i64 .i64 Tryd.underlying22 Tryd.underlying3 hi0 hz0 (some ⟨g, 0, none⟩) 0 c [] hold (n + 1) (by omega) (by rw [hzs]; decide) (by omega) (by omega) (by rw [hzb]; omega) (by rw [hzb]; exact growslice_fits (by omega) (by omega))
    rw [Nat.zero_add, ← hG, ← hROW, ← hW1] at h
    rw [show ((n : Int) + 1) = ((n + 1 : Nat) : Int) by omega]
    exact h
  have hN : W1.heap[w.heap.size]? = some (.cells ROW.toArray 39 (0, 0)) := by rw [hW1]; exact heap_alloc_new w.drew _
  have hW1o : ∀ k, k < w.heap.size → W1.heap[k]? = w.heap[k]? := fun k hk => by
    rw [hW1]
    exact ((Below.refl w.heap.size w.drew).alloc (Nat.le_refl _) (.cells ROW.toArray 39)).block k hk
  have hgw : w.grownBy W1 (some g) := by
    refine ⟨by rw [hW1]; rfl, by rw [hW1]; rfl, by rw [hW1]; rfl, by rw [hW1]; simp, fun k hk _ => hW1o k hk⟩
  have HN := Lib.hid hN
  have HV := Lib.hid ((hW1o vb hvl).trans hv)
  have HGG := Lib.hid ((hW1o g hgl).trans hg)
  have HGW := Lib.hid hgw
  have HR := Lib.hid hRL
  have HS1 := Lib.hid (show ∀ j v, cs[j]? = some v → W1.cell? ((⟨vb, 0, none⟩ : Addr).add j) = some v from fun j v hj => by
    rw [Addr.add_lit, Nat.zero_add, (show Blk W1 vb 39 cs from HV.out).cell j]; exact hj)
  have HF1 := Lib.hid (show 0 + cs.length ≤ ROW.length by rw [hRL, hcs]; have : (n + 1) * 2 ≤ G * 2 := Nat.mul_le_mul_right _ hG1; omega)
  have HF2 := Lib.hid (show 2 + xs.length ≤ ROW.length by rw [hRL, hxl]; have : (n + 1) * 2 ≤ G * 2 := Nat.mul_le_mul_right _ hG1; omega)
  have hz2 : ((0 : Int) == (n : Int)) = false := by simp; omega
  have hz3 : (c : Int) < (n : Int) + 1 := by omega
  have hw1 : IntKind.i64.wrap ((n : Int) + 1) = (n : Int) + 1 := by rw [IntKind.wrap_i64]; omega
  have hcI : (c : Int) ≤ 9223372036854775807 := by omega
  have hw2 : IntKind.i64.wrap 1 = 1 := by decide
  have hc1 : ¬ G = 1 := by omega
  have hc0 : ¬ G = 0 := by omega
  have hcz : ¬ c = 0 := by omega
  have hb1 : (1 : Int) ≤ (n : Int) + 1 := by omega
  have hb0 : (0 : Int) ≤ (n : Int) + 1 := by omega
  have hwN : ¬ g = w.heap.size := by omega
  have HVN := Lib.hid (show vb ≠ w.heap.size by omega)
  have HGN := Lib.hid (show g ≠ w.heap.size by omega)
  have HG1 := Lib.hid hG1; have HG2 := Lib.hid hG2
  clear hG hROW hW1 hN hW1o hgw hx hxl hcl hcs hne hg hv hi0 hz0 hzs hzb hold hRL hgl hvl
  go_enter Tryd.func22, Tryd.ntmps22
  go_wp2_with (first
    | (at_builtin; refine Lib.wpList_append_run _ rfl _ _ _ _ rfl _ _ rfl rfl _ _ (hrz _) ?_)
    | (refine wpList_copyK rfl (.tmp 43) (.tmp 44) 22 22 rfl 39 2 Tryd.underlying22 ins_infoS w.heap.size 0 (n + 1) G ⟨vb, 0, none⟩ 1 1 rfl rfl ROW 39 HN.out cs (by rw [HCS.out]; simp) HS1.out HF1.out h2 ?_))
  intro w2 hg2 hr2
  have HS3 := Lib.hid (show ∀ j v, xs[j]? = some v → w2.drew.cell? ((⟨g, 0, none⟩ : Addr).add j) = some v from fun j v hj => by
    have hb := (hr2.out.block g (Array.getElem?_eq_some_iff.1 HGG.out).1 (by intro e; exact HGN.out (Option.some.inj e))).trans HGG.out
    rw [Addr.add_lit, Nat.zero_add, show w2.drew.cell? ⟨g, j, none⟩ = w2.cell? ⟨g, j, none⟩ from rfl, (show Blk w2 g 39 cur from hb).cell j]
    rw [← HX.out, List.getElem?_take] at hj
    split at hj
    · exact hj
    · cases hj)
  have HF3 := Lib.hid (show 2 + xs.length ≤ (splice ROW 0 cs).length by rw [splice_len HF1.out]; exact HF2.out)
  go_wp2_with fail
  go_region_law (go_loud (refine step_copyK rfl (.tmp 50) (.tmp 53) 22 22 rfl 39 2 Tryd.underlying22 ins_infoS w.heap.size 2 (n + 1 - 1) (G - 1) ⟨g, 0, none⟩ n c (by simp [Act.eval, Act.put]) (by simp [Act.eval, Act.put]) (splice ROW 0 cs) 39 hg2.out xs (by rw [HXL.out]; simp) HS3.out HF3.out h1 ?_; intro w3 hg3 hr3))
  all_goals (
    go_wp2_with fail
    go_ret
    refine ⟨_, G, rfl, ⟨by simp [HCS.out, HXL.out]; omega, .inr ⟨w.heap.size, G, _, rfl, hB, hg3.out, HG1.out, HG2.out, ?_, ?_⟩⟩, ?_, HG1.out, HG2.out⟩
    · have e1 := splice_len HF3.out
      have e2 := splice_len HF1.out
      simp only [List.size_toArray]
      rw [e1, e2, HR.out]
    · have e3 : (n + 1) * 2 = 2 + xs.length := by rw [HXL.out, Nat.add_mul]; omega
      rw [e3]
      exact splice_two' ROW cs xs HCS.out HF2.out
    · have k2 : w.grownBy w2 (some g) := ⟨hr2.out.os.trans HGW.out.os, hr2.out.tape.trans HGW.out.tape, hr2.out.output.trans HGW.out.output, Nat.le_trans HGW.out.size hr2.out.size, fun k hk hne => (hr2.out.block k (Nat.lt_of_lt_of_le hk HGW.out.size) (by intro e; have := Option.some.inj e; omega)).trans (HGW.out.block k hk hne)⟩
      exact ⟨hr3.out.os.trans k2.os, hr3.out.tape.trans k2.tape, hr3.out.output.trans k2.output, Nat.le_trans k2.size hr3.out.size, fun k hk hne => (hr3.out.block k (Nat.lt_of_lt_of_le hk k2.size) (by intro e; have := Option.some.inj e; omega)).trans (k2.block k hk hne)⟩)

set_option maxHeartbeats 6400000 in
/-- The row is empty. -/
theorem InsS_end (B c vb : Nat) (A : Option Addr) (cs : List Value) (w : World) (hB : B ≤ w.heap.size) (ho : w.ownsRow B 39 2 (.slice A 0 c) 0 [])
    (hv : w.heap[vb]? = some (.cells cs.toArray 39 (0, 0))) (hcs : cs.length = 2) (h2 : ∀ u ∈ cs, u.oneCell' = true) :
    Calls Tryd.prog 22 #[.slice A 0 c, .int .i64 0, .slice (some ⟨vb, 0, none⟩) 1 1] w (InsPost 39 2 w B (.slice A 0 c) 0 cs []) := by
  obtain ⟨w0, hw0⟩ : ∃ w0 : World, w0.heap.size = B ∧ Below B w0 w := ⟨{ w with heap := w.heap.extract 0 B }, by simp [hB], ⟨rfl, rfl, rfl, by simp; omega, fun k hk => by simp [Array.getElem?_extract]; omega⟩⟩
  obtain ⟨hw1, hw2⟩ := hw0
  subst hw1
  have HO := Lib.hid ho; have HB := Lib.hid hw2
  have HS := Lib.hid (show (1 : Nat) ≠ 0 → ∃ ad, (some ⟨vb, 0, none⟩ : Option Addr) = some ad ∧ ∀ j u, cs[j]? = some u → w.cell? (ad.add j) = some u from fun _ => ⟨_, rfl, fun j u hj => by
    rw [Addr.add_lit, Nat.zero_add, (show Blk w vb 39 cs from hv).cell j]; exact hj⟩)
  have HCS := Lib.hid hcs
  clear ho hw2 hv hcs
  go_enter Tryd.func22, Tryd.ntmps22
  go_wp2_with (at_builtin; refine wpList_app isSeg rfl (.tmp 23) (.tmp 24) rfl w0 _ 0 [] rfl HO.out (some ⟨vb, 0, none⟩) 1 1 cs rfl (by rw [HCS.out]) HS.out h2 (by decide) HB.out ?_)
  intro v1 w1 hown1 hg1 hb1
  have H1 := Lib.hid hown1
  have HG1 := Lib.hid hg1
  obtain ⟨A1, c1, rfl, f1, f2⟩ : ∃ A1 c1, v1 = .slice A1 (0 + 1) c1 ∧ 0 + 1 ≤ c1 ∧ c1 ≤ maxLen := by
    rcases hown1.2 with ⟨_, hn⟩ | ⟨g, cap, cur, rfl, hbg, hg, hnc, hcm, _⟩
    · omega
    · exact ⟨_, cap, rfl, hnc, hcm⟩
  clear hown1 hg1 hb1
  go_wp2_with fail
  go_ret
  exact ⟨A1, c1, rfl, by simpa using H1.out, HG1.out, f1, f2⟩

/-- One element ahead of a row of the call's own. -/
theorem InsS_any (B n c vb : Nat) (A : Option Addr) (cs xs : List Value) (w : World) (hB : B ≤ w.heap.size) (ho : w.ownsRow B 39 2 (.slice A n c) n xs) (h1 : ∀ u ∈ xs, u.oneCell' = true)
    (hv : w.heap[vb]? = some (.cells cs.toArray 39 (0, 0))) (hcs : cs.length = 2) (h2 : ∀ u ∈ cs, u.oneCell' = true) (hne : (Value.slice A n c).ownBlock ≠ some vb) (hnm : n ≤ 1000000) :
    Calls Tryd.prog 22 #[.slice A n c, .int .i64 0, .slice (some ⟨vb, 0, none⟩) 1 1] w (InsPost 39 2 w B (.slice A n c) n cs xs) := by
  by_cases hn : n = 0
  · subst hn
    obtain rfl : xs = [] := List.eq_nil_of_length_eq_zero (by have := ho.1; omega)
    exact InsS_end B c vb A cs w hB ho hv hcs h2
  · rcases ho.2 with ⟨_, h0⟩ | ⟨g, cap, cur, hve, hbg, hg, hnc, hcm, hsz, htk⟩
    · exact absurd h0 hn
    · injection hve with e1 e2 e3
      subst e1 e3
      have hne2 : vb ≠ g := fun e => hne (by rw [e]; rfl)
      have hg2 : w.heap[g]? = some (.cells cur.toList.toArray 39 (0, 0)) := by simpa using hg
      by_cases hr : n + 1 ≤ c
      · exact InsS_shift B g n c vb cur.toList cs xs w hbg hg2 (by simpa using hsz) htk (by omega) hr hcm h1 hv hcs h2 hne2 hnm
      · exact InsS_grow B g n c vb cur.toList cs xs w hB hg2 (by simpa using hsz) htk (by omega) hnc (by omega) h1 hv hcs h2 hne2 hnm
end Go.Proofs.YtlgfollajodpaaaDoor

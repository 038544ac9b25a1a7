/-
  Which of two candidates is taken, and at which step: the program's answer.
-/
import Derived.Test.YtpjhidicgclmbaaNears15
import Derived.Test.YtpjhidicgclmbaaFlowT
import Derived.Deep.DeepCutAuto
namespace Go.Proofs.Ytpjhidicgclmbaa
set_option linter.unusedVariables false
set_option linter.unusedSimpArgs false
open Go.RowKit

theorem below_two {B : Nat} {w w1 w2 : World} (h : Below B w w1) (g : Below w1.heap.size w1 w2) (hB : B = w.heap.size := by rfl) : Below B w w2 := h.trans (g.mono (by rw [hB]; exact h.size))
theorem num_zz (c : Cv) (z : Int) (s : Nat) : (keyOf c z).num s = (keyOf c 0).num s := rfl
theorem goes_z (a b : Cv) (z z' : Int) (s : Nat) : goesB s (keyOf a z) (keyOf b z') = goesB s (keyOf a 0) (keyOf b 0) := rfl
theorem pair_z (a b : Cv) (z z' : Int) : ∀ k s, pairF (keyOf a z) (keyOf b z') k s = pairF (keyOf a 0) (keyOf b 0) k s
  | 0, _ => rfl
  | k + 1, s => by
    unfold pairF
    rw [goes_z b a, goes_z a b, pair_z a b z z' k]
/-- Which of two is taken, and at which step. -/
def pairZ (a b : Cv) : Int × Int := pairF (keyOf a 0) (keyOf b 0) 8 1
theorem goes_one (s : Nat) (x y : Rn) : goesB s x y = ((s != 4 || x.near == y.near) && decide (y.num s < x.num s)) := rfl
theorem lexP_one (x y : Rn) (q : Nat) (hq : q < 8) : lexP x y q (q + 1) = if x.num (q + 1) < y.num (q + 1) then -1 else if y.num (q + 1) < x.num (q + 1) then 1 else 0 := by
  have : q = 0 ∨ q = 1 ∨ q = 2 ∨ q = 3 ∨ q = 4 ∨ q = 5 ∨ q = 6 ∨ q = 7 := by omega
  rcases this with rfl | rfl | rfl | rfl | rfl | rfl | rfl | rfl <;> rfl
theorem pair_step {x y : Rn} {q : Nat} (hq : q < 8) : pairF x y (8 - q) (q + 1) = if goesB (q + 1) y x then (-1, ((q + 1 : Nat) : Int)) else if goesB (q + 1) x y then (1, ((q + 1 : Nat) : Int)) else pairF x y (8 - (q + 1)) (q + 1 + 1) := by
  have e : 8 - q = (8 - (q + 1)) + 1 := by omega
  rw [e]
  rfl
/-- The step at which Near counts, and those are not the same. -/
theorem pair_skip {x y : Rn} (h : x.near ≠ y.near) : pairF x y (8 - 3) (3 + 1) = pairF x y (8 - 4) (4 + 1) := by
  rw [pair_step (by decide)]
  have h1 : goesB (3 + 1) y x = false := by
    rw [goes_one]
    have : (y.near == x.near) = false := by simpa using fun e => h e.symm
    rw [this]; rfl
  have h2 : goesB (3 + 1) x y = false := by
    rw [goes_one]
    have : (x.near == y.near) = false := by simpa using h
    rw [this]; rfl
  rw [h1, h2]
  rfl
theorem pair_here {x y : Rn} {q : Nat} (hq : q < 8) (h : q ≠ 3 ∨ x.near = y.near) :
    (lexP x y q (q + 1) = -1 → pairF x y (8 - q) (q + 1) = (-1, (q : Int) + 1)) ∧ (lexP x y q (q + 1) = 1 → pairF x y (8 - q) (q + 1) = (1, (q : Int) + 1)) ∧ (lexP x y q (q + 1) = 0 → pairF x y (8 - q) (q + 1) = pairF x y (8 - (q + 1)) (q + 1 + 1)) := by
  rw [pair_step hq, lexP_one x y q hq, goes_one, goes_one]
  have h1 : (q + 1 != 4 || y.near == x.near) = true := by
    rcases h with h | h
    · have : (q + 1 != 4) = true := by simpa using (show ¬ q + 1 = 4 by omega)
      rw [this]; rfl
    · simp [h]
  have h2 : (q + 1 != 4 || x.near == y.near) = true := by
    rcases h with h | h
    · have : (q + 1 != 4) = true := by simpa using (show ¬ q + 1 = 4 by omega)
      rw [this]; rfl
    · simp [h]
  rw [h1, h2]
  simp only [Bool.true_and, decide_eq_true_eq]
  have e : ((q + 1 : Nat) : Int) = (q : Int) + 1 := by omega
  rw [e]
  by_cases k1 : x.num (q + 1) < y.num (q + 1)
  · simp [k1]
  · by_cases k2 : y.num (q + 1) < x.num (q + 1)
    · simp [k1, k2]
    · simp [k1, k2]
def retPair (p : Int × Int) : Value := .tuple #[.int .i64 p.1, .int .i64 p.2]
def CmpRel (w : World) (x y : Rn) (g1 g2 : Nat) (i : Value) (wr : World) : Prop :=
  Below w.heap.size w wr ∧ RnAt wr g1 0 x ∧ RnAt wr g2 0 y ∧ ∃ q : Nat, q ≤ 8 ∧ i = .int .i64 (q : Int) ∧ Hid (pairF x y 8 1 = pairF x y (8 - q) (q + 1))
theorem rn_of_blk {w : World} {g T : Nat} {x : Rn} (k : Blk w g T x.row) : RnAt w g 0 x :=
  ⟨k.cell 0, fun j u hj => by
    have hj9 : j < 9 := (List.getElem?_eq_some_iff.1 hj).1
    rw [k.cell]
    have : j = 0 ∨ j = 1 ∨ j = 2 ∨ j = 3 ∨ j = 4 ∨ j = 5 ∨ j = 6 ∨ j = 7 ∨ j = 8 := by omega
    rcases this with rfl | rfl | rfl | rfl | rfl | rfl | rfl | rfl | rfl <;> (simp [Rn.keys] at hj; subst hj; rfl)⟩
theorem rn_new (w : World) (T : Nat) (x : Rn) : RnAt (w.alloc (.cells x.row.toArray T)) w.heap.size 0 x := by
  have k := Blk.new w T x.row
  exact ⟨k.cell 0, fun j u hj => by
    have hj9 : j < 9 := (List.getElem?_eq_some_iff.1 hj).1
    rw [k.cell]
    have : j = 0 ∨ j = 1 ∨ j = 2 ∨ j = 3 ∨ j = 4 ∨ j = 5 ∨ j = 6 ∨ j = 7 ∨ j = 8 := by omega
    rcases this with rfl | rfl | rfl | rfl | rfl | rfl | rfl | rfl | rfl <;> (simp [Rn.keys] at hj; subst hj; rfl)⟩

def ptr0 (g : Nat) : Value := .pointer (some ⟨g, 0, none⟩)
def zerosR : List Value := [.int .u32 0, .int .i64 0, .int .i64 0, .int .i64 0, .int .i64 0, .int .i64 0, .int .i64 0, .int .i64 0, .int .i64 0, .int .i64 0]
/-- What each operation of the first statement yields. -/
def CD (B : Nat) (va vx vb vy : Value) : Nat → World → Value → Prop
  | 0, _, v => v = va
  | 1, _, v => v = vx
  | 2, _, v => v = vb
  | 3, _, v => v = vy
  | 4, w, v => ∃ g, v = ptr0 g ∧ B ≤ g ∧ Blk w g 53 zerosR
  | 5, w, v => ∃ g, v = ptr0 g ∧ B ≤ g ∧ Blk w g 53 zerosR
  | _, _, _ => True
theorem CD.keep {B : Nat} {va vx vb vy : Value} : ∀ i w w' v, CD B va vx vb vy i w v → Below w.heap.size w w' → CD B va vx vb vy i w' v
  | 0, _, _, _, h, _ => h
  | 1, _, _, _, h, _ => h
  | 2, _, _, _, h, _ => h
  | 3, _, _, _, h, _ => h
  | 4, w, w', v, ⟨g, h1, h2, h3⟩, hb => ⟨g, h1, h2, h3.below hb h3.lt⟩
  | 5, w, w', v, ⟨g, h1, h2, h3⟩, hb => ⟨g, h1, h2, h3.below hb h3.lt⟩
  | _ + 6, _, _, _, _, _ => trivial
structure CJ (W0 : World) (a : Act) (w : World) : Prop where
  bel : Below W0.heap.size W0 w
  l6 : ∀ g, a.tmps.getD 6 undef = ptr0 g → g < w.heap.size
  l7 : ∀ g, a.tmps.getD 7 undef = ptr0 g → g < w.heap.size
  ne : ∀ g, a.tmps.getD 6 undef = ptr0 g → a.tmps.getD 7 undef ≠ ptr0 g
theorem put_other {a : Act} {d s : Nat} {v : Value} (h : d ≠ s) : (a.put (some d) v).tmps.getD s undef = a.tmps.getD s undef := by
  simp [Act.put, Array.getD_eq_getD_getElem?, Array.getElem?_setIfInBounds, h]
theorem put_same {a : Act} {d : Nat} {v : Value} : (a.put (some d) v).tmps.getD d undef = v ∨ (a.put (some d) v).tmps.getD d undef = a.tmps.getD d undef := by
  by_cases h : d < a.tmps.size
  · left; simp [Act.put, Array.getD_eq_getD_getElem?, Array.getElem?_setIfInBounds, h]
  · right; simp [Act.put, Array.getD_eq_getD_getElem?, Array.getElem?_setIfInBounds, h]
theorem CJ.other {W0 : World} {a : Act} {w w' : World} {d : Nat} {v : Value} (h : CJ W0 a w) (hb : Below w.heap.size w w') (h6 : d ≠ 6) (h7 : d ≠ 7) : CJ W0 (a.put (some d) v) w' :=
  ⟨h.bel.trans (hb.mono h.bel.size), fun g hg => Nat.lt_of_lt_of_le (h.l6 g (by rw [put_other h6] at hg; exact hg)) hb.size, fun g hg => Nat.lt_of_lt_of_le (h.l7 g (by rw [put_other h7] at hg; exact hg)) hb.size,
    fun g hg => by rw [put_other h7]; exact h.ne g (by rw [put_other h6] at hg; exact hg)⟩
theorem ptr0_inj {g g' : Nat} (h : ptr0 g = ptr0 g') : g = g' := by
  unfold ptr0 at h
  injection h with h
  injection h with h
  injection h with h
theorem CJ.six {W0 : World} {a : Act} {w : World} (h : CJ W0 a w) (o : Obj) : CJ W0 (a.put (some 6) (ptr0 w.heap.size)) (w.alloc o) := by
  have hb : Below w.heap.size w (w.alloc o) := (Below.refl _ _).alloc (Nat.le_refl _) _
  have hz : (w.alloc o).heap.size = w.heap.size + 1 := by simp
  refine ⟨h.bel.trans (hb.mono h.bel.size), fun g hg => ?_, fun g hg => ?_, fun g hg => ?_⟩
  · rw [hz]
    rcases put_same (a := a) (d := 6) (v := ptr0 w.heap.size) with e | e
    · rw [e] at hg; have := ptr0_inj hg; omega
    · rw [e] at hg; have := h.l6 g hg; omega
  · rw [hz]
    rw [put_other (by decide)] at hg
    have := h.l7 g hg; omega
  · rw [put_other (by decide)]
    rcases put_same (a := a) (d := 6) (v := ptr0 w.heap.size) with e | e
    · rw [e] at hg
      have := ptr0_inj hg
      subst this
      intro h7
      have := h.l7 _ h7
      omega
    · rw [e] at hg
      exact h.ne g hg
theorem CJ.seven {W0 : World} {a : Act} {w : World} (h : CJ W0 a w) (o : Obj) : CJ W0 (a.put (some 7) (ptr0 w.heap.size)) (w.alloc o) := by
  have hb : Below w.heap.size w (w.alloc o) := (Below.refl _ _).alloc (Nat.le_refl _) _
  have hz : (w.alloc o).heap.size = w.heap.size + 1 := by simp
  refine ⟨h.bel.trans (hb.mono h.bel.size), fun g hg => ?_, fun g hg => ?_, fun g hg => ?_⟩
  · rw [hz]
    rw [put_other (by decide)] at hg
    have := h.l6 g hg; omega
  · rw [hz]
    rcases put_same (a := a) (d := 7) (v := ptr0 w.heap.size) with e | e
    · rw [e] at hg; have := ptr0_inj hg; omega
    · rw [e] at hg; have := h.l7 g hg; omega
  · rw [put_other (by decide)] at hg
    rcases put_same (a := a) (d := 7) (v := ptr0 w.heap.size) with e | e
    · rw [e]
      intro h7
      have := ptr0_inj h7
      have h6 := h.l6 g hg
      omega
    · rw [e]
      exact h.ne g hg

set_option maxRecDepth 100000 in
set_option maxHeartbeats 12800000 in
theorem Compare_any (a b : Cv) (w : World) (ha : a.In w w.heap.size) (hb : b.In w w.heap.size) (ka : CntOk a) (kb : CntOk b) :
    Calls Try.prog 12 #[a.agg, b.agg] w fun e w' => e = .returned (retPair (pairZ a b)) ∧ Below w.heap.size w w' := by
  unfold pairZ
  have QA := Lib.hid (fun (W : World) (hW : Below w.heap.size w W) => runnerOf_any a 0 W (ha.go hW) ka)
  have QB := Lib.hid (fun (W : World) (hW : Below w.heap.size w W) => runnerOf_any b 0 W (hb.go hW) kb)
  have hnx : (keyOf a 0).near = a.near := rfl
  have hny : (keyOf b 0).near = b.near := rfl
  obtain ⟨x, hx⟩ : ∃ x, x = keyOf a 0 := ⟨_, rfl⟩
  obtain ⟨y, hy⟩ : ∃ y, y = keyOf b 0 := ⟨_, rfl⟩
  rw [← hx, ← hy]
  rw [← hx] at QA hnx
  rw [← hy] at QB hny
  clear ha hb ka kb hx hy
  obtain ⟨peer1, ext1, near1, id1, addr1, org1, pathA1, pathC1, path1, next1, med1, pref1, atomic1, has1, aas1, aad1, commsA1, commsN1, commsC1, rawsA1, rawsN1, rawsC1⟩ := a
  obtain ⟨peer2, ext2, near2, id2, addr2, org2, pathA2, pathC2, path2, next2, med2, pref2, atomic2, has2, aas2, aad2, commsA2, commsN2, commsC2, rawsA2, rawsN2, rawsC2⟩ := b
  unfold Cv.agg Cv.row at *
  unfold Rn.agg Rn.row at QA QB
  dsimp only at QA QB hnx hny ⊢
  clear hnx hny
  have hb0 := ((Below.refl w.heap.size w).alloc (Nat.le_refl _) (.cells #[.int .i64 peer1, .bool ext1, .int .u32 near1, .int .u32 id1, .int .u32 addr1, .int .i64 org1, .slice pathA1 path1.length pathC1, .int .u32 next1, .int .i64 med1, .int .i64 pref1, .bool atomic1, .bool has1, .int .u32 aas1, .int .u32 aad1, .slice commsA1 commsN1 commsC1, .slice rawsA1 rawsN1 rawsC1] 34)).alloc (by simp <;> omega) (.cells #[.int .i64 peer2, .bool ext2, .int .u32 near2, .int .u32 id2, .int .u32 addr2, .int .i64 org2, .slice pathA2 path2.length pathC2, .int .u32 next2, .int .i64 med2, .int .i64 pref2, .bool atomic2, .bool has2, .int .u32 aas2, .int .u32 aad2, .slice commsA2 commsN2 commsC2, .slice rawsA2 rawsN2 rawsC2] 34)
  have kA := (Blk.new w 34 [.int .i64 peer1, .bool ext1, .int .u32 near1, .int .u32 id1, .int .u32 addr1, .int .i64 org1, .slice pathA1 path1.length pathC1, .int .u32 next1, .int .i64 med1, .int .i64 pref1, .bool atomic1, .bool has1, .int .u32 aas1, .int .u32 aad1, .slice commsA1 commsN1 commsC1, .slice rawsA1 rawsN1 rawsC1]).below ((Below.refl _ (w.alloc (.cells #[.int .i64 peer1, .bool ext1, .int .u32 near1, .int .u32 id1, .int .u32 addr1, .int .i64 org1, .slice pathA1 path1.length pathC1, .int .u32 next1, .int .i64 med1, .int .i64 pref1, .bool atomic1, .bool has1, .int .u32 aas1, .int .u32 aad1, .slice commsA1 commsN1 commsC1, .slice rawsA1 rawsN1 rawsC1] 34))).alloc (Nat.le_refl _) (.cells #[.int .i64 peer2, .bool ext2, .int .u32 near2, .int .u32 id2, .int .u32 addr2, .int .i64 org2, .slice pathA2 path2.length pathC2, .int .u32 next2, .int .i64 med2, .int .i64 pref2, .bool atomic2, .bool has2, .int .u32 aas2, .int .u32 aad2, .slice commsA2 commsN2 commsC2, .slice rawsA2 rawsN2 rawsC2] 34)) (by simp)
  have kB := Blk.new (w.alloc (.cells #[.int .i64 peer1, .bool ext1, .int .u32 near1, .int .u32 id1, .int .u32 addr1, .int .i64 org1, .slice pathA1 path1.length pathC1, .int .u32 next1, .int .i64 med1, .int .i64 pref1, .bool atomic1, .bool has1, .int .u32 aas1, .int .u32 aad1, .slice commsA1 commsN1 commsC1, .slice rawsA1 rawsN1 rawsC1] 34)) 34 [.int .i64 peer2, .bool ext2, .int .u32 near2, .int .u32 id2, .int .u32 addr2, .int .i64 org2, .slice pathA2 path2.length pathC2, .int .u32 next2, .int .i64 med2, .int .i64 pref2, .bool atomic2, .bool has2, .int .u32 aas2, .int .u32 aad2, .slice commsA2 commsN2 commsC2, .slice rawsA2 rawsN2 rawsC2]
  have e1 : (w.alloc (.cells #[.int .i64 peer1, .bool ext1, .int .u32 near1, .int .u32 id1, .int .u32 addr1, .int .i64 org1, .slice pathA1 path1.length pathC1, .int .u32 next1, .int .i64 med1, .int .i64 pref1, .bool atomic1, .bool has1, .int .u32 aas1, .int .u32 aad1, .slice commsA1 commsN1 commsC1, .slice rawsA1 rawsN1 rawsC1] 34)).heap.size = w.heap.size + 1 := by simp
  rw [e1] at kB
  obtain ⟨W0, hW0⟩ : ∃ W, W = (w.alloc (.cells #[.int .i64 peer1, .bool ext1, .int .u32 near1, .int .u32 id1, .int .u32 addr1, .int .i64 org1, .slice pathA1 path1.length pathC1, .int .u32 next1, .int .i64 med1, .int .i64 pref1, .bool atomic1, .bool has1, .int .u32 aas1, .int .u32 aad1, .slice commsA1 commsN1 commsC1, .slice rawsA1 rawsN1 rawsC1] 34)).alloc (.cells #[.int .i64 peer2, .bool ext2, .int .u32 near2, .int .u32 id2, .int .u32 addr2, .int .i64 org2, .slice pathA2 path2.length pathC2, .int .u32 next2, .int .i64 med2, .int .i64 pref2, .bool atomic2, .bool has2, .int .u32 aas2, .int .u32 aad2, .slice commsA2 commsN2 commsC2, .slice rawsA2 rawsN2 rawsC2] 34) := ⟨_, rfl⟩
  rw [← hW0] at hb0 kA kB
  have HW0 := Lib.hid hW0
  have HB0 := Lib.hid hb0
  have HS := Lib.hid (fun (W : World) (hW : Below W0.heap.size W0 W) => And.intro (cells16 (kA.below hW kA.lt)) (cells16 (kB.below hW kB.lt)))
  clear hb0 kA kB e1 hW0
  go_enter Try.func12, Try.ntmps12
  go_upto_region 1 with (fail)
  rw [← HW0.out]
  go_cut [6, 7] (fun u v wc => ∃ g1 g2 : Nat, u = .pointer (some ⟨g1, 0, none⟩) ∧ v = .pointer (some ⟨g2, 0, none⟩) ∧ RnAt wc g1 0 x ∧ RnAt wc g2 0 y ∧ Below w.heap.size w wc)
  case first =>
    refine region_tail (by kernel_rfl) 6 (CD W0.heap.size (.agg #[.int .i64 peer1, .bool ext1, .int .u32 near1, .int .u32 id1, .int .u32 addr1, .int .i64 org1, .slice pathA1 path1.length pathC1, .int .u32 next1, .int .i64 med1, .int .i64 pref1, .bool atomic1, .bool has1, .int .u32 aas1, .int .u32 aad1, .slice commsA1 commsN1 commsC1, .slice rawsA1 rawsN1 rawsC1]) (.agg #[.int .u32 x.near, .int .i64 x.p, .int .i64 x.c, .int .i64 x.o, .int .i64 x.m, .int .i64 x.e, .int .i64 x.i, .int .i64 x.a, .int .i64 x.r, .int .i64 x.z]) (.agg #[.int .i64 peer2, .bool ext2, .int .u32 near2, .int .u32 id2, .int .u32 addr2, .int .i64 org2, .slice pathA2 path2.length pathC2, .int .u32 next2, .int .i64 med2, .int .i64 pref2, .bool atomic2, .bool has2, .int .u32 aas2, .int .u32 aad2, .slice commsA2 commsN2 commsC2, .slice rawsA2 rawsN2 rawsC2]) (.agg #[.int .u32 y.near, .int .i64 y.p, .int .i64 y.c, .int .i64 y.o, .int .i64 y.m, .int .i64 y.e, .int .i64 y.i, .int .i64 y.a, .int .i64 y.r, .int .i64 y.z])) (fun W W' => Below W.heap.size W W') (CJ W0) CD.keep (by kernel_rfl) (by kernel_rfl) (by decide) ?_ ?_ ?_
    · exact ⟨(Below.refl _ _).drew, fun g h => (by cases h), fun g h => (by cases h), fun g h => (by cases h)⟩
    · intro i o him ho A W hJ hfree hsz hdep
      rcases i with _ | _ | _ | _ | _ | _ | i
      · cases (show some _ = some o from ho)
        have e2 : A.tmps.getD 2 undef = .pointer (some ⟨w.heap.size, 0, none⟩) := hfree 2 (by kernel_rfl)
        have kc := (HS.out W hJ.bel).1
        unfold OpTo
        go_simp
        exact ⟨Below.refl _ _, rfl, hJ.other (Below.refl _ _) (by decide) (by decide)⟩
      · cases (show some _ = some o from ho)
        have e10 : A.tmps.getD 10 undef = .agg #[.int .i64 peer1, .bool ext1, .int .u32 near1, .int .u32 id1, .int .u32 addr1, .int .i64 org1, .slice pathA1 path1.length pathC1, .int .u32 next1, .int .i64 med1, .int .i64 pref1, .bool atomic1, .bool has1, .int .u32 aas1, .int .u32 aad1, .slice commsA1 commsN1 commsC1, .slice rawsA1 rawsN1 rawsC1] := hdep 0 _ 10 rfl rfl (by kernel_rfl)
        unfold OpTo
        go_simp
        refine (QA.out _ (HB0.out.trans (hJ.bel.mono HB0.out.size))).mono ?_
        rintro e wx ⟨rfl, hb⟩
        exact ⟨_, rfl, hb, rfl, hJ.other hb (by decide) (by decide)⟩
      · cases (show some _ = some o from ho)
        have e3 : A.tmps.getD 3 undef = .pointer (some ⟨w.heap.size + 1, 0, none⟩) := hfree 3 (by kernel_rfl)
        have kc := (HS.out W hJ.bel).2
        unfold OpTo
        go_simp
        exact ⟨Below.refl _ _, rfl, hJ.other (Below.refl _ _) (by decide) (by decide)⟩
      · cases (show some _ = some o from ho)
        have e12 : A.tmps.getD 12 undef = .agg #[.int .i64 peer2, .bool ext2, .int .u32 near2, .int .u32 id2, .int .u32 addr2, .int .i64 org2, .slice pathA2 path2.length pathC2, .int .u32 next2, .int .i64 med2, .int .i64 pref2, .bool atomic2, .bool has2, .int .u32 aas2, .int .u32 aad2, .slice commsA2 commsN2 commsC2, .slice rawsA2 rawsN2 rawsC2] := hdep 2 _ 12 rfl rfl (by kernel_rfl)
        unfold OpTo
        go_simp
        refine (QB.out _ (HB0.out.trans (hJ.bel.mono HB0.out.size))).mono ?_
        rintro e wx ⟨rfl, hb⟩
        exact ⟨_, rfl, hb, rfl, hJ.other hb (by decide) (by decide)⟩
      · cases (show some _ = some o from ho)
        unfold OpTo
        go_simp
        exact ⟨(Below.refl _ _).alloc (Nat.le_refl _) _, ⟨_, rfl, hJ.bel.size, Blk.new W _ _⟩, hJ.six _⟩
      · cases (show some _ = some o from ho)
        unfold OpTo
        go_simp
        exact ⟨(Below.refl _ _).alloc (Nat.le_refl _) _, ⟨_, rfl, hJ.bel.size, Blk.new W _ _⟩, hJ.seven _⟩
      · omega
    · intro A W hJ hfree hsz hdf hall
      have q10 : A.tmps.getD 10 undef = .agg #[.int .i64 peer1, .bool ext1, .int .u32 near1, .int .u32 id1, .int .u32 addr1, .int .i64 org1, .slice pathA1 path1.length pathC1, .int .u32 next1, .int .i64 med1, .int .i64 pref1, .bool atomic1, .bool has1, .int .u32 aas1, .int .u32 aad1, .slice commsA1 commsN1 commsC1, .slice rawsA1 rawsN1 rawsC1] := hall 0 _ (by decide) rfl
      have q11 : A.tmps.getD 11 undef = .agg #[.int .u32 x.near, .int .i64 x.p, .int .i64 x.c, .int .i64 x.o, .int .i64 x.m, .int .i64 x.e, .int .i64 x.i, .int .i64 x.a, .int .i64 x.r, .int .i64 x.z] := hall 1 _ (by decide) rfl
      have q12 : A.tmps.getD 12 undef = .agg #[.int .i64 peer2, .bool ext2, .int .u32 near2, .int .u32 id2, .int .u32 addr2, .int .i64 org2, .slice pathA2 path2.length pathC2, .int .u32 next2, .int .i64 med2, .int .i64 pref2, .bool atomic2, .bool has2, .int .u32 aas2, .int .u32 aad2, .slice commsA2 commsN2 commsC2, .slice rawsA2 rawsN2 rawsC2] := hall 2 _ (by decide) rfl
      have q13 : A.tmps.getD 13 undef = .agg #[.int .u32 y.near, .int .i64 y.p, .int .i64 y.c, .int .i64 y.o, .int .i64 y.m, .int .i64 y.e, .int .i64 y.i, .int .i64 y.a, .int .i64 y.r, .int .i64 y.z] := hall 3 _ (by decide) rfl
      obtain ⟨g, q6, hg, kg⟩ := hall 4 _ (by decide) rfl
      obtain ⟨g2, q7, hg2, kg2⟩ := hall 5 _ (by decide) rfl
      have hne : g2 ≠ g := fun e => hJ.ne g q6 (by rw [← e]; exact q7)
      have hA := act_eq (t := #[.agg #[.int .i64 peer1, .bool ext1, .int .u32 near1, .int .u32 id1, .int .u32 addr1, .int .i64 org1, .slice pathA1 path1.length pathC1, .int .u32 next1, .int .i64 med1, .int .i64 pref1, .bool atomic1, .bool has1, .int .u32 aas1, .int .u32 aad1, .slice commsA1 commsN1 commsC1, .slice rawsA1 rawsN1 rawsC1], .agg #[.int .i64 peer2, .bool ext2, .int .u32 near2, .int .u32 id2, .int .u32 addr2, .int .i64 org2, .slice pathA2 path2.length pathC2, .int .u32 next2, .int .i64 med2, .int .i64 pref2, .bool atomic2, .bool has2, .int .u32 aas2, .int .u32 aad2, .slice commsA2 commsN2 commsC2, .slice rawsA2 rawsN2 rawsC2], .pointer (some ⟨w.heap.size, 0, none⟩), .pointer (some ⟨w.heap.size + 1, 0, none⟩), .int .i64 0, .int .i64 0, ptr0 g, ptr0 g2, undef, undef, .agg #[.int .i64 peer1, .bool ext1, .int .u32 near1, .int .u32 id1, .int .u32 addr1, .int .i64 org1, .slice pathA1 path1.length pathC1, .int .u32 next1, .int .i64 med1, .int .i64 pref1, .bool atomic1, .bool has1, .int .u32 aas1, .int .u32 aad1, .slice commsA1 commsN1 commsC1, .slice rawsA1 rawsN1 rawsC1], .agg #[.int .u32 x.near, .int .i64 x.p, .int .i64 x.c, .int .i64 x.o, .int .i64 x.m, .int .i64 x.e, .int .i64 x.i, .int .i64 x.a, .int .i64 x.r, .int .i64 x.z], .agg #[.int .i64 peer2, .bool ext2, .int .u32 near2, .int .u32 id2, .int .u32 addr2, .int .i64 org2, .slice pathA2 path2.length pathC2, .int .u32 next2, .int .i64 med2, .int .i64 pref2, .bool atomic2, .bool has2, .int .u32 aas2, .int .u32 aad2, .slice commsA2 commsN2 commsC2, .slice rawsA2 rawsN2 rawsC2], .agg #[.int .u32 y.near, .int .i64 y.p, .int .i64 y.c, .int .i64 y.o, .int .i64 y.m, .int .i64 y.e, .int .i64 y.i, .int .i64 y.a, .int .i64 y.r, .int .i64 y.z], undef, undef, undef, undef, undef, undef, undef, undef, undef, undef, undef, undef, undef, undef, undef, undef, undef, undef, undef, undef, undef, undef]) hdf hsz (fun s hs => by
        rcases s with _ | _ | _ | _ | _ | _ | _ | _ | _ | _ | _ | _ | _ | _ | _ | _ | _ | _ | _ | _ | _ | _ | _ | _ | _ | _ | _ | _ | _ | _ | _ | _ | _ | _ | _ | _ | s
        · exact hfree 0 (by kernel_rfl)
        · exact hfree 1 (by kernel_rfl)
        · exact hfree 2 (by kernel_rfl)
        · exact hfree 3 (by kernel_rfl)
        · exact hfree 4 (by kernel_rfl)
        · exact hfree 5 (by kernel_rfl)
        · exact q6
        · exact q7
        · exact hfree 8 (by kernel_rfl)
        · exact hfree 9 (by kernel_rfl)
        · exact q10
        · exact q11
        · exact q12
        · exact q13
        · exact hfree 14 (by kernel_rfl)
        · exact hfree 15 (by kernel_rfl)
        · exact hfree 16 (by kernel_rfl)
        · exact hfree 17 (by kernel_rfl)
        · exact hfree 18 (by kernel_rfl)
        · exact hfree 19 (by kernel_rfl)
        · exact hfree 20 (by kernel_rfl)
        · exact hfree 21 (by kernel_rfl)
        · exact hfree 22 (by kernel_rfl)
        · exact hfree 23 (by kernel_rfl)
        · exact hfree 24 (by kernel_rfl)
        · exact hfree 25 (by kernel_rfl)
        · exact hfree 26 (by kernel_rfl)
        · exact hfree 27 (by kernel_rfl)
        · exact hfree 28 (by kernel_rfl)
        · exact hfree 29 (by kernel_rfl)
        · exact hfree 30 (by kernel_rfl)
        · exact hfree 31 (by kernel_rfl)
        · exact hfree 32 (by kernel_rfl)
        · exact hfree 33 (by kernel_rfl)
        · exact hfree 34 (by kernel_rfl)
        · exact hfree 35 (by kernel_rfl)
        · exfalso; simp at hs; omega)
      subst hA
      clear hfree hdf hsz hall q10 q11 q12 q13 q6 q7
      unfold zerosR at kg kg2
      have c1 := cells10 kg; have f1 := free10 kg
      have c2 := cells10 (kg2); have f2 := free10 kg2
      have HK1 := Lib.hid kg; have HK2 := Lib.hid kg2; have HJ := Lib.hid hJ.bel; have HG := Lib.hid (And.intro hg hg2)
      have hne2 : g ≠ g2 := fun e => hne e.symm
      clear kg kg2 hJ hg hg2
      unfold ptr0
      show wpList _ _ _ [_, _] _ _
      go_wp2_with fail
      go_meet
      case rel =>
        refine ⟨g, g2, rfl, rfl, rn_of_blk (T := 53) ?_, rn_of_blk (T := 53) ?_, ?_⟩
        · unfold Rn.row
          iterate 10 (refine blk_other ?_ hne2 _ _)
          exact Blk.set10 (u0 := .int .u32 0) (u1 := .int .i64 0) (u2 := .int .i64 0) (u3 := .int .i64 0) (u4 := .int .i64 0) (u5 := .int .i64 0) (u6 := .int .i64 0) (u7 := .int .i64 0) (u8 := .int .i64 0) (u9 := .int .i64 0) HK1.out
        · unfold Rn.row
          refine Blk.set10 (u0 := .int .u32 0) (u1 := .int .i64 0) (u2 := .int .i64 0) (u3 := .int .i64 0) (u4 := .int .i64 0) (u5 := .int .i64 0) (u6 := .int .i64 0) (u7 := .int .i64 0) (u8 := .int .i64 0) (u9 := .int .i64 0) ?_
          iterate 10 (refine blk_other ?_ hne _ _)
          exact HK2.out
        · have h1 := HG.out.1
          have h2 := HG.out.2
          have h3 := HB0.out.size
          have hz : w.heap.size ≤ g := Nat.le_trans h3 h1
          have hz2 : w.heap.size ≤ g2 := Nat.le_trans h3 h2
          iterate 10 (refine Below.setCell ?_ hz2 _)
          iterate 10 (refine Below.setCell ?_ hz _)
          exact HB0.out.trans (HJ.out.mono HB0.out.size)
  case rest =>
    obtain ⟨g1, g2, rfl, rfl, hx, hy, hb⟩ := hcut
    have HX := Lib.hid hx; have HY := Lib.hid hy; have HB := Lib.hid hb
    obtain ⟨W1, hW1⟩ : ∃ W, W = wc := ⟨_, rfl⟩
    subst hW1
    clear hx hy hb QA QB HS HB0 HW0
    go_wp2_with fail
    go_loopw [14] (fun i wr => CmpRel w x y g1 g2 i wr) (fun i _ => 8 - (intOf i).toNat)
    case atStart => exact ⟨HB.out, HX.out, HY.out, 0, by omega, rfl, Lib.hid rfl⟩
    case round =>
      obtain ⟨hbr, hx, hy, q, hq, rfl, HP⟩ := hrel
      clear HX HY HB
      have n1 := hx.1
      have n2 := hy.1
      have HX := Lib.hid hx; have HY := Lib.hid hy; have HB := Lib.hid hbr
      by_cases hlt : q < 8
      · have hltI : (q : Int) < 8 := by omega
        have HLT := Lib.hid hlt
        have Q := Lib.hid (compareS g1 0 g2 0 x y q hlt wr hx hy)
        clear hx hy hbr
        by_cases hsk : q = 3 ∧ x.near ≠ y.near
        · obtain ⟨rfl, hn⟩ := hsk
          have hn2 : (x.near != y.near) = true := by simpa using hn
          have HN := Lib.hid (HP.out.trans (pair_skip hn))
          clear hn Q
          go_wp2_with fail
          go_roundw
          case rel => exact ⟨HB.out, HX.out, HY.out, 4, by omega, by go_num, HN⟩
          case measure => simp [intOf]
        · have hor : q ≠ 3 ∨ x.near = y.near := by
            by_cases h3 : q = 3
            · right; exact Decidable.byContradiction fun h => hsk ⟨h3, h⟩
            · exact .inl h3
          obtain ⟨k1, k2, k3⟩ := pair_here hlt hor
          have HK := Lib.hid (And.intro k1 (And.intro k2 k3))
          have hway := lexP_ways x y q (q + 1)
          obtain ⟨p, hp⟩ : ∃ p, p = lexP x y q (q + 1) := ⟨_, rfl⟩
          rw [← hp] at Q HK hway
          clear hp k1 k2 k3 hsk
          have hor2 : ((q : Int) == 3) = false ∨ (((q : Int) == 3) = true ∧ (x.near != y.near) = false) := by
            rcases hor with h | h
            · left; simpa using (show ¬ (q : Int) = 3 by omega)
            · by_cases h3 : q = 3
              · right; exact ⟨by simp [h3], by simp [h]⟩
              · left; simpa using (show ¬ (q : Int) = 3 by omega)
          clear hor
          rcases hway with rfl | rfl | rfl
          · have HE := Lib.hid (HP.out.trans (HK.out.1 rfl))
            clear HP HK
            rcases hor2 with h3 | ⟨h3, h4⟩
            · go_wp2_with fail
              refine Q.out.mono ?_
              rintro e w2 ⟨rfl, m, rfl⟩
              go_wp2_with fail
              go_ret2
              exact ⟨by rw [HE.out]; rfl, below_drewN HB.out _⟩
            · go_wp2_with fail
              refine Q.out.mono ?_
              rintro e w2 ⟨rfl, m, rfl⟩
              go_wp2_with fail
              go_ret2
              exact ⟨by rw [HE.out]; rfl, below_drewN HB.out _⟩
          · have HE := Lib.hid (HP.out.trans (HK.out.2.2 rfl))
            clear HP HK
            rcases hor2 with h3 | ⟨h3, h4⟩
            · go_wp2_with fail
              refine Q.out.mono ?_
              rintro e w2 ⟨rfl, m, rfl⟩
              go_wp2_with fail
              go_roundw
              case rel => exact ⟨below_drewN HB.out _, HX.out.drewN _, HY.out.drewN _, q + 1, HLT.out, by go_num, HE⟩
              case measure => have := HLT.out; simp [intOf]; omega
            · go_wp2_with fail
              refine Q.out.mono ?_
              rintro e w2 ⟨rfl, m, rfl⟩
              go_wp2_with fail
              go_roundw
              case rel => exact ⟨below_drewN HB.out _, HX.out.drewN _, HY.out.drewN _, q + 1, HLT.out, by go_num, HE⟩
              case measure => have := HLT.out; simp [intOf]; omega
          · have HE := Lib.hid (HP.out.trans (HK.out.2.1 rfl))
            clear HP HK
            rcases hor2 with h3 | ⟨h3, h4⟩
            · go_wp2_with fail
              refine Q.out.mono ?_
              rintro e w2 ⟨rfl, m, rfl⟩
              go_wp2_with fail
              go_ret2
              exact ⟨by rw [HE.out]; rfl, below_drewN HB.out _⟩
            · go_wp2_with fail
              refine Q.out.mono ?_
              rintro e w2 ⟨rfl, m, rfl⟩
              go_wp2_with fail
              go_ret2
              exact ⟨by rw [HE.out]; rfl, below_drewN HB.out _⟩
      · obtain rfl : q = 8 := by omega
        have HE := Lib.hid HP.out
        clear hx hy hbr HP
        go_wp2_with fail
        go_ret2
        exact ⟨by rw [HE.out]; rfl, HB.out⟩
end Go.Proofs.Ytpjhidicgclmbaa

/-
  Which OPEN any bytes say, as the document reads it.
-/
import Derived.Test.YtpdnpphkkobhgaaRefReadF6
import Derived.Test.YtpdnpphkkobhgaaRead6
import Derived.Test.YtpdnpphkkobhgaaRefRB
import Derived.Test.YtpdnpphkkobhgaaAppB
import Derived.RegionTactic
import Derived.ChangeAlike
import Derived.Deep.RegionLaw
import Derived.IntWalk
namespace Go.Proofs.Ytpdnpphkkobhgaa
set_option linter.unusedVariables false
set_option linter.unusedSimpArgs false
open Go.RowKit

/-- What stands in all rounds: the results, the two answers that are none. -/
structure RBase (w : World) (T : Nat) (wr : World) : Prop where
  below : Below w.heap.size w wr
  k2 : Blk wr w.heap.size 25 [.int .i64 0, .int .i64 0, .int .i64 0, .int .u32 0, .slice none 0 0]
  k3 : Blk wr (w.heap.size + 1) 36 [.int .i64 0, .int .i64 0, .slice none 0 0]
  k4 : Blk wr (w.heap.size + 2) 25 [.int .i64 0, .int .i64 0, .int .i64 0, .int .u32 0, .slice none 0 0]
  k5 : Blk wr (w.heap.size + 3) 36 [.int .i64 2, .int .i64 0, .slice none 0 0]
  lt : w.heap.size + 4 ≤ T
theorem RBase.on {w wr w' : World} {T : Nat} (h : RBase w T wr) (hb : Below T wr w') : RBase w T w' :=
  ⟨h.below.trans (hb.mono (by have := h.lt; omega)), h.k2.below hb (by have := h.lt; omega), h.k3.below hb (by have := h.lt; omega), h.k4.below hb (by have := h.lt; omega), h.k5.below hb (by have := h.lt; omega), h.lt⟩
theorem DX.below {w w' : World} {B : Nat} {s : Cp} (h : DX w B s) (hb : Below w.heap.size w w') : DX w' B s := fun hd => by
  obtain ⟨b, off, h1, hB, hlt, ht, hc⟩ := h hd
  have e := hb.block b hlt
  exact ⟨b, off, h1, hB, Nat.lt_of_lt_of_le hlt hb.size, by rw [e]; exact ht, fun j hj => by rw [World.cell?_of_block (a := ⟨b, off + j, none⟩) e]; exact hc j hj⟩
/-- An OPEN in block T, whose capabilities are a row behind it. -/
def CapsAt (wr : World) (T : Nat) (a b c d : Int) (x : Value) (M : List Cp) : Prop :=
  Blk wr T 25 [.int .i64 a, .int .i64 b, .int .i64 c, .int .u32 d, x] ∧ OwnC wr (T + 1) x M ∧ ∀ s ∈ M, CpOk wr (T + 1) s
theorem CapsAt.below {wr w' : World} {T : Nat} {a b c d : Int} {x : Value} {M : List Cp} (h : CapsAt wr T a b c d x M) (hb : Below wr.heap.size wr w') : CapsAt w' T a b c d x M :=
  ⟨h.1.below hb h.1.lt, h.2.1.below hb, fun s hs => ⟨(h.2.2 s hs).1.below hb, (h.2.2 s hs).2⟩⟩
theorem CapsAt.push {wr w4 : World} {T : Nat} {a b c d : Int} {x v' : Value} {M : List Cp} {s : Cp} (h : CapsAt wr T a b c d x M) (hs : CpOk wr (T + 1) s) (ho : w4.ownsRow (T + 1) 54 2 v' (M.length + 1) (flatC M ++ s.two)) (hg : wr.grownBy w4 x.ownBlock) : CapsAt (w4.setCell ⟨T, 4, none⟩ v') T a b c d v' (M ++ [s]) := by
  obtain ⟨hk, hO, hC⟩ := h
  have hlt := fun i hi => (OwnC.lt hO (k := i) hi).1
  have gs : w4.grownBy (w4.setCell ⟨T, 4, none⟩ v') (some T) := grown_setCell (grown_refl _ _) _ _
  have hk4 : Blk w4 T 25 [.int .i64 a, .int .i64 b, .int .i64 c, .int .u32 d, x] := hk.row hg (fun e => by have := hlt T e; omega)
  refine ⟨hk4.set 4 v', (OwnC.push ho).beside gs (by omega), fun u hu => ?_⟩
  rcases List.mem_append.1 hu with h9 | h9
  · exact ⟨((hC u h9).1.row hO hg).grown gs (by omega), (hC u h9).2⟩
  · rw [List.mem_singleton.1 h9]
    exact ⟨(hs.1.row hO hg).grown gs (by omega), hs.2⟩
def ORel (w W4 : World) (l : List UInt8) (a b c d : Int) (v : Value) (wr : World) : Prop :=
  Below (w.heap.size + 4) W4 wr ∧ ∃ (p i : Nat) (M : List Cp) (x : Value), v = .int .i64 (i : Int) ∧ 10 ≤ i ∧ i ≤ l.length ∧ ParInv (l.drop 10) p (M.map Cp.abs) (l.drop i) ∧ M.length + 10 ≤ i ∧ CapsAt wr (w.heap.size + 5) a b c d x M
def IRel (w W4 : World) (l : List UInt8) (a b c d : Int) (M : List Cp) (i e : Nat) (v : Value) (wr : World) : Prop :=
  Below (w.heap.size + 4) W4 wr ∧ ∃ (k : Nat) (N : List Cp) (x : Value), v = .int .i64 (k : Int) ∧ i + 2 ≤ k ∧ k ≤ e ∧ CapInv (win l (i + 2) e) (N.map Cp.abs) (win l k e) ∧ M.length + N.length + 10 ≤ k ∧ CapsAt wr (w.heap.size + 5) a b c d x (M ++ N)
/-- The byte at a place, as a number. -/
def byN (l : List UInt8) (j : Nat) : Nat := (l.getD j 0).toNat
theorem byN_lt (l : List UInt8) (j : Nat) : byN l j < 256 := UInt8.toNat_lt _
theorem blk_drew {w : World} {g T : Nat} {cs : List Value} (h : Blk w g T cs) : Blk w.drew g T cs := h
theorem refTake_fit {l : List UInt8} {k n : Nat} (h : k + n ≤ l.length) : refTake l k false (n : Int) = ((l.drop k).take n, k + n, false) := by
  unfold refTake
  rw [if_pos ⟨rfl, by omega, by omega⟩]
  simp

set_option maxRecDepth 100000 in
set_option maxHeartbeats 12800000 in
theorem RefRead6_any (A : Option Addr) (c : Nat) (l : List UInt8) (w : World) (h : Bytes w A l) (h1 : l.length ≤ c) (h2 : c ≤ maxLen) (hl : l.length ≤ 1000000) :
    Calls Try.prog 14 #[.slice A l.length c] w (RetRead w (readF l)) := by
  obtain ⟨W4, hW4⟩ : ∃ W4, W4 = (((w.alloc (.cells #[.int .i64 0, .int .i64 0, .int .i64 0, .int .u32 0, .slice none 0 0] 25)).alloc (.cells #[.int .i64 0, .int .i64 0, .slice none 0 0] 36)).alloc (.cells #[.int .i64 0, .int .i64 0, .int .i64 0, .int .u32 0, .slice none 0 0] 25)).alloc (.cells #[.int .i64 2, .int .i64 0, .slice none 0 0] 36) := ⟨_, rfl⟩
  have hs4 : W4.heap.size = w.heap.size + 4 := by rw [hW4]; simp
  have hbase : RBase w (w.heap.size + 4) W4 := by
    rw [hW4]
    refine ⟨((((Below.refl _ _).alloc (Nat.le_refl _) _).alloc (by simp) _).alloc (by simp; omega) _).alloc (by simp; omega) _, ?_, ?_, ?_, ?_, Nat.le_refl _⟩
    · exact (((Blk.new w _ _).below ((Below.refl _ _).alloc (Nat.le_refl _) _) (by simp)).below ((Below.refl _ _).alloc (Nat.le_refl _) _) (by simp; omega)).below ((Below.refl _ _).alloc (Nat.le_refl _) _) (by simp; omega)
    · have := (((Blk.new (w.alloc (.cells #[.int .i64 0, .int .i64 0, .int .i64 0, .int .u32 0, .slice none 0 0] 25)) 36 [.int .i64 0, .int .i64 0, .slice none 0 0])).below ((Below.refl _ _).alloc (Nat.le_refl _) (.cells #[.int .i64 0, .int .i64 0, .int .i64 0, .int .u32 0, .slice none 0 0] 25)) (by simp)).below ((Below.refl _ _).alloc (Nat.le_refl _) (.cells #[.int .i64 2, .int .i64 0, .slice none 0 0] 36)) (by simp)
      simpa using this
    · have := ((Blk.new ((w.alloc (.cells #[.int .i64 0, .int .i64 0, .int .i64 0, .int .u32 0, .slice none 0 0] 25)).alloc (.cells #[.int .i64 0, .int .i64 0, .slice none 0 0] 36)) 25 [.int .i64 0, .int .i64 0, .int .i64 0, .int .u32 0, .slice none 0 0])).below ((Below.refl _ _).alloc (Nat.le_refl _) (.cells #[.int .i64 2, .int .i64 0, .slice none 0 0] 36)) (by simp)
      simpa using this
    · have := Blk.new (((w.alloc (.cells #[.int .i64 0, .int .i64 0, .int .i64 0, .int .u32 0, .slice none 0 0] 25)).alloc (.cells #[.int .i64 0, .int .i64 0, .slice none 0 0] 36)).alloc (.cells #[.int .i64 0, .int .i64 0, .int .i64 0, .int .u32 0, .slice none 0 0] 25)) 36 [.int .i64 2, .int .i64 0, .slice none 0 0]
      simpa using this
  have HS4 := Lib.hid hs4; have HBS := Lib.hid hbase; have HW := Lib.hid hW4
  have HY := Lib.hid h; have HV := Lib.hid (And.intro h1 h2)
  clear hs4 hbase hW4 h h1 h2
  by_cases hlen : l.length < 10
  · have HF := Lib.hid (show readF l = .error 0 from if_pos (.inl hlen))
    go_enter Try.func14, Try.ntmps14
    go_wp2_with fail
    rw [← HW.out]
    have hbs := HBS.out
    have c4 := cells5 hbs.k4
    have c5 := cells3 hbs.k5
    have c2 := cells5 hbs.k2
    have f2 := free5 hbs.k2
    have c3 := cells3 hbs.k3
    have f3 := free3 hbs.k3
    have k2s := hbs.k2.set5 (.int .i64 0) (.int .i64 0) (.int .i64 0) (.int .u32 0) (.slice none 0 0)
    have k3s := hbs.k3.grown (grown_set5 _ w.heap.size (.int .i64 0) (.int .i64 0) (.int .i64 0) (.int .u32 0) (.slice none 0 0)) (by omega)
    have k3t := k3s.set3 (.int .i64 2) (.int .i64 0) (.slice none 0 0)
    have k2t := k2s.grown (grown_set3 _ (w.heap.size + 1) (.int .i64 2) (.int .i64 0) (.slice none 0 0)) (by omega)
    have R2 := Lib.hid (cells5 (blk_drew k2t))
    have R3 := Lib.hid (cells3 (blk_drew k3t))
    have HBB := Lib.hid (below_set3' (g := w.heap.size + 1) (u := .int .i64 2) (v := .int .i64 0) (x := .slice none 0 0) (below5 (g := w.heap.size) (a := .int .i64 0) (b := .int .i64 0) (c := .int .i64 0) (d := .int .u32 0) (e := .slice none 0 0) hbs.below (Nat.le_refl _)) (Nat.le_succ _)).drew
    clear hbs k2s k3s k3t k2t
    go_region
    go_wp2_with fail
    have r2 := R2.out
    have r3 := R3.out
    exact bodyPost_ret (v := retR 0 0 0 0 (.slice none 0 0) 2 0) (by simp [results, Try.results14, go_sem, retR, r2, r3]) rfl ⟨HBB.out, .inl ⟨0, HF.out, rfl⟩⟩
  obtain ⟨b, off, rfl, hb, hc⟩ := HY.out (by intro e; subst e; simp at hlen)
  have HCE := Lib.hid (show ∀ W, Below w.heap.size w W → ∀ j, j < l.length → W.cell? ⟨b, off + j, none⟩ = some (.int .u8 (byN l j : Int)) from fun W hW j hj => (hW.cell (p := ⟨b, off + j, none⟩) hb).trans (hc j hj))
  have hlI : decide ((l.length : Int) < 10) = false := by simp; omega
  have hb9 := byN_lt l 9
  have HD9 := Lib.hid (HCE.out W4 HBS.out.below 9 (by omega))
  clear hc
  by_cases hsz : (byN l 9 : Int) = (l.length : Int) - 10
  rotate_left
  · have HF := Lib.hid (show readF l = .error 0 from if_pos (.inr (by show byN l 9 ≠ _; omega)))
    have hszb : ((byN l 9 : Int) != (l.length : Int) - 10) = true := by simpa using hsz
    have e9 := HD9.out
    rw [HW.out] at e9
    clear hsz
    go_enter Try.func14, Try.ntmps14
    go_wp2_with fail
    rw [← HW.out]
    have hbs := HBS.out
    have c4 := cells5 hbs.k4
    have c5 := cells3 hbs.k5
    have c2 := cells5 hbs.k2
    have f2 := free5 hbs.k2
    have c3 := cells3 hbs.k3
    have f3 := free3 hbs.k3
    have k2s := hbs.k2.set5 (.int .i64 0) (.int .i64 0) (.int .i64 0) (.int .u32 0) (.slice none 0 0)
    have k3s := hbs.k3.grown (grown_set5 _ w.heap.size (.int .i64 0) (.int .i64 0) (.int .i64 0) (.int .u32 0) (.slice none 0 0)) (by omega)
    have k3t := k3s.set3 (.int .i64 2) (.int .i64 0) (.slice none 0 0)
    have k2t := k2s.grown (grown_set3 _ (w.heap.size + 1) (.int .i64 2) (.int .i64 0) (.slice none 0 0)) (by omega)
    have R2 := Lib.hid (cells5 (blk_drew k2t))
    have R3 := Lib.hid (cells3 (blk_drew k3t))
    have HBB := Lib.hid (below_set3' (g := w.heap.size + 1) (u := .int .i64 2) (v := .int .i64 0) (x := .slice none 0 0) (below5 (g := w.heap.size) (a := .int .i64 0) (b := .int .i64 0) (c := .int .i64 0) (d := .int .u32 0) (e := .slice none 0 0) hbs.below (Nat.le_refl _)) (Nat.le_succ _)).drew
    clear hbs k2s k3s k3t k2t
    go_region
    go_wp2_with fail
    have r2 := R2.out
    have r3 := R3.out
    exact bodyPost_ret (v := retR 0 0 0 0 (.slice none 0 0) 2 0) (by simp [results, Try.results14, go_sem, retR, r2, r3]) rfl ⟨HBB.out, .inl ⟨0, HF.out, rfl⟩⟩
  have hszb : ((byN l 9 : Int) != (l.length : Int) - 10) = false := by simpa using hsz
  obtain ⟨n1, e1⟩ : ∃ n, n = num (l.take 1) := ⟨_, rfl⟩
  obtain ⟨n2, e2⟩ : ∃ n, n = num ((l.drop 1).take 2) := ⟨_, rfl⟩
  obtain ⟨n3, e3⟩ : ∃ n, n = num ((l.drop 3).take 2) := ⟨_, rfl⟩
  obtain ⟨n4, e4⟩ : ∃ n, n = num ((l.drop 5).take 4) := ⟨_, rfl⟩
  have hn4 : n4 ≤ 4294967295 := by
    have := num_lt4 (l := (l.drop 5).take 4) (by simp; omega)
    omega
  have HRF := Lib.hid (show readF l = (match paramP ((l.drop 10).length + 1) (l.drop 10) with | .error e => .error e | .ok M => .ok ⟨n1, n2, n3, n4, M⟩) from by
    unfold readF
    rw [if_neg (by show ¬ (_ ∨ byN l 9 ≠ _); omega), e1, e2, e3, e4, show (l.drop 10).length = l.length - 10 by simp]
    rfl)
  have Q1 := Lib.hid (fun W (hr : RR W (w.heap.size + 4) (w.heap.size + 4) l 0 false) => refNum_any 1 _ _ l 0 false W hr hl (by omega))
  have Q2 := Lib.hid (fun W (hr : RR W (w.heap.size + 4) (w.heap.size + 4) l 1 false) => refNum_any 2 _ _ l 1 false W hr hl (by omega))
  have Q3 := Lib.hid (fun W (hr : RR W (w.heap.size + 4) (w.heap.size + 4) l 3 false) => refNum_any 2 _ _ l 3 false W hr hl (by omega))
  have Q4 := Lib.hid (fun W (hr : RR W (w.heap.size + 4) (w.heap.size + 4) l 5 false) => refNum_any 4 _ _ l 5 false W hr hl (by omega))
  unfold RefNumPost at Q1 Q2 Q3 Q4
  have r1 : refTake l 0 false 1 = (l.take 1, 1, false) := refTake_fit (k := 0) (n := 1) (by omega)
  have r2 : refTake l 1 false 2 = ((l.drop 1).take 2, 3, false) := refTake_fit (n := 2) (by omega)
  have r3 : refTake l 3 false 2 = ((l.drop 3).take 2, 5, false) := refTake_fit (n := 2) (by omega)
  have r4 : refTake l 5 false 4 = ((l.drop 5).take 4, 9, false) := refTake_fit (n := 4) (by omega)
  rw [r1] at Q1
  rw [r2] at Q2
  rw [r3] at Q3
  rw [r4] at Q4
  dsimp only at Q1 Q2 Q3 Q4
  rw [← e1] at Q1
  rw [← e2] at Q2
  rw [← e3] at Q3
  rw [← e4] at Q4
  clear e1 e2 e3 e4 r1 r2 r3 r4 hsz
  have e9 := HD9.out
  rw [HW.out] at e9
  go_enter Try.func14, Try.ntmps14
  go_wp2_with fail
  rw [← HW.out]
  obtain ⟨W6, hW6⟩ : ∃ W6, W6 = (W4.alloc (.cells #[.slice (some ⟨b, off, none⟩) l.length c, .int .i64 0, .bool false] 74)).alloc (.cells #[.int .i64 0, .int .i64 0, .int .i64 0, .int .u32 0, .slice none 0 0] 25) := ⟨_, rfl⟩
  have hb6 : Below (w.heap.size + 4) W4 W6 := by rw [hW6, ← HS4.out]; exact ((Below.refl _ _).alloc (Nat.le_refl _) _).alloc (by simp) _
  have k6 : Blk W6 (w.heap.size + 4) 74 [.slice (some ⟨b, off, none⟩) l.length c, .int .i64 ((0 : Nat) : Int), .bool false] := by
    rw [hW6, ← HS4.out]
    exact (Blk.new W4 _ _).below ((Below.refl _ _).alloc (Nat.le_refl _) _) (by simp)
  have k7 : Blk W6 (w.heap.size + 5) 25 [.int .i64 0, .int .i64 0, .int .i64 0, .int .u32 0, .slice none 0 0] := by
    rw [hW6]
    have h9 := Blk.new (W4.alloc (.cells #[.slice (some ⟨b, off, none⟩) l.length c, .int .i64 0, .bool false] 74)) 25 [.int .i64 0, .int .i64 0, .int .i64 0, .int .u32 0, .slice none 0 0]
    have e9 : (W4.alloc (.cells #[.slice (some ⟨b, off, none⟩) l.length c, .int .i64 0, .bool false] 74)).heap.size = w.heap.size + 5 := by have := HS4.out; simp; omega
    rw [e9] at h9
    exact h9
  have hbw6 := HBS.out.below.trans (hb6.mono (by omega))
  have HRR1 := Lib.hid (show RR W6 (w.heap.size + 4) (w.heap.size + 4) l 0 false from ⟨Nat.le_refl _, _, c, k6, Nat.zero_le _, HV.out.1, HV.out.2, (At.below HY.out hbw6 (Nat.le_refl _)).lift (by omega)⟩)
  have HK1 := Lib.hid k7; have HB1 := Lib.hid hb6
  rw [← hW6]
  clear hb6 k6 k7 hbw6 hW6 e9
  refine (Q1.out _ HRR1.out).mono ?_
  rintro e w1 ⟨rfl, hr, hg⟩
  have k7 := HK1.out.grown hg (by omega)
  have c5 := cells5 k7
  have f5 := free5 k7
  have gs := grown_setCell (grown_refl w1 (some (w.heap.size + 5))) 0 (.int .i64 (n1 : Int))
  have HK2 := Lib.hid (k7.set 0 (.int .i64 (n1 : Int)))
  have HRR2 := Lib.hid (hr.grown gs (by omega) (by omega))
  have HB2 := Lib.hid ((HB1.out.grown hg (by have := HB1.out.size; have := HS4.out; omega) (fun k hk => by cases hk; omega)).grown gs (by have := HB1.out.size; have := hg.size; have := HS4.out; omega) (fun k hk => by cases hk; omega))
  clear k7 gs hr hg Q1
  go_wp2_with fail
  skip
  refine (Q2.out _ HRR2.out).mono ?_
  rintro e w2 ⟨rfl, hr, hg⟩
  have k7 := HK2.out.grown hg (by omega)
  have c5 := cells5 k7
  have f5 := free5 k7
  have gs := grown_setCell (grown_refl w2 (some (w.heap.size + 5))) 1 (.int .i64 (n2 : Int))
  have HK3 := Lib.hid (k7.set 1 (.int .i64 (n2 : Int)))
  have HRR3 := Lib.hid (hr.grown gs (by omega) (by omega))
  have HB3 := Lib.hid ((HB2.out.grown hg (by have := HB2.out.size; have := HS4.out; omega) (fun k hk => by cases hk; omega)).grown gs (by have := HB2.out.size; have := hg.size; have := HS4.out; omega) (fun k hk => by cases hk; omega))
  clear k7 gs hr hg Q2
  go_wp2_with fail
  skip
  refine (Q3.out _ HRR3.out).mono ?_
  rintro e w3 ⟨rfl, hr, hg⟩
  have k7 := HK3.out.grown hg (by omega)
  have c5 := cells5 k7
  have f5 := free5 k7
  have gs := grown_setCell (grown_refl w3 (some (w.heap.size + 5))) 2 (.int .i64 (n3 : Int))
  have HK4 := Lib.hid (k7.set 2 (.int .i64 (n3 : Int)))
  have HRR4 := Lib.hid (hr.grown gs (by omega) (by omega))
  have HB4 := Lib.hid ((HB3.out.grown hg (by have := HB3.out.size; have := HS4.out; omega) (fun k hk => by cases hk; omega)).grown gs (by have := HB3.out.size; have := hg.size; have := HS4.out; omega) (fun k hk => by cases hk; omega))
  clear k7 gs hr hg Q3
  go_wp2_with fail
  skip
  refine (Q4.out _ HRR4.out).mono ?_
  rintro e w4 ⟨rfl, hr, hg⟩
  have k7 := HK4.out.grown hg (by omega)
  have c5 := cells5 k7
  have f5 := free5 k7
  have gs := grown_setCell (grown_refl w4 (some (w.heap.size + 5))) 3 (.int .u32 (n4 : Int))
  have HK5 := Lib.hid (k7.set 3 (.int .u32 (n4 : Int)))
  have HRR5 := Lib.hid (hr.grown gs (by omega) (by omega))
  have HB5 := Lib.hid ((HB4.out.grown hg (by have := HB4.out.size; have := HS4.out; omega) (fun k hk => by cases hk; omega)).grown gs (by have := HB4.out.size; have := hg.size; have := HS4.out; omega) (fun k hk => by cases hk; omega))
  clear k7 gs hr hg Q4
  go_wp2_with fail
  skip
  skip
  go_loopw [8] (fun v wr => ORel w W4 l n1 n2 n3 n4 v wr) (fun v _ => l.length - (intOf v).toNat)
  case atStart => exact ⟨HB5.out, 0, 10, [], .slice none 0 0, rfl, Nat.le_refl _, by omega, ParInv.start _, by simp, HK5.out, OwnC.nil _ _, fun s hs => by cases hs⟩
  case round =>
    obtain ⟨hbr, p, i, M, x, rfl, hi0, hi1, hP, hM, hca⟩ := hrel
    have HBR := Lib.hid hbr; have HP := Lib.hid hP; have HCA := Lib.hid hca
    clear hP hca HRR5 HK5 HB5 hbr
    by_cases hlt : i < l.length
    · have HNE := Lib.hid (show l.drop i ≠ [] by rw [← win_all]; exact win_ne (Nat.le_refl _) hlt)
      have hcell := fun j hj => HCE.out wr (HBS.out.on HBR.out).below j hj
      have x0 := hcell i hlt
      have y0 := byN_lt l i
      have y1 := byN_lt l (i + 1)
      by_cases ha : l.length ≤ i + 1
      · have HF := Lib.hid (show readF l = .error 0 by
          rw [HRF.out, HP.out.bad HNE.out (by rw [← win_all]; exact next_bad1 (Nat.le_refl _) hlt (by omega))])
        have haI : (l.length : Int) ≤ (i : Int) + 1 := by omega
        clear hcell x0
        go_wp2_with fail
        have hbs := (HBS.out.on HBR.out)
        have c4 := cells5 hbs.k4
        have c5 := cells3 hbs.k5
        have c2 := cells5 hbs.k2
        have f2 := free5 hbs.k2
        have c3 := cells3 hbs.k3
        have f3 := free3 hbs.k3
        have k2s := hbs.k2.set5 (.int .i64 0) (.int .i64 0) (.int .i64 0) (.int .u32 0) (.slice none 0 0)
        have k3s := hbs.k3.grown (grown_set5 _ w.heap.size (.int .i64 0) (.int .i64 0) (.int .i64 0) (.int .u32 0) (.slice none 0 0)) (by omega)
        have k3t := k3s.set3 (.int .i64 2) (.int .i64 0) (.slice none 0 0)
        have k2t := k2s.grown (grown_set3 _ (w.heap.size + 1) (.int .i64 2) (.int .i64 0) (.slice none 0 0)) (by omega)
        have R2 := Lib.hid (cells5 (blk_drew k2t))
        have R3 := Lib.hid (cells3 (blk_drew k3t))
        have HBB := Lib.hid (below_set3' (g := w.heap.size + 1) (u := .int .i64 2) (v := .int .i64 0) (x := .slice none 0 0) (below5 (g := w.heap.size) (a := .int .i64 0) (b := .int .i64 0) (c := .int .i64 0) (d := .int .u32 0) (e := .slice none 0 0) hbs.below (Nat.le_refl _)) (Nat.le_succ _)).drew
        clear hbs k2s k3s k3t k2t
        go_region
        go_wp2_with fail
        have r2 := R2.out
        have r3 := R3.out
        exact bodyPost_ret (v := retR 0 0 0 0 (.slice none 0 0) 2 0) (by simp [results, Try.results14, go_sem, retR, r2, r3]) rfl ⟨HBB.out, .inl ⟨0, HF.out, rfl⟩⟩
      have x1 := hcell (i + 1) (by omega)
      have haI : ¬ (l.length : Int) ≤ (i : Int) + 1 := by omega
      by_cases hb : l.length < i + 2 + byN l (i + 1)
      · have HF := Lib.hid (show readF l = .error 0 by
          rw [HRF.out, HP.out.bad HNE.out (by rw [← win_all]; exact next_bad2 (Nat.le_refl _) (by omega) hb)])
        have hbI : (l.length : Int) - (i : Int) - 2 < (byN l (i + 1) : Int) := by omega
        clear hcell
        go_wp2_with fail
        have hbs := (HBS.out.on HBR.out)
        have c4 := cells5 hbs.k4
        have c5 := cells3 hbs.k5
        have c2 := cells5 hbs.k2
        have f2 := free5 hbs.k2
        have c3 := cells3 hbs.k3
        have f3 := free3 hbs.k3
        have k2s := hbs.k2.set5 (.int .i64 0) (.int .i64 0) (.int .i64 0) (.int .u32 0) (.slice none 0 0)
        have k3s := hbs.k3.grown (grown_set5 _ w.heap.size (.int .i64 0) (.int .i64 0) (.int .i64 0) (.int .u32 0) (.slice none 0 0)) (by omega)
        have k3t := k3s.set3 (.int .i64 2) (.int .i64 0) (.slice none 0 0)
        have k2t := k2s.grown (grown_set3 _ (w.heap.size + 1) (.int .i64 2) (.int .i64 0) (.slice none 0 0)) (by omega)
        have R2 := Lib.hid (cells5 (blk_drew k2t))
        have R3 := Lib.hid (cells3 (blk_drew k3t))
        have HBB := Lib.hid (below_set3' (g := w.heap.size + 1) (u := .int .i64 2) (v := .int .i64 0) (x := .slice none 0 0) (below5 (g := w.heap.size) (a := .int .i64 0) (b := .int .i64 0) (c := .int .i64 0) (d := .int .u32 0) (e := .slice none 0 0) hbs.below (Nat.le_refl _)) (Nat.le_succ _)).drew
        clear hbs k2s k3s k3t k2t
        go_region
        go_wp2_with fail
        have r2 := R2.out
        have r3 := R3.out
        exact bodyPost_ret (v := retR 0 0 0 0 (.slice none 0 0) 2 0) (by simp [results, Try.results14, go_sem, retR, r2, r3]) rfl ⟨HBB.out, .inl ⟨0, HF.out, rfl⟩⟩
      have hbI : ¬ (l.length : Int) - (i : Int) - 2 < (byN l (i + 1) : Int) := by omega
      have hnx := next_fit (l := l) (k := i) (Nat.le_refl _) (by omega) (by show i + 2 + byN l (i + 1) ≤ _; omega)
      rw [win_all] at hnx
      have HNX := Lib.hid hnx
      clear hnx
      by_cases hk2 : byN l i = 2
      rotate_left
      · have HF := Lib.hid (show readF l = .error 4 by
          rw [HRF.out, HP.out.kind HNE.out (by rw [HNX.out]) (by rw [HNX.out]; exact hk2)])
        have hkb : ((byN l i : Int) != 2) = true := by simp; omega
        clear hcell hk2
        have hbs := HBS.out.on HBR.out
        have c4 := cells5 hbs.k4
        have c2 := cells5 hbs.k2
        have f2 := free5 hbs.k2
        have k2s := hbs.k2.set5 (.int .i64 0) (.int .i64 0) (.int .i64 0) (.int .u32 0) (.slice none 0 0)
        have k3s := hbs.k3.grown (grown_set5 _ w.heap.size (.int .i64 0) (.int .i64 0) (.int .i64 0) (.int .u32 0) (.slice none 0 0)) (by omega)
        have c3 := cells3 k3s
        have f3 := free3 k3s
        have k3t := k3s.set3 (.int .i64 2) (.int .i64 4) (.slice none 0 0)
        have k2t := k2s.grown (grown_set3 _ (w.heap.size + 1) (.int .i64 2) (.int .i64 4) (.slice none 0 0)) (by omega)
        have r2 := cells5 k2t
        have r3 := cells3 k3t
        have HBB := Lib.hid (below_set3' (g := w.heap.size + 1) (u := .int .i64 2) (v := .int .i64 4) (x := .slice none 0 0) (below5 (g := w.heap.size) (a := .int .i64 0) (b := .int .i64 0) (c := .int .i64 0) (d := .int .u32 0) (e := .slice none 0 0) hbs.below (Nat.le_refl _)) (Nat.le_succ _))
        clear hbs k2s k3s k3t k2t
        go_wp2_with fail
        exact bodyPost_ret (v := retR 0 0 0 0 (.slice none 0 0) 2 4) (by simp [results, Try.results14, go_sem, retR, r2, r3]) rfl ⟨HBB.out, .inl ⟨4, HF.out, rfl⟩⟩
      have hkb : ((byN l i : Int) != 2) = false := by simp; omega
      have HK2 := Lib.hid hk2
      obtain ⟨e, he⟩ : ∃ e, e = i + 2 + byN l (i + 1) := ⟨_, rfl⟩
      have hee : e ≤ l.length := by omega
      have heI : (i : Int) + 2 + (byN l (i + 1) : Int) = (e : Int) := by omega
      have HE := Lib.hid he; have HEI := Lib.hid heI
      clear hcell hk2 he heI
      go_wp2_with fail
      rw [HEI.out]
      have HEL := Lib.hid hee
      clear hb hbI ha haI x0 x1 y0 y1 hkb hee
      go_loopw [10] (fun v wr => IRel w W4 l n1 n2 n3 n4 M i e v wr) (fun v _ => e - (intOf v).toNat)
      case atStart => exact ⟨HBR.out, i + 2, [], x, by go_num, Nat.le_refl _, by have := HE.out; omega, CapInv.start _, by simp; omega, by simpa using HCA.out⟩
      case round =>
        obtain ⟨hbr2, k, N, x2, rfl, hk0, hk1, hI, hMN, hca2⟩ := hrel
        obtain ⟨MN, hMNe⟩ : ∃ MN, MN = M ++ N := ⟨_, rfl⟩
        rw [← hMNe] at hca2
        have HMNL := Lib.hid (show MN.length = M.length + N.length by rw [hMNe, List.length_append])
        have HMN := Lib.hid hMNe
        clear hMNe
        obtain ⟨Ax, cx, rfl, fx, gx⟩ := hca2.2.1.form
        have HVX := Lib.hid (And.intro fx gx)
        clear fx gx
        have HBR2 := Lib.hid hbr2; have HI := Lib.hid hI; have HCA2 := Lib.hid hca2
        clear hbr2 hI hca2
        by_cases hlt2 : k < e
        · have hee := HEL.out
          have hcell := fun j hj => HCE.out wr (HBS.out.on HBR2.out).below j hj
          have HNE2 := Lib.hid (win_ne (l := l) hee hlt2)
          have x0 := hcell k (by omega)
          have y0 := byN_lt l k
          have y1 := byN_lt l (k + 1)
          by_cases ha : e ≤ k + 1
          · have HF := Lib.hid (show readF l = .error 0 by
              rw [HRF.out, HP.out.none HNE.out (by rw [HNX.out]) (by rw [HNX.out]; exact HK2.out) (by rw [HNX.out]; dsimp only; rw [← show e = i + 2 + (l.getD (i + 1) 0).toNat from HE.out]; exact HI.out.bad HNE2.out (next_bad1 hee hlt2 (by omega)))])
            have haI : (e : Int) ≤ (k : Int) + 1 := by omega
            clear hcell x0
            go_wp2_with fail
            have hbs := (HBS.out.on HBR2.out)
            have c4 := cells5 hbs.k4
            have c5 := cells3 hbs.k5
            have c2 := cells5 hbs.k2
            have f2 := free5 hbs.k2
            have c3 := cells3 hbs.k3
            have f3 := free3 hbs.k3
            have k2s := hbs.k2.set5 (.int .i64 0) (.int .i64 0) (.int .i64 0) (.int .u32 0) (.slice none 0 0)
            have k3s := hbs.k3.grown (grown_set5 _ w.heap.size (.int .i64 0) (.int .i64 0) (.int .i64 0) (.int .u32 0) (.slice none 0 0)) (by omega)
            have k3t := k3s.set3 (.int .i64 2) (.int .i64 0) (.slice none 0 0)
            have k2t := k2s.grown (grown_set3 _ (w.heap.size + 1) (.int .i64 2) (.int .i64 0) (.slice none 0 0)) (by omega)
            have R2 := Lib.hid (cells5 (blk_drew k2t))
            have R3 := Lib.hid (cells3 (blk_drew k3t))
            have HBB := Lib.hid (below_set3' (g := w.heap.size + 1) (u := .int .i64 2) (v := .int .i64 0) (x := .slice none 0 0) (below5 (g := w.heap.size) (a := .int .i64 0) (b := .int .i64 0) (c := .int .i64 0) (d := .int .u32 0) (e := .slice none 0 0) hbs.below (Nat.le_refl _)) (Nat.le_succ _)).drew
            clear hbs k2s k3s k3t k2t
            go_region
            go_wp2_with fail
            have r2 := R2.out
            have r3 := R3.out
            exact bodyPost_ret (v := retR 0 0 0 0 (.slice none 0 0) 2 0) (by simp [results, Try.results14, go_sem, retR, r2, r3]) rfl ⟨HBB.out, .inl ⟨0, HF.out, rfl⟩⟩
          have x1 := hcell (k + 1) (by omega)
          have haI : ¬ (e : Int) ≤ (k : Int) + 1 := by omega
          by_cases hb : e < k + 2 + byN l (k + 1)
          · have HF := Lib.hid (show readF l = .error 0 by
              rw [HRF.out, HP.out.none HNE.out (by rw [HNX.out]) (by rw [HNX.out]; exact HK2.out) (by rw [HNX.out]; dsimp only; rw [← show e = i + 2 + (l.getD (i + 1) 0).toNat from HE.out]; exact HI.out.bad HNE2.out (next_bad2 hee (by omega) hb))])
            have hbI : (e : Int) - (k : Int) - 2 < (byN l (k + 1) : Int) := by omega
            clear hcell
            go_wp2_with fail
            have hbs := (HBS.out.on HBR2.out)
            have c4 := cells5 hbs.k4
            have c5 := cells3 hbs.k5
            have c2 := cells5 hbs.k2
            have f2 := free5 hbs.k2
            have c3 := cells3 hbs.k3
            have f3 := free3 hbs.k3
            have k2s := hbs.k2.set5 (.int .i64 0) (.int .i64 0) (.int .i64 0) (.int .u32 0) (.slice none 0 0)
            have k3s := hbs.k3.grown (grown_set5 _ w.heap.size (.int .i64 0) (.int .i64 0) (.int .i64 0) (.int .u32 0) (.slice none 0 0)) (by omega)
            have k3t := k3s.set3 (.int .i64 2) (.int .i64 0) (.slice none 0 0)
            have k2t := k2s.grown (grown_set3 _ (w.heap.size + 1) (.int .i64 2) (.int .i64 0) (.slice none 0 0)) (by omega)
            have R2 := Lib.hid (cells5 (blk_drew k2t))
            have R3 := Lib.hid (cells3 (blk_drew k3t))
            have HBB := Lib.hid (below_set3' (g := w.heap.size + 1) (u := .int .i64 2) (v := .int .i64 0) (x := .slice none 0 0) (below5 (g := w.heap.size) (a := .int .i64 0) (b := .int .i64 0) (c := .int .i64 0) (d := .int .u32 0) (e := .slice none 0 0) hbs.below (Nat.le_refl _)) (Nat.le_succ _)).drew
            clear hbs k2s k3s k3t k2t
            go_region
            go_wp2_with fail
            have r2 := R2.out
            have r3 := R3.out
            exact bodyPost_ret (v := retR 0 0 0 0 (.slice none 0 0) 2 0) (by simp [results, Try.results14, go_sem, retR, r2, r3]) rfl ⟨HBB.out, .inl ⟨0, HF.out, rfl⟩⟩
          have hbI : ¬ (e : Int) - (k : Int) - 2 < (byN l (k + 1) : Int) := by omega
          have HNX2 := Lib.hid (next_fit (l := l) (k := k) hee (by omega) (by show k + 2 + byN l (k + 1) ≤ _; omega))
          clear hcell
          obtain ⟨m, hm⟩ : ∃ m, m = byN l (k + 1) := ⟨_, rfl⟩
          have hme : k + 2 + m ≤ e := by omega
          rw [← hm] at x1 hbI y1
          have HM := Lib.hid hm
          have hcv : l.length ≤ c := HV.out.1
          have hcm : c ≤ 9223372036854775807 := HV.out.2
          clear hm hb
          go_wp2_with fail
          obtain ⟨Wc, hWc⟩ : ∃ Wc, Wc = wr.alloc (.cells #[.int .i64 (byN l k : Int), .slice none 0 0] 54) := ⟨_, rfl⟩
          have hbc := (Below.refl wr.heap.size wr).alloc (Nat.le_refl _) (.cells #[.int .i64 (byN l k : Int), .slice none 0 0] 54)
          have kC : Blk Wc wr.heap.size 54 [.int .i64 (byN l k : Int), .slice none 0 0] := by rw [hWc]; exact Blk.new wr _ _
          rw [← hWc] at hbc ⊢
          have cc1 : Wc.cell? ⟨wr.heap.size, 1, none⟩ = some (.slice none 0 0) := kC.cell 1
          have fc1 : Wc.frozen? ⟨wr.heap.size, 1, none⟩ = false := kC.free 1
          have xc1 : Wc.cell? ⟨b, off + (k + 1), none⟩ = some (.int .u8 (m : Int)) := (hbc.cell (p := ⟨b, off + (k + 1), none⟩) (by have := (HBS.out.on HBR2.out).below.size; show b < _; omega)).trans x1
          have HWc := Lib.hid hWc
          clear hWc
          have s1 : IntKind.i64.wrap ((k : Int) + 1) = (k : Int) + 1 := IntWalk.i64_in _ (by omega)
          have s2 : IntKind.i64.wrap ((k : Int) + 2) = (k : Int) + 2 := IntWalk.i64_in _ (by omega)
          have s3 : IntKind.i64.wrap ((k : Int) + 2 + (m : Int)) = (k : Int) + 2 + (m : Int) := IntWalk.i64_in _ (by omega)
          have p1 : 0 ≤ (k : Int) + 1 := by omega
          have p2 : 0 ≤ (k : Int) + 2 := by omega
          have p3 : (k : Int) + 2 ≤ (k : Int) + 2 + (m : Int) := by omega
          have p4 : (k : Int) + 2 + (m : Int) ≤ (c : Int) := by omega
          have p5 : (k : Int) + 1 < (l.length : Int) := by omega
          have t1 : ((k : Int) + 1).toNat = k + 1 := by omega
          have t2 : ((k : Int) + 2).toNat = k + 2 := by omega
          have t3 : ((k : Int) + 2 + (m : Int)).toNat = k + 2 + m := by omega
          have HNIL := Lib.hid (Own.nil Wc.drew Wc.heap.size 5)
          obtain ⟨AA, hAA⟩ : ∃ AA, (if c = k + 2 then some (⟨b, off, none⟩ : Addr) else some ⟨b, off + (k + 2), none⟩) = AA := ⟨_, rfl⟩
          have s0 : IntKind.i64.wrap (m : Int) = (m : Int) := IntWalk.i64_in _ (by omega)
          have p6 : 0 ≤ (k : Int) + 2 + (m : Int) := by omega
          have p7 : max ((k : Int) + 2 + (m : Int)) 0 = (k : Int) + 2 + (m : Int) := by omega
          have p8 : k + 2 + m - (k + 2) = m := by omega
          obtain ⟨D, hD⟩ : ∃ D, D = win l (k + 2) (k + 2 + m) := ⟨_, rfl⟩
          have HDL := Lib.hid (show m = D.length by rw [hD, win_len (by omega) (by omega)]; omega)
          have HDAT := Lib.hid (show Bytes Wc.drew AA D from by
            have h0 := At.below ((HY.out.drop (k := k + 2) hcv).take m) (HBS.out.on HBR2.out).below (Nat.le_refl _)
            have h1 := At.lift (At.below h0 (hbc.mono (HBS.out.on HBR2.out).below.size) (Nat.le_refl _)) (Nat.le_trans (HBS.out.on HBR2.out).below.size hbc.size)
            rw [hD]
            unfold win
            rw [show k + 2 + m - (k + 2) = m by omega, ← hAA]
            exact h1)
          have HDB := Lib.hid (Below.refl Wc.heap.size Wc).drew
          have HSD := Lib.hid (show ([] : List UInt8).length + D.length ≤ 140737488355328 by have := HDL.out; simp; omega)
          have HD := Lib.hid hD; have HBC := Lib.hid hbc; have HKC := Lib.hid kC
          clear hD hbc kC
          go_region_law (refine step_append_bytes isBytes (by kernel_rfl) (.tmp 118) (.tmp 131) (by kernel_rfl) Wc (.slice none 0 0) [] (by kernel_rfl) HNIL.out AA D m (c - (k + 2)) (by kernel_rfl) HDL.out HDAT.out HSD.out HDB.out ?_; intro v3 w3 ho3 hg3 hb3; have kC3 := HKC.out.below hb3 HKC.out.lt; have d31 : w3.cell? ⟨wr.heap.size, 1, none⟩ = some (.slice none 0 0) := kC3.cell 1; have d3f : w3.frozen? ⟨wr.heap.size, 1, none⟩ = false := kC3.free 1; have HKC3 := Lib.hid kC3; rw [List.nil_append] at ho3; obtain ⟨A3, c3, rfl, q1, q2⟩ := ho3.form; have HO3 := Lib.hid ho3; have HB3 := Lib.hid hb3; have HQ3 := Lib.hid (And.intro q1 q2); clear kC3 ho3 hb3 hg3 q1 q2)
          clear cc1 fc1 xc1 s1 s2 s3 p1 p2 p3 p4 p5 t1 t2 t3 hAA s0 p6 p7 p8 hcv hcm HNIL HDAT HDB HSD
          all_goals
            obtain ⟨w4, hw4⟩ : ∃ w4, w4 = w3.setCell ⟨wr.heap.size, 1, none⟩ (.slice A3 D.length c3) := ⟨_, rfl⟩
            have hg4 : w3.grownBy w4 (some wr.heap.size) := by rw [hw4]; exact grown_setCell (grown_refl _ _) _ _
            have kC4 : Blk w4 wr.heap.size 54 [.int .i64 (byN l k : Int), .slice A3 D.length c3] := by rw [hw4]; exact HKC3.out.set 1 _
            have hbw4 : Below wr.heap.size wr w4 := (HBC.out.trans (HB3.out.mono HBC.out.size)).grown hg4 (Nat.le_trans HBC.out.size HB3.out.size) (fun j hj => by cases hj; exact Nat.le_refl _)
            have hTlt := HCA2.out.1.lt
            have hWlt := HKC.out.lt
            have hca4 := HCA2.out.below hbw4
            have ho4 := HO3.out.beside hg4 hWlt
            have hs4 : w.heap.size + 5 + 1 ≤ w4.heap.size := by have := hbw4.size; omega
            rw [← hw4]
            have HCP := Lib.hid (show CpOk w4 (w.heap.size + 5 + 1) ⟨(byN l k : Int), A3, c3, D⟩ from ⟨(DX.own ho4).lower (by omega), HQ3.out.1, HQ3.out.2⟩)
            have HCA4 := Lib.hid hca4; have HKC4 := Lib.hid kC4
            have HBB := Lib.hid (show Below (cutW w4 (w.heap.size + 5 + 1)).heap.size (cutW w4 (w.heap.size + 5 + 1)) w4 by rw [cutW_size hs4]; exact cutW_below hs4)
            have HSE := Lib.hid (cutW_size hs4)
            have HSZ4 := Lib.hid (show (MN.length + 1) * 32 ≤ 140737488355328 by have := HMNL.out; omega)
            have HB4 := Lib.hid (HBR2.out.trans (hbw4.mono (by have := HBR2.out.size; have := HS4.out; omega)))
            have HLT := Lib.hid (And.intro hTlt (And.intro hWlt hbw4.size))
            have c4T : w4.cell? ⟨w.heap.size + 5, 4, none⟩ = some (.slice Ax MN.length cx) := hca4.1.cell 4
            have e40 : w4.cell? ⟨wr.heap.size, 0, none⟩ = some (.int .i64 (byN l k : Int)) := kC4.cell 0
            have e41 : w4.cell? ⟨wr.heap.size, 1, none⟩ = some (.slice A3 D.length c3) := kC4.cell 1
            clear hw4 hg4 kC4 hbw4 hTlt hWlt hca4 ho4 hs4 d31 d3f
            go_wp2_with (at_builtin; refine wpList_app_one isCap rfl (.tmp 135) (.tmp 137) rfl (cutW w4 (w.heap.size + 5 + 1)) _ MN.length (flatC MN) rfl w4 (Cp.two ⟨(byN l k : Int), A3, c3, D⟩) rfl (by rw [HSE.out]; exact HCA4.out.2.1) rfl rfl (twoC_one _) HSZ4.out HBB.out ?_)
            intro v' w5 hown5 hg5 hb5
            rw [HSE.out] at hown5 hb5
            obtain ⟨A5, c5, rfl⟩ : ∃ A5 c5, v' = .slice A5 (MN.length + 1) c5 := by
              obtain ⟨A5, c5, h9, _⟩ := (OwnC.push hown5).form
              exact ⟨A5, c5, by rw [h9, List.length_append]; rfl⟩
            have hlt5 := fun i hi => OwnC.lt HCA4.out.2.1 (k := i) hi
            have hTb := HCA4.out.1.row hg5 (fun e => by have := (hlt5 _ e).1; omega)
            have hCb := HKC4.out.row hg5 (fun e => by have := (OwnC.lt HCA2.out.2.1 (k := _) e).2; omega)
            have HPU := Lib.hid (HCA4.out.push HCP.out hown5 hg5)
            have g5 := free5 hTb
            have h5 := cells5 hTb
            have HCb := Lib.hid (hCb.grown (grown_setCell (grown_refl w5 (some (w.heap.size + 5))) 4 (.slice A5 (MN.length + 1) c5)) (by have := HLT.out.1; omega))
            have e51 : World.cell? _ ⟨wr.heap.size, 1, none⟩ = some _ := HCb.out.cell 1
            have HB5 := Lib.hid (HB4.out.trans ((((Below.refl (w.heap.size + 5) w4).grown hg5 (by have := HLT.out; omega) (fun i hi => by have := (hlt5 i hi).1; omega)).setCell (p := ⟨w.heap.size + 5, 4, none⟩) (Nat.le_refl _) (.slice A5 (MN.length + 1) c5)).mono (Nat.le_succ _)))
            have HIM := Lib.hid (show CapInv (win l (i + 2) e) ((N ++ [(⟨(byN l k : Int), A3, c3, D⟩ : Cp)]).map Cp.abs) (win l (k + 2 + m) e) from by
              have h9 := HI.out.more HNE2.out (by rw [HNX2.out])
              rw [HNX2.out] at h9
              rw [List.map_append, HM.out]
              have hd : D = win l (k + 2) (k + 2 + (l.getD (k + 1) 0).toNat) := by rw [HD.out, HM.out]; rfl
              rw [show [(⟨(byN l k : Int), A3, c3, D⟩ : Cp)].map Cp.abs = [((byN l k : Int), D)] from rfl, hd]
              exact h9)
            have HAS := Lib.hid (show MN ++ [(⟨(byN l k : Int), A3, c3, D⟩ : Cp)] = M ++ (N ++ [⟨(byN l k : Int), A3, c3, D⟩]) by rw [HMN.out, List.append_assoc])
            have hDl : D.length ≤ 255 := by have := HDL.out; omega
            have hkl : k ≤ 1000000 := by omega
            clear hown5 hg5 hb5 hlt5 hTb hCb c4T e40 e41
            go_wp2_with fail
            go_roundw
            case rel => exact ⟨HB5.out, k + 2 + m, N ++ [⟨(byN l k : Int), A3, c3, D⟩], _, by rw [← HDL.out]; go_num, by omega, hme, HIM.out, by simp; omega, by have h9 := HPU.out; rw [HAS.out] at h9; exact h9⟩
            case measure => rw [← HDL.out]; simp [intOf]; omega
        · obtain rfl : k = e := by omega
          have hI9 := HI.out
          rw [win_nil] at hI9
          have HPM := Lib.hid (show ParInv (l.drop 10) (p + 1) ((M ++ N).map Cp.abs) (l.drop k) from by
            have hd : win l (i + 2) k = (nextP (l.drop i) false).val := by rw [HNX.out, HE.out]; rfl
            have hc : capsP ((nextP (l.drop i) false).val.length + 1) (nextP (l.drop i) false).val = some (N.map Cp.abs) := by rw [← hd]; exact hI9.fin
            have h9 := HP.out.more HNE.out (by rw [HNX.out]) (by rw [HNX.out]; exact HK2.out) hc
            rw [HNX.out] at h9
            rw [List.map_append]
            have hr : l.drop k = win l (i + 2 + (l.getD (i + 1) 0).toNat) l.length := by rw [win_all, HE.out]; rfl
            rw [hr]
            exact h9)
          have hkl : k ≤ 1000000 := by have := HEL.out; omega
          clear hI9
          go_wp2_with fail
          go_roundw
          case rel => exact ⟨HBR2.out, p + 1, k, M ++ N, .slice Ax MN.length cx, rfl, by omega, HEL.out, HPM.out, by rw [← HMN.out]; have := HMNL.out; omega, by rw [← HMN.out]; exact HCA2.out⟩
          case measure => have := HEL.out; simp [intOf]; omega
    · obtain rfl : i = l.length := by omega
      have hp9 := HP.out
      rw [List.drop_length] at hp9
      have HF := Lib.hid (show readF l = .ok ⟨n1, n2, n3, n4, M.map Cp.abs⟩ by rw [HRF.out, hp9.fin])
      obtain ⟨Ax, cx, rfl, fx, gx⟩ := HCA.out.2.1.form
      have HVX := Lib.hid (And.intro fx gx)
      have hbs := HBS.out.on HBR.out
      have k7 := HCA.out.1
      have c7 := cells5 k7
      have c2 := cells5 hbs.k2
      have f2 := free5 hbs.k2
      have k2s := hbs.k2.set5 (.int .i64 (n1 : Int)) (.int .i64 (n2 : Int)) (.int .i64 (n3 : Int)) (.int .u32 (n4 : Int)) (.slice Ax M.length cx)
      have k3s := hbs.k3.grown (grown_set5 wr w.heap.size (.int .i64 (n1 : Int)) (.int .i64 (n2 : Int)) (.int .i64 (n3 : Int)) (.int .u32 (n4 : Int)) (.slice Ax M.length cx)) (by omega)
      have c3 := cells3 k3s
      have f3 := free3 k3s
      have k3t := k3s.set3 (.int .i64 0) (.int .i64 0) (.slice none 0 0)
      have k2t := k2s.grown (grown_set3 _ (w.heap.size + 1) (.int .i64 0) (.int .i64 0) (.slice none 0 0)) (by omega)
      have r2 := cells5 k2t
      have r3 := cells3 k3t
      have HBE := Lib.hid hbs.below
      have HM9 := Lib.hid (show M.length ≤ c from by have := HV.out.1; omega)
      clear hp9 hbs k7 k2s k3s k3t k2t fx gx
      go_wp2_with fail
      refine bodyPost_ret (v := retR n1 n2 n3 n4 (.slice Ax M.length cx) 0 0) (by simp [results, Try.results14, go_sem, retR, r2, r3]) rfl ⟨below_set3' (below5 HBE.out (Nat.le_refl _)) (Nat.le_succ _), .inr ⟨⟨n1, n2, n3, n4, M.map Cp.abs⟩, Ax, cx, M, HF.out, rfl, rfl, ?_, HVX.out.1, HVX.out.2, fun s hs => (HCA.out.2.2 s hs).2⟩⟩
      have ho2 : OwnC _ _ _ M := (HCA.out.2.1.beside (grown_set5 _ w.heap.size (.int .i64 (n1 : Int)) (.int .i64 (n2 : Int)) (.int .i64 (n3 : Int)) (.int .u32 (n4 : Int)) (.slice Ax M.length cx)) (by omega)).beside (grown_set3 _ (w.heap.size + 1) (.int .i64 0) (.int .i64 0) (.slice none 0 0)) (by omega)
      exact cps_in ho2 fun s hs => ⟨((HCA.out.2.2 s hs).1.grown (grown_set5 _ w.heap.size (.int .i64 (n1 : Int)) (.int .i64 (n2 : Int)) (.int .i64 (n3 : Int)) (.int .u32 (n4 : Int)) (.slice Ax M.length cx)) (by omega)).grown (grown_set3 _ (w.heap.size + 1) (.int .i64 0) (.int .i64 0) (.slice none 0 0)) (by omega), (HCA.out.2.2 s hs).2⟩
end Go.Proofs.Ytpdnpphkkobhgaa

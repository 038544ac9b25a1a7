/-
  What a candidate at a place is held against others by: the program's runner.
-/
import Derived.Test.YtpjhidicgclmbaaNumber15
import Derived.Test.YtpjhidicgclmbaaCompare15
namespace Go.Proofs.Ytpjhidicgclmbaa
set_option linter.unusedVariables false
set_option linter.unusedSimpArgs false
open Go.RowKit

/-- A runner's cells. -/
def Rn.row (x : Rn) : List Value := [.int .u32 x.near, .int .i64 x.p, .int .i64 x.c, .int .i64 x.o, .int .i64 x.m, .int .i64 x.e, .int .i64 x.i, .int .i64 x.a, .int .i64 x.r, .int .i64 x.z]
def Rn.agg (x : Rn) : Value := .agg x.row.toArray
/-- A path behind a write to a block above it. -/
theorem segs_set {w : World} {B g o : Nat} {u : Value} {A : Option Addr} {L : List Sg} (h : Segs w B A L) (hg : B ≤ g) (hB : B ≤ w.heap.size) : Segs (w.setCell ⟨g, o, none⟩ u) (w.setCell ⟨g, o, none⟩ u).heap.size A L :=
  (h.below ((Below.refl B w).setCell (p := ⟨g, o, none⟩) hg u) (Nat.le_refl _)).lift (by simpa [World.setCell] using hB)
theorem blk_other {w : World} {g T b : Nat} {cs : List Value} (h : Blk w b T cs) (hb : b ≠ g) (o : Nat) (u : Value) : Blk (w.setCell ⟨g, o, none⟩ u) b T cs := (Below.heap_setCell w ⟨g, o, none⟩ u b hb).trans h
theorem pref_in (c : Cv) {w : World} (h : c.In w w.heap.size) : 0 ≤ prefN c ∧ prefN c ≤ 9223372036854775807 := by
  have := h.pref
  unfold prefN
  split <;> omega
theorem cells10 {w : World} {g T : Nat} {u0 u1 u2 u3 u4 u5 u6 u7 u8 u9 : Value} (h : Blk w g T [u0, u1, u2, u3, u4, u5, u6, u7, u8, u9]) : w.cell? ⟨g, 0, none⟩ = some u0 ∧ w.cell? ⟨g, 1, none⟩ = some u1 ∧ w.cell? ⟨g, 2, none⟩ = some u2 ∧ w.cell? ⟨g, 3, none⟩ = some u3 ∧ w.cell? ⟨g, 4, none⟩ = some u4 ∧ w.cell? ⟨g, 5, none⟩ = some u5 ∧ w.cell? ⟨g, 6, none⟩ = some u6 ∧ w.cell? ⟨g, 7, none⟩ = some u7 ∧ w.cell? ⟨g, 8, none⟩ = some u8 ∧ w.cell? ⟨g, 9, none⟩ = some u9 := ⟨h.cell 0, h.cell 1, h.cell 2, h.cell 3, h.cell 4, h.cell 5, h.cell 6, h.cell 7, h.cell 8, h.cell 9⟩
theorem free10 {w : World} {g T : Nat} {cs : List Value} (h : Blk w g T cs) : w.frozen? ⟨g, 0, none⟩ = false ∧ w.frozen? ⟨g, 1, none⟩ = false ∧ w.frozen? ⟨g, 2, none⟩ = false ∧ w.frozen? ⟨g, 3, none⟩ = false ∧ w.frozen? ⟨g, 4, none⟩ = false ∧ w.frozen? ⟨g, 5, none⟩ = false ∧ w.frozen? ⟨g, 6, none⟩ = false ∧ w.frozen? ⟨g, 7, none⟩ = false ∧ w.frozen? ⟨g, 8, none⟩ = false ∧ w.frozen? ⟨g, 9, none⟩ = false := ⟨h.free 0, h.free 1, h.free 2, h.free 3, h.free 4, h.free 5, h.free 6, h.free 7, h.free 8, h.free 9⟩
theorem cells16 {w : World} {g T : Nat} {u0 u1 u2 u3 u4 u5 u6 u7 u8 u9 u10 u11 u12 u13 u14 u15 : Value} (h : Blk w g T [u0, u1, u2, u3, u4, u5, u6, u7, u8, u9, u10, u11, u12, u13, u14, u15]) : w.cell? ⟨g, 0, none⟩ = some u0 ∧ w.cell? ⟨g, 1, none⟩ = some u1 ∧ w.cell? ⟨g, 2, none⟩ = some u2 ∧ w.cell? ⟨g, 3, none⟩ = some u3 ∧ w.cell? ⟨g, 4, none⟩ = some u4 ∧ w.cell? ⟨g, 5, none⟩ = some u5 ∧ w.cell? ⟨g, 6, none⟩ = some u6 ∧ w.cell? ⟨g, 7, none⟩ = some u7 ∧ w.cell? ⟨g, 8, none⟩ = some u8 ∧ w.cell? ⟨g, 9, none⟩ = some u9 ∧ w.cell? ⟨g, 10, none⟩ = some u10 ∧ w.cell? ⟨g, 11, none⟩ = some u11 ∧ w.cell? ⟨g, 12, none⟩ = some u12 ∧ w.cell? ⟨g, 13, none⟩ = some u13 ∧ w.cell? ⟨g, 14, none⟩ = some u14 ∧ w.cell? ⟨g, 15, none⟩ = some u15 := ⟨h.cell 0, h.cell 1, h.cell 2, h.cell 3, h.cell 4, h.cell 5, h.cell 6, h.cell 7, h.cell 8, h.cell 9, h.cell 10, h.cell 11, h.cell 12, h.cell 13, h.cell 14, h.cell 15⟩
theorem Blk.set10 {w : World} {g T : Nat} {u0 u1 u2 u3 u4 u5 u6 u7 u8 u9 v0 v1 v2 v3 v4 v5 v6 v7 v8 v9 : Value} (h : Blk w g T [u0, u1, u2, u3, u4, u5, u6, u7, u8, u9]) : Blk (((((((((((w.setCell ⟨g, 0, none⟩ v0).setCell ⟨g, 1, none⟩ v1).setCell ⟨g, 2, none⟩ v2).setCell ⟨g, 3, none⟩ v3).setCell ⟨g, 4, none⟩ v4).setCell ⟨g, 5, none⟩ v5).setCell ⟨g, 6, none⟩ v6).setCell ⟨g, 7, none⟩ v7).setCell ⟨g, 8, none⟩ v8).setCell ⟨g, 9, none⟩ v9)) g T [v0, v1, v2, v3, v4, v5, v6, v7, v8, v9] := ((((((((((h.set 0 v0).set 1 v1).set 2 v2).set 3 v3).set 4 v4).set 5 v5).set 6 v6).set 7 v7).set 8 v8).set 9 v9)
set_option maxRecDepth 100000 in
theorem run_res24 {W : World} {g T : Nat} {v0 v1 v2 v3 v4 v5 v6 v7 v8 v9 : Value} {t : Array Value} (h : Blk W g T [v0, v1, v2, v3, v4, v5, v6, v7, v8, v9]) (ht : t.getD 4 undef = .pointer (some ⟨g, 0, none⟩)) :
    (results Try.f24 t).run Try.prog W = .ok (.agg #[v0, v1, v2, v3, v4, v5, v6, v7, v8, v9]) W := by
  have k := cells10 h
  have ht2 : t[4]?.getD undef = .pointer (some ⟨g, 0, none⟩) := by simpa using ht
  simp [results, Try.results24, go_sem, ht2, k]

set_option maxRecDepth 100000 in
set_option maxHeartbeats 6400000 in
theorem runnerOf_any (c : Cv) (z : Int) (w : World) (h : c.In w w.heap.size) (hk : CntOk c) :
    Calls Try.prog 24 #[c.agg, .int .i64 z] w fun e w' => e = .returned (keyOf c z).agg ∧ Below w.heap.size w w' := by
  have hp := pref_in c h
  have Q1 := Lib.hid (fun W => Pref_any c W)
  have Q3 := Lib.hid (fun W => Med_any c W)
  obtain ⟨P, hP⟩ : ∃ P, P = prefN c := ⟨_, rfl⟩
  obtain ⟨M, hM⟩ : ∃ M, M = medN c := ⟨_, rfl⟩
  unfold Rn.agg Rn.row keyOf
  dsimp only
  rw [← hP, ← hM]
  rw [← hP] at Q1 hp
  rw [← hM] at Q3
  clear hP hM
  have eP := IntWalk.i64_in (-P) (by omega)
  obtain ⟨h1, h2, h3, h4, h5, h6, h7, h8, h9⟩ := h
  obtain ⟨peer, ext, near, id, addr, org, pathA, pathC, path, next, med, pref, atomic, has, aas, aad, commsA, commsN, commsC, rawsA, rawsN, rawsC⟩ := c
  dsimp only at h1 h2 h3 h4 h5 h6 h7 h8 h9
  unfold Cv.agg Cv.row at *
  unfold CntOk at hk
  dsimp only at hk Q1 Q3 ⊢
  have e4 := wrap32 h4
  have e5 := wrap32 h5
  obtain ⟨N, hN⟩ : ∃ N, N = cntN path := ⟨_, rfl⟩
  have Q2 := Lib.hid (fun (W : World) (hs : Segs W W.heap.size pathA path) => Count_any pathA pathC path W hs h2.1 h2.2 hk)
  rw [← hN] at Q2 ⊢
  clear hN hk h2 h3 h4 h5 h6 h7 h8 h9 hp
  have hb0 := ((((Below.refl w.heap.size w).alloc (Nat.le_refl _) (.cells #[.int .i64 peer, .bool ext, .int .u32 near, .int .u32 id, .int .u32 addr, .int .i64 org, .slice pathA path.length pathC, .int .u32 next, .int .i64 med, .int .i64 pref, .bool atomic, .bool has, .int .u32 aas, .int .u32 aad, .slice commsA commsN commsC, .slice rawsA rawsN rawsC] 34)).alloc (by simp <;> omega) (.cells #[.int .u32 0, .int .i64 0, .int .i64 0, .int .i64 0, .int .i64 0, .int .i64 0, .int .i64 0, .int .i64 0, .int .i64 0, .int .i64 0] 53))).alloc (by simp <;> omega) (.cells #[.int .u32 near, .int .i64 0, .int .i64 0, .int .i64 0, .int .i64 0, .int .i64 0, .int .i64 0, .int .i64 0, .int .i64 0, .int .i64 0] 53)
  have kC := Blk.new w 34 [.int .i64 peer, .bool ext, .int .u32 near, .int .u32 id, .int .u32 addr, .int .i64 org, .slice pathA path.length pathC, .int .u32 next, .int .i64 med, .int .i64 pref, .bool atomic, .bool has, .int .u32 aas, .int .u32 aad, .slice commsA commsN commsC, .slice rawsA rawsN rawsC]
  have hbC := (((Below.refl _ (w.alloc (.cells #[.int .i64 peer, .bool ext, .int .u32 near, .int .u32 id, .int .u32 addr, .int .i64 org, .slice pathA path.length pathC, .int .u32 next, .int .i64 med, .int .i64 pref, .bool atomic, .bool has, .int .u32 aas, .int .u32 aad, .slice commsA commsN commsC, .slice rawsA rawsN rawsC] 34))).alloc (Nat.le_refl _) (.cells #[.int .u32 0, .int .i64 0, .int .i64 0, .int .i64 0, .int .i64 0, .int .i64 0, .int .i64 0, .int .i64 0, .int .i64 0, .int .i64 0] 53))).alloc (by simp <;> omega) (.cells #[.int .u32 near, .int .i64 0, .int .i64 0, .int .i64 0, .int .i64 0, .int .i64 0, .int .i64 0, .int .i64 0, .int .i64 0, .int .i64 0] 53)
  have kC0 := kC.below hbC (by simp <;> omega)
  have kR := Blk.new (w.alloc (.cells #[.int .i64 peer, .bool ext, .int .u32 near, .int .u32 id, .int .u32 addr, .int .i64 org, .slice pathA path.length pathC, .int .u32 next, .int .i64 med, .int .i64 pref, .bool atomic, .bool has, .int .u32 aas, .int .u32 aad, .slice commsA commsN commsC, .slice rawsA rawsN rawsC] 34)) 53 [.int .u32 0, .int .i64 0, .int .i64 0, .int .i64 0, .int .i64 0, .int .i64 0, .int .i64 0, .int .i64 0, .int .i64 0, .int .i64 0]
  have kR0 := kR.below ((Below.refl _ ((w.alloc (.cells #[.int .i64 peer, .bool ext, .int .u32 near, .int .u32 id, .int .u32 addr, .int .i64 org, .slice pathA path.length pathC, .int .u32 next, .int .i64 med, .int .i64 pref, .bool atomic, .bool has, .int .u32 aas, .int .u32 aad, .slice commsA commsN commsC, .slice rawsA rawsN rawsC] 34)).alloc (.cells #[.int .u32 0, .int .i64 0, .int .i64 0, .int .i64 0, .int .i64 0, .int .i64 0, .int .i64 0, .int .i64 0, .int .i64 0, .int .i64 0] 53))).alloc (Nat.le_refl _) (.cells #[.int .u32 near, .int .i64 0, .int .i64 0, .int .i64 0, .int .i64 0, .int .i64 0, .int .i64 0, .int .i64 0, .int .i64 0, .int .i64 0] 53)) (by simp)
  have kr0 := Blk.new ((w.alloc (.cells #[.int .i64 peer, .bool ext, .int .u32 near, .int .u32 id, .int .u32 addr, .int .i64 org, .slice pathA path.length pathC, .int .u32 next, .int .i64 med, .int .i64 pref, .bool atomic, .bool has, .int .u32 aas, .int .u32 aad, .slice commsA commsN commsC, .slice rawsA rawsN rawsC] 34)).alloc (.cells #[.int .u32 0, .int .i64 0, .int .i64 0, .int .i64 0, .int .i64 0, .int .i64 0, .int .i64 0, .int .i64 0, .int .i64 0, .int .i64 0] 53)) 53 [.int .u32 near, .int .i64 0, .int .i64 0, .int .i64 0, .int .i64 0, .int .i64 0, .int .i64 0, .int .i64 0, .int .i64 0, .int .i64 0]
  have e1 : (w.alloc (.cells #[.int .i64 peer, .bool ext, .int .u32 near, .int .u32 id, .int .u32 addr, .int .i64 org, .slice pathA path.length pathC, .int .u32 next, .int .i64 med, .int .i64 pref, .bool atomic, .bool has, .int .u32 aas, .int .u32 aad, .slice commsA commsN commsC, .slice rawsA rawsN rawsC] 34)).heap.size = w.heap.size + 1 := by simp
  have e2 : ((w.alloc (.cells #[.int .i64 peer, .bool ext, .int .u32 near, .int .u32 id, .int .u32 addr, .int .i64 org, .slice pathA path.length pathC, .int .u32 next, .int .i64 med, .int .i64 pref, .bool atomic, .bool has, .int .u32 aas, .int .u32 aad, .slice commsA commsN commsC, .slice rawsA rawsN rawsC] 34)).alloc (.cells #[.int .u32 0, .int .i64 0, .int .i64 0, .int .i64 0, .int .i64 0, .int .i64 0, .int .i64 0, .int .i64 0, .int .i64 0, .int .i64 0] 53)).heap.size = w.heap.size + 1 + 1 := by simp
  rw [e1] at kR0
  rw [e2] at kr0
  have HB0 := Lib.hid hb0; have KC0 := Lib.hid kC0; have KR0 := Lib.hid kR0; have Kr0 := Lib.hid kr0; have HP := Lib.hid h1
  clear hb0 kC hbC kC0 kR kR0 kr0 e1 e2 h1
  go_enter Try.func24, Try.ntmps24
  go_wp2_with fail
  refine (Q1.out _).mono ?_
  rintro e w1 ⟨rfl, hb1⟩
  have HB1 := Lib.hid (HB0.out.trans (hb1.mono HB0.out.size))
  have KC1 := Lib.hid (KC0.out.below hb1 (by simp <;> omega))
  have KR1 := Lib.hid (KR0.out.below hb1 (by simp <;> omega))
  have Kr1 := Lib.hid (Kr0.out.below hb1 (by simp <;> omega))
  clear hb1 KC0 KR0 Kr0 HB0 Q1
  have c6 : w1.cell? ⟨w.heap.size, 6, none⟩ = some _ := KC1.out.cell 6
  have r1 : w1.cell? ⟨w.heap.size + 1 + 1, 1, none⟩ = some _ := Kr1.out.cell 1
  have f1 : w1.frozen? ⟨w.heap.size + 1 + 1, 1, none⟩ = false := Kr1.out.free 1
  have HQ2 := Lib.hid (Q2.out (w1.setCell ⟨w.heap.size + 1 + 1, 1, none⟩ (.int .i64 (-P))) (segs_set (HP.out.below HB1.out (Nat.le_refl _)) (by omega) HB1.out.size))
  have HS1 := Lib.hid (HB1.out.setCell (p := ⟨w.heap.size + 1 + 1, 1, none⟩) (by show w.heap.size ≤ w.heap.size + 1 + 1; omega) (.int .i64 (-P)))
  have KC2 := Lib.hid (blk_other KC1.out (show w.heap.size ≠ w.heap.size + 1 + 1 by omega) 1 (.int .i64 (-P)))
  have KR2 := Lib.hid (blk_other KR1.out (show w.heap.size + 1 ≠ w.heap.size + 1 + 1 by omega) 1 (.int .i64 (-P)))
  have Kr2 := Lib.hid (Kr1.out.set 1 (.int .i64 (-P)))
  clear Q2 HB1 KC1 KR1 Kr1
  go_wp2_with fail
  refine HQ2.out.mono ?_
  rintro e w2 ⟨rfl, hb2⟩
  have HB2 := Lib.hid (HS1.out.trans (hb2.mono HS1.out.size))
  have KC3 := Lib.hid (KC2.out.below hb2 KC2.out.lt)
  have KR3 := Lib.hid (KR2.out.below hb2 KR2.out.lt)
  have Kr3 := Lib.hid (Kr2.out.below hb2 Kr2.out.lt)
  clear c6 r1 f1 hb2 HQ2 HS1 KC2 KR2 Kr2
  have kc := cells16 KC3.out
  have r2 : w2.cell? ⟨w.heap.size + 1 + 1, 2, none⟩ = some _ := Kr3.out.cell 2
  have f2 : w2.frozen? ⟨w.heap.size + 1 + 1, 2, none⟩ = false := Kr3.out.free 2
  have r3 : w2.cell? ⟨w.heap.size + 1 + 1, 3, none⟩ = some _ := Kr3.out.cell 3
  have f3 : w2.frozen? ⟨w.heap.size + 1 + 1, 3, none⟩ = false := Kr3.out.free 3
  have HS2 := Lib.hid ((HB2.out.setCell (p := ⟨w.heap.size + 1 + 1, 2, none⟩) (by show w.heap.size ≤ w.heap.size + 1 + 1; omega) (.int .i64 (N : Int))).setCell (p := ⟨w.heap.size + 1 + 1, 3, none⟩) (by show w.heap.size ≤ w.heap.size + 1 + 1; omega) (.int .i64 org))
  have KC4 := Lib.hid (blk_other (blk_other KC3.out (show w.heap.size ≠ w.heap.size + 1 + 1 by omega) 2 (.int .i64 (N : Int))) (show w.heap.size ≠ w.heap.size + 1 + 1 by omega) 3 (.int .i64 org))
  have KR4 := Lib.hid (blk_other (blk_other KR3.out (show w.heap.size + 1 ≠ w.heap.size + 1 + 1 by omega) 2 (.int .i64 (N : Int))) (show w.heap.size + 1 ≠ w.heap.size + 1 + 1 by omega) 3 (.int .i64 org))
  have Kr4 := Lib.hid ((Kr3.out.set 2 (.int .i64 (N : Int))).set 3 (.int .i64 org))
  clear HB2 KC3 KR3 Kr3
  go_wp2_with fail
  refine (Q3.out _).mono ?_
  rintro e w3 ⟨rfl, hb3⟩
  have HB3 := Lib.hid (HS2.out.trans (hb3.mono HS2.out.size))
  have KC5 := Lib.hid (KC4.out.below hb3 KC4.out.lt)
  have KR5 := Lib.hid (KR4.out.below hb3 KR4.out.lt)
  have Kr5 := Lib.hid (Kr4.out.below hb3 Kr4.out.lt)
  clear kc r2 f2 r3 f3 hb3 HS2 KC4 KR4 Kr4 Q3
  simp only [List.set] at Kr5
  have c0 : w3.cell? ⟨w.heap.size, 0, none⟩ = some _ := KC5.out.cell 0
  have c1 : w3.cell? ⟨w.heap.size, 1, none⟩ = some _ := KC5.out.cell 1
  have c3 : w3.cell? ⟨w.heap.size, 3, none⟩ = some _ := KC5.out.cell 3
  have c4 : w3.cell? ⟨w.heap.size, 4, none⟩ = some _ := KC5.out.cell 4
  have kr := cells10 Kr5.out
  have fr := free10 Kr5.out
  have kR := cells10 KR5.out
  have fR := free10 KR5.out
  clear KC5
  cases ext with
  | true =>
    go_wp2_with fail
    have r_ := HB3.out
    refine bodyPost_ret (v := .agg #[.int .u32 near, .int .i64 (-P), .int .i64 (N : Int), .int .i64 org, .int .i64 M, .int .i64 0, .int .i64 id, .int .i64 addr, .int .i64 peer, .int .i64 z]) (run_res24 (g := w.heap.size + 1) (T := 53) ?_ rfl) rfl ⟨rfl, ?_⟩
    · refine Blk.set10 (u0 := .int .u32 0) (u1 := .int .i64 0) (u2 := .int .i64 0) (u3 := .int .i64 0) (u4 := .int .i64 0) (u5 := .int .i64 0) (u6 := .int .i64 0) (u7 := .int .i64 0) (u8 := .int .i64 0) (u9 := .int .i64 0) ?_
      repeat (refine blk_other ?_ (by omega) _ _)
      exact KR5.out
    · repeat (refine Below.setCell ?_ (by show w.heap.size ≤ _ + _; omega) _)
      exact HB3.out
  | false =>
    go_wp2_with fail
    have r_ := HB3.out
    refine bodyPost_ret (v := .agg #[.int .u32 near, .int .i64 (-P), .int .i64 (N : Int), .int .i64 org, .int .i64 M, .int .i64 1, .int .i64 id, .int .i64 addr, .int .i64 peer, .int .i64 z]) (run_res24 (g := w.heap.size + 1) (T := 53) ?_ rfl) rfl ⟨rfl, ?_⟩
    · refine Blk.set10 (u0 := .int .u32 0) (u1 := .int .i64 0) (u2 := .int .i64 0) (u3 := .int .i64 0) (u4 := .int .i64 0) (u5 := .int .i64 0) (u6 := .int .i64 0) (u7 := .int .i64 0) (u8 := .int .i64 0) (u9 := .int .i64 0) ?_
      repeat (refine blk_other ?_ (by omega) _ _)
      exact KR5.out
    · repeat (refine Below.setCell ?_ (by show w.heap.size ≤ _ + _; omega) _)
      exact HB3.out
end Go.Proofs.Ytpjhidicgclmbaa

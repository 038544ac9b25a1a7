/-
  Texts of this seat, put together: UReadQ5.
-/
import Derived.Test.YtnaangnmlbgmkaaGreatDoorMg22
import Derived.Test.YtnaangnmlbgmkaaGreatDoorMg19
import Derived.Test.YtnaangnmlbgmkaaGreatDoorMg4
import Derived.Test.YtnaangnmlbgmkaaGreatDoorMg15
import Derived.Test.YtnaangnmlbgmkaaGreatDoorURead5Mg
import Derived.Test.YtnaangnmlbgmkaaGreatDoorMg26
/-
  A body that says what comes: what update.Read tells an outer reader, in rows of one's own.
-/
namespace Go.Proofs.YtnaangnmlbgmkaaGreatDoor
set_option linter.unusedVariables false
set_option linter.unusedSimpArgs false
open Go.RowKit

set_option maxHeartbeats 12800000 in
set_option maxRecDepth 100000 in
theorem URead_outerP (A : Option Addr) (c : Nat) (l said : List UInt8) (G N : List Px) (S : Rs) (inner : Bool) (w : World) (h : Bytes w A l) (hc : l.length ≤ c) (hm : c ≤ maxLen) (hl : l = updB (pxB G) said (pxB N)) (hG : pxsOk G = true) (hGf : ∀ x ∈ G, PxFit x) (hN : pxsOk N = true) (hNf : ∀ x ∈ N, PxFit x)
    (hlen : l.length ≤ 100000) (hgl : (pxB G).length < 65536) (hsl : said.length < 65536) (hGl : G.length ≤ 1000000) (hNl : N.length ≤ 1000000)
    (hA : ∀ (W : World) (B : Option Addr) (d : Nat), Below w.heap.size w W → Bytes W B said → said.length ≤ d → d ≤ maxLen → Calls Tryz.prog 31 #[.slice B said.length d, .bool true] W (RetRdR W S)) (hN0 : N ≠ []) (hi : inner = false) (hks : S.kinds.length ≤ 1000000 ∧ (1 ∈ S.kinds ∧ 2 ∈ S.kinds ∧ 3 ∈ S.kinds)) :
    Calls Tryz.prog 12 #[.slice A l.length c, .bool true, .bool inner, .int .u32 0] w fun e w' => ∃ u : Uv, e = .returned (.tuple #[.agg u.row.toArray, fault0]) ∧ (u.In w' w'.heap.size ∧ RowsP w.heap.size w' u) ∧ Below w.heap.size w w' ∧ u.gone = G ∧ u.news = N ∧ u.attrs.org = (S.org : Int) ∧ u.attrs.path.map Sg.abs = S.path ∧ u.attrs.next = (S.next : Int) ∧ u.attrs.med = S.med ∧ u.attrs.pref = -1 ∧ u.attrs.atomic = S.atomic ∧ u.attrs.has = S.has ∧ u.attrs.aas = (S.aas : Int) ∧ u.attrs.aad = (S.aad : Int) ∧ u.attrs.comms = S.comms ∧ u.attrs.raws.map Rw.abs = S.raws := by
  have hb0 := ((Below.refl w.heap.size w).alloc (Nat.le_refl _) (.cells noneU.toArray 30)).alloc (by simp) (.cells #[.int .i64 0, .int .i64 0, .slice none 0 0] 43)
  obtain ⟨W0, hW0⟩ : ∃ W0, W0 = (w.alloc (.cells noneU.toArray 30)).alloc (.cells #[.int .i64 0, .int .i64 0, .slice none 0 0] 43) := ⟨_, rfl⟩
  have kr : Blk W0 w.heap.size 30 noneU := by
    rw [hW0]
    exact (Blk.new w _ _).below ((Below.refl _ _).alloc (Nat.le_refl _) _) (by simp)
  have kf : Blk W0 (w.heap.size + 1) 43 [.int .i64 0, .int .i64 0, .slice none 0 0] := by
    have := Blk.new (w.alloc (.cells noneU.toArray 30)) 43 [.int .i64 0, .int .i64 0, .slice none 0 0]
    rw [hW0]
    simpa using this
  rw [← hW0] at hb0
  have hz : W0.heap.size = w.heap.size + 2 := by rw [hW0]; simp
  have QN := Lib.hid (New_any A l.length c l rfl W0 (h.below hb0) hc hm)
  have HW0 := Lib.hid (show W0 = (w.alloc (.cells #[.slice none 0 0, .int .i64 0, .slice none 0 0, .int .u32 0, .int .i64 0, .int .i64 0, .bool false, .bool false, .int .u32 0, .int .u32 0, .slice none 0 0, .slice none 0 0, .slice none 0 0] 30)).alloc (.cells #[.int .i64 0, .int .i64 0, .slice none 0 0] 43) from hW0)
  have HB0 := Lib.hid hb0; have HKR := Lib.hid kr; have HKF := Lib.hid kf; have HZ := Lib.hid hz
  have HLL := Lib.hid (show 4 + (pxB G).length + said.length + (pxB N).length ≤ 100000 by rw [← updB_len5, ← hl]; exact hlen)
  have e1 : rdTake l false 2 = (be16 ((pxB G).length : Int), pxB G ++ (be16 (said.length : Int) ++ (said ++ pxB N)), false) := by rw [hl]; exact rdTake_appP _ _ 2 rfl
  have E1 := Lib.hid e1
  have HGL := Lib.hid (num_be16 hgl).1; have HSL := Lib.hid (num_be16 hsl).1
  have HLN := Lib.hid hlen
  have QA := Lib.hid hA
  have HP := Lib.hid (And.intro hG (And.intro hGf (And.intro hN (And.intro hNf (And.intro hGl hNl)))))
  have HN0 := Lib.hid hN0; have HKS := Lib.hid hks; clear hN0 hks
  clear h hc hm hl hG hGf hN hNf hlen hgl hsl hA hb0 hW0 kr kf hz e1 hGl hNl
  go_enter Tryz.func12, Tryz.ntmps12
  go_wp2_with (rw [← HW0.out])
  refine QN.out.mono ?_
  rintro e w1 ⟨rfl, hr1, hb1⟩
  have R1 := Lib.hid hr1; have B1 := Lib.hid hb1
  clear hr1 hb1 QN HW0
  -- how many bytes go
  have q2 := U16_any _ _ _ _ _ R1.out
  rw [E1.out] at q2
  have Q2 := Lib.hid q2
  clear q2
  go_wp2_with fail
  refine Q2.out.mono ?_
  rintro e w2 ⟨rfl, hr2, hg2⟩
  rw [HGL.out]
  have q3 := Take_any (((pxB G).length : Nat) : Int) _ _ _ _ w2 hr2 (by have := HLL.out; simp only [List.length_append, be16_len]; omega)
  rw [rdTake_appP _ _ _ rfl] at q3
  have Q3 := Lib.hid q3
  have B2 := Lib.hid (B1.out.trans (below_of_grown hg2 B1.out.size (Nat.le_refl _)))
  clear hr2 hg2 q3 Q2
  go_wp2_with fail
  refine Q3.out.mono ?_
  rintro e w3 ⟨A3, c3, rfl, f1, f2, ho3, hr3, hg3⟩
  (try dsimp only at hr3)
  have R3 := Lib.hid hr3; have O3 := Lib.hid ho3; have HC3 := Lib.hid (And.intro f1 f2)
  have B3 := Lib.hid (B2.out.trans (below_of_grown hg3 B2.out.size (Nat.le_refl _)))
  clear hr3 hg3 ho3 f1 f2 Q3
  -- how many are said
  have q4 := U16_any _ _ _ _ _ R3.out
  have e4 : rdTake (be16 (said.length : Int) ++ (said ++ pxB N)) false 2 = (be16 (said.length : Int), said ++ pxB N, false) := rdTake_appP _ _ 2 rfl
  rw [e4] at q4
  clear e4
  have Q4 := Lib.hid q4
  clear q4
  go_wp2_with fail
  refine Q4.out.mono ?_
  rintro e w4 ⟨rfl, hr4, hg4⟩
  rw [HSL.out]
  have q5 := Take_any ((said.length : Nat) : Int) _ _ _ _ w4 hr4 (by have := HLL.out; simp only [List.length_append]; omega)
  rw [rdTake_appP _ _ _ rfl] at q5
  have Q5 := Lib.hid q5
  have B4 := Lib.hid (B3.out.trans (below_of_grown hg4 B3.out.size (Nat.le_refl _)))
  have O4 := Lib.hid (own_past O3.out R3.out hg4)
  have R4 := Lib.hid hr4
  clear hr4 hg4 q5 Q4 O3
  go_wp2_with fail
  refine Q5.out.mono ?_
  rintro e w5 ⟨A5, c5, rfl, f1, f2, ho5, hr5, hg5⟩
  (try dsimp only at hr5)
  have R5 := Lib.hid hr5; have O5 := Lib.hid ho5; have HC5 := Lib.hid (And.intro f1 f2)
  have B5 := Lib.hid (B4.out.trans (below_of_grown hg5 B4.out.size (Nat.le_refl _)))
  have O35 := Lib.hid (own_past O4.out R4.out hg5)
  clear hr5 hg5 ho5 f1 f2 Q5 O4
  go_wp2_with fail
  refine (Err_any _ _ _ _ _ R5.out).mono ?_
  rintro e wx ⟨rfl, rfl⟩
  simp only [errN]
  have QG := Lib.hid (List_ok A3 c3 (pxB G) G w5 O35.out.bytes HC3.out.1 HC3.out.2 rfl HP.out.1 HP.out.2.1 (by have := HLL.out; omega) HP.out.2.2.2.2.1)
  go_wp2_with fail
  refine QG.out.mono ?_
  rintro e w6 ⟨A6, c6, rfl, f1, f2, ho6, hb6⟩
  have O6 := Lib.hid ho6; have HC6 := Lib.hid (And.intro f1 f2)
  have B6 := Lib.hid (B5.out.trans (hb6.mono B5.out.size))
  have R6 := Lib.hid (R5.out.below hb6 R5.out.lt)
  have O56 := Lib.hid (row_below O5.out hb6)
  clear ho6 f1 f2 hb6 QG O35 O5
  have BW := Lib.hid (fun (W : World) (q : Below W0.heap.size W0 W) => HB0.out.trans (q.mono HB0.out.size))
  have Q7 := Lib.hid (QA.out w6 A5 c5 (BW.out _ B6.out) (Own.bytes O56.out) HC5.out.1 HC5.out.2)
  go_wp2_with fail
  refine Q7.out.mono ?_
  rintro e w7 ⟨pA, pn, pc, cA, cn, cc, rA, rn, rc, kA, kc, wv, av, rfl, hrows, hb7⟩
  have O7 := Lib.hid (row_below O6.out hb7)
  have R7 := Lib.hid (R6.out.below hb7 R6.out.lt)
  have R7lt := Lib.hid R7.out.lt
  have B7 := Lib.hid (B6.out.trans (hb7.mono B6.out.size))
  obtain ⟨W7, hW7⟩ : ∃ W7, W7 = (w7.alloc (.cells [.int .i64 (S.org : Int), .slice pA pn pc, .int .u32 (S.next : Int), .int .i64 S.med, .int .i64 S.pref, .bool S.atomic, .bool S.has, .int .u32 (S.aas : Int), .int .u32 (S.aad : Int), .slice cA cn cc, .slice rA rn rc].toArray 28)).alloc (.cells #[.int .i64 0, .int .i64 0, .slice none 0 0] 43) := ⟨_, rfl⟩
  have hb8 : Below w7.heap.size w7 W7 := by rw [hW7]; exact ((Below.refl _ _).alloc (Nat.le_refl _) _).alloc (by simp) _
  have kx : Blk W7 w7.heap.size 28 [.int .i64 (S.org : Int), .slice pA pn pc, .int .u32 (S.next : Int), .int .i64 S.med, .int .i64 S.pref, .bool S.atomic, .bool S.has, .int .u32 (S.aas : Int), .int .u32 (S.aad : Int), .slice cA cn cc, .slice rA rn rc] := by
    rw [hW7]
    exact (Blk.new w7 _ _).below ((Below.refl _ _).alloc (Nat.le_refl _) _) (by simp)
  have kf : Blk W7 (w7.heap.size + 1) 43 [.int .i64 0, .int .i64 0, .slice none 0 0] := by
    have := Blk.new (w7.alloc (.cells [.int .i64 (S.org : Int), .slice pA pn pc, .int .u32 (S.next : Int), .int .i64 S.med, .int .i64 S.pref, .bool S.atomic, .bool S.has, .int .u32 (S.aas : Int), .int .u32 (S.aad : Int), .slice cA cn cc, .slice rA rn rc].toArray 28)) 43 [.int .i64 0, .int .i64 0, .slice none 0 0]
    rw [hW7]
    simpa using this
  have O8 := Lib.hid (row_below O7.out hb8)
  have R8 := Lib.hid (R7.out.below hb8 R7.out.lt)
  have B8 := Lib.hid (B7.out.trans (hb8.mono B7.out.size))
  have KX := Lib.hid kx
  have RW8 := Lib.hid (hrows.below hb8)
  have B7s := Lib.hid (show W0.heap.size ≤ w7.heap.size from B7.out.size)
  have f0 : W7.cell? ⟨w7.heap.size + 1, 0, none⟩ = some (.int .i64 0) := kf.cell 0
  have HW7 := Lib.hid hW7
  unfold fault0
  clear hW7 hrows hb7 hb8 kx kf Q7 O6 O56 O7 R6 R7 QA
  rw [HW7.out] at f0
  go_wp2_with fail
  rw [← HW7.out]
  -- what comes
  refine (Left_any _ _ _ _ _ R8.out).mono ?_
  rintro e wx ⟨rfl, rfl⟩
  have q9 := Take_any (((pxB N).length : Nat) : Int) _ _ _ _ _ R8.out (by have := HLL.out; omega)
  have e9 : rdTake (pxB N) false (((pxB N).length : Nat) : Int) = (pxB N, [], false) := by
    have h := rdTake_appP (pxB N) [] (pxB N).length rfl
    rwa [List.append_nil] at h
  rw [e9] at q9
  have Q9 := Lib.hid q9
  clear q9 e9
  go_wp2_with fail
  refine Q9.out.mono ?_
  rintro e w9 ⟨A9, c9, rfl, f1, f2, ho9, hr9, hg9⟩
  have O9 := Lib.hid (own_pastP O8.out R8.out hg9)
  have B9 := Lib.hid (B8.out.trans (below_of_grown hg9 B8.out.size (Nat.le_refl _)))
  have KX9 := Lib.hid (KX.out.grown hg9 (by have := R7lt.out; omega))
  obtain ⟨_, Ar9, cr9, krd9, _⟩ := R8.out
  have RW9 := Lib.hid (RW8.out.keep krd9 (by decide) (by decide) (by decide) (by decide) (by decide) hg9)
  clear krd9
  have QL := Lib.hid (List_ok A9 c9 (pxB N) N w9 ho9.bytes f1 f2 rfl HP.out.2.2.1 HP.out.2.2.2.1 (by have := HLL.out; omega) HP.out.2.2.2.2.2)
  clear ho9 hr9 hg9 f1 f2 Q9 KX O8 f0
  go_wp2_with fail
  refine QL.out.mono ?_
  rintro e w10 ⟨A10, c10, rfl, f1, f2, ho10, hb10⟩
  have O10 := Lib.hid (row_below O9.out hb10); have P10 := Lib.hid ho10
  have B10 := Lib.hid (B9.out.trans (hb10.mono B9.out.size))
  have KX10 := Lib.hid (KX9.out.below hb10 KX9.out.lt)
  have RW10 := Lib.hid (RW9.out.below hb10)
  have HC10 := Lib.hid (And.intro f1 f2)
  clear ho10 hb10 f1 f2 O9 KX9 QL
  subst hi
  have hnl : 0 < N.length := List.length_pos_iff.2 HN0.out
  have hnz : ((N.length : Int) == 0) = false := by rw [beq_eq_false_iff_ne]; omega
  obtain ⟨M, L, hpn, hcn, hrn, hM, hL, hin⟩ := in_rows RW10.out
  obtain ⟨x, hx⟩ : ∃ x : Av, x = ⟨(S.org : Int), pA, pc, M, (S.next : Int), S.med, S.pref, S.atomic, S.has, (S.aas : Int), (S.aad : Int), cA, cc, S.comms, rA, rc, L⟩ := ⟨_, rfl⟩
  rw [← hx] at hin
  have hrow : x.row = [.int .i64 (S.org : Int), .slice pA pn pc, .int .u32 (S.next : Int), .int .i64 S.med, .int .i64 S.pref, .bool S.atomic, .bool S.has, .int .u32 (S.aas : Int), .int .u32 (S.aad : Int), .slice cA cn cc, .slice rA rn rc] := by
    rw [hx]
    unfold Av.row
    dsimp only
    rw [hpn, hcn, hrn]
  have HXV := Lib.hid (av_blk (show Blk w10 w7.heap.size 28 x.row by rw [hrow]; exact KX10.out))
  have HROW := Lib.hid hrow
  have QU := Lib.hid (unfit_ok x kA kc S.kinds false w10 hin (at64_own RW10.out.kinds) HKS.out.1 HKS.out.2 (fun h => by cases h))
  obtain ⟨x2, hx2⟩ : ∃ x2 : Av, x2 = ⟨(S.org : Int), pA, pc, M, (S.next : Int), S.med, -1, S.atomic, S.has, (S.aas : Int), (S.aad : Int), cA, cc, S.comms, rA, rc, L⟩ := ⟨_, rfl⟩
  have hrow2 : x2.row = [.int .i64 (S.org : Int), .slice pA pn pc, .int .u32 (S.next : Int), .int .i64 S.med, .int .i64 (-1), .bool S.atomic, .bool S.has, .int .u32 (S.aas : Int), .int .u32 (S.aad : Int), .slice cA cn cc, .slice rA rn rc] := by
    rw [hx2]
    unfold Av.row
    dsimp only
    rw [hpn, hcn, hrn]
  have HROW2 := Lib.hid hrow2
  clear hpn hcn hrn hM hL hin hx hrow hx2 hrow2
  go_wp2_with (refine wpList_loadA _ rfl (.tmp 15) rfl w7.heap.size 0 x rfl HXV.out ?_)
  refine QU.out.mono ?_
  rintro e w11 ⟨rfl, hb11⟩
  have B11 := Lib.hid (B10.out.trans (hb11.mono B10.out.size))
  have O11 := Lib.hid (row_below O10.out hb11); have P11 := Lib.hid (row_below P10.out hb11)
  have RW11 := Lib.hid (RW10.out.below hb11)
  have KX11 := Lib.hid (KX10.out.below hb11 KX10.out.lt)
  clear hb11 QU O10 P10 RW10 HXV
  obtain ⟨W12, hW12⟩ : ∃ W12, W12 = w11.alloc (.cells #[.int .i64 0, .int .i64 0, .slice none 0 0] 43) := ⟨_, rfl⟩
  have hb12 : Below w11.heap.size w11 W12 := by rw [hW12]; exact (Below.refl _ _).alloc (Nat.le_refl _) _
  have f0 : W12.cell? ⟨w11.heap.size, 0, none⟩ = some (.int .i64 0) := by rw [hW12]; exact (Blk.new w11 43 [.int .i64 0, .int .i64 0, .slice none 0 0]).cell 0
  have B12 := Lib.hid (B11.out.trans (hb12.mono B11.out.size))
  have O12 := Lib.hid (row_below O11.out hb12); have P12 := Lib.hid (row_below P11.out hb12)
  have RW12 := Lib.hid (RW11.out.below hb12)
  have KX12 := Lib.hid ((KX11.out.below hb12 KX11.out.lt))
  have HW12 := Lib.hid hW12
  have kR := HKR.out.below B12.out (by have := HZ.out; omega)
  have kF := HKF.out.below B12.out (by have := HZ.out; omega)
  have KR12 := Lib.hid kR; have KF12 := Lib.hid kF
  obtain ⟨W13, hW13⟩ : ∃ W13, W13 = W12.setCell ⟨w7.heap.size, 4, none⟩ (.int .i64 (-1)) := ⟨_, rfl⟩
  have hgs : W12.grownBy W13 (some w7.heap.size) := by rw [hW13]; exact grown_setCell (grown_refl _ _) 4 _
  have hw7 : w.heap.size + 2 ≤ w7.heap.size := by have := HZ.out; have := B7s.out; omega
  have c4 : W12.cell? ⟨w7.heap.size, 4, none⟩ = some (.int .i64 S.pref) := KX12.out.cell 4
  have fr4 : W12.frozen? ⟨w7.heap.size, 4, none⟩ = false := KX12.out.free 4
  have KX13 := Lib.hid (show Blk W13 w7.heap.size 28 [.int .i64 (S.org : Int), .slice pA pn pc, .int .u32 (S.next : Int), .int .i64 S.med, .int .i64 (-1), .bool S.atomic, .bool S.has, .int .u32 (S.aas : Int), .int .u32 (S.aad : Int), .slice cA cn cc, .slice rA rn rc] by rw [hW13]; exact KX12.out.set 4 _)
  have HXV3 := Lib.hid (av_blk (show Blk W13 w7.heap.size 28 x2.row by rw [HROW2.out]; exact KX13.out))
  have B13 := Lib.hid (B12.out.trans (below_of_grown hgs B12.out.size (by have := B7s.out; omega)))
  have O13a := Lib.hid (row_keep O12.out KX12.out (by decide) hgs)
  have P13a := Lib.hid (row_keep P12.out KX12.out (by decide) hgs)
  have RW13a := Lib.hid (RW12.out.keep KX12.out (by decide) (by decide) (by decide) (by decide) (by decide) hgs)
  have KR13 := Lib.hid (KR12.out.grown hgs (by omega)); have KF13 := Lib.hid (KF12.out.grown hgs (by omega))
  rw [hW12] at hW13 c4 fr4
  have HW13 := Lib.hid hW13
  clear hb12 hW12 hW13 hgs B11 O11 P11 RW11 KX11 kR kF KR12 KF12 O12 P12 RW12 KX12 KX10
  rw [HW12.out] at f0
  unfold fault0
  go_wp2_with (first
    | (rw [← HW13.out]; refine wpList_loadA _ rfl (.tmp 15) rfl w7.heap.size 0 x2 rfl HXV3.out ?_)
    | (refine wpList_buildU _ rfl (.tmp 87) (.tmp 88) (.tmp 89) rfl ⟨A6, c6, G, x2, A10, c10, N⟩ rfl rfl rfl ?_)
    | (refine wpList_storeU _ rfl rfl (.tmp 8) (.tmp 90) rfl w.heap.size 30 noneU ⟨A6, c6, G, x2, A10, c10, N⟩ rfl rfl KR13.out rfl ?_))
  intro w13 k13 hg13
  have kf13 := KF13.out.grown hg13 (by omega)
  have ff := free3 kf13
  have cf := cells3 kf13
  have O13 := Lib.hid (row_keep O13a.out KR13.out (by decide) hg13)
  have P13 := Lib.hid (row_keep P13a.out KR13.out (by decide) hg13)
  have RW13 := Lib.hid (RW13a.out.keep KR13.out (by decide) (by decide) (by decide) (by decide) (by decide) hg13)
  have hgf := grown_set3 w13 (w.heap.size + 1) (.int .i64 0) (.int .i64 0) (.slice none 0 0)
  have k14 : Blk _ w.heap.size 30 _ := k13.grown hgf (by omega)
  unfold Uv.row at k14
  rw [HROW2.out] at k14
  have ra := cells13 (show Blk _ w.heap.size 30 [.slice A6 G.length c6, .int .i64 (S.org : Int), .slice pA pn pc, .int .u32 (S.next : Int), .int .i64 S.med, .int .i64 (-1), .bool S.atomic, .bool S.has, .int .u32 (S.aas : Int), .int .u32 (S.aad : Int), .slice cA cn cc, .slice rA rn rc, .slice A10 N.length c10] from k14)
  have rf := cells3 (kf13.set3 (.int .i64 0) (.int .i64 0) (.slice none 0 0))
  have O14 := Lib.hid (row_keep O13.out kf13 (by decide) hgf)
  have P14 := Lib.hid (row_keep P13.out kf13 (by decide) hgf)
  have RW14 := Lib.hid (RW13.out.keep kf13 (by decide) (by decide) (by decide) (by decide) (by decide) hgf)
  have BF := Lib.hid (((BW.out _ B13.out).grown hg13 (BW.out _ B13.out).size (fun k hk => by cases hk; exact Nat.le_refl _)).grown hgf (Nat.le_trans (BW.out _ B13.out).size hg13.size) (fun k hk => by cases hk; omega))
  have HRA := Lib.hid ra; have HRF := Lib.hid rf
  clear k13 k14 hg13 kf13 hgf ra rf O13 P13 RW13
  go_wp2_with fail
  have ra := HRA.out
  have rf := HRF.out
  obtain ⟨M2, L2, hpn, hcn, hrn, hM, hL, hin⟩ := in_rows RW14.out
  refine bodyPost_ret (v := .tuple #[.agg #[.slice A6 G.length c6, .int .i64 (S.org : Int), .slice pA pn pc, .int .u32 (S.next : Int), .int .i64 S.med, .int .i64 (-1), .bool S.atomic, .bool S.has, .int .u32 (S.aas : Int), .int .u32 (S.aad : Int), .slice cA cn cc, .slice rA rn rc, .slice A10 N.length c10], fault0]) ?_ rfl
    ⟨⟨A6, c6, G, ⟨(S.org : Int), pA, pc, M2, (S.next : Int), S.med, -1, S.atomic, S.has, (S.aas : Int), (S.aad : Int), cA, cc, S.comms, rA, rc, L2⟩, A10, c10, N⟩, ?_, ⟨⟨pxs_own O14.out, HC6.out, HP.out.2.1, ⟨hin.path, hin.pathC, hin.comms, hin.commsC, hin.raws, hin.rawsC, hin.each⟩, pxs_own P14.out, HC10.out, HP.out.2.2.2.1⟩, ⟨row_lower O14.out (Nat.le_trans HB0.out.size B5.out.size), row_lower P14.out (Nat.le_trans HB0.out.size B9.out.size)⟩⟩, BF.out, rfl, rfl, rfl, hM, rfl, rfl, rfl, rfl, rfl, rfl, rfl, rfl, hL⟩
  · simp [results, Tryz.results12, go_sem, fault0, ra, rf]
  · unfold Uv.row Av.row
    dsimp only
    rw [hpn, ← hcn, hrn]
    rfl
end Go.Proofs.YtnaangnmlbgmkaaGreatDoor

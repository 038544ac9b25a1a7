/-
  Texts of this seat, put together: URead5.
-/
import Derived.Test.YtnaangnmlbgmkaaGreatDoorMg22
import Derived.Test.YtnaangnmlbgmkaaGreatDoorMg19
import Derived.Test.YtnaangnmlbgmkaaGreatDoorMg4
import Derived.Test.YtnaangnmlbgmkaaGreatDoorMg15
/-
  A body that says what goes alone: what update.Read tells.
-/
namespace Go.Proofs.YtnaangnmlbgmkaaGreatDoor
set_option linter.unusedVariables false
set_option linter.unusedSimpArgs false
open Go.RowKit

theorem own_past {w w' : World} {B C g : Nat} {v : Value} {l r : List UInt8} {s : Bool} (h : Own w B 5 v l) (hr : Rd w C g r s) (hg : w.grownBy w' (some g)) : Own w' B 5 v l := by
  obtain ⟨_, _, _, hk, _⟩ := hr
  exact row_keep h hk (by decide) hg
theorem own_pastP {w w' : World} {B C g n : Nat} {v : Value} {xs : List Value} {r : List UInt8} {s : Bool} (h : w.ownsRow B 54 2 v n xs) (hr : Rd w C g r s) (hg : w.grownBy w' (some g)) : w'.ownsRow B 54 2 v n xs := by
  obtain ⟨_, _, _, hk, _⟩ := hr
  exact row_keep h hk (by decide) hg
/-- The row of kinds that attrs.Read tells. -/
def KindsIn (w : World) (A : Option Addr) (z : List Nat) : Prop := z ≠ [] → ∃ b off, A = some ⟨b, off, none⟩ ∧ b < w.heap.size ∧ ∀ (j : Nat) k, z[j]? = some k → w.cell? ⟨b, off + j, none⟩ = some (.int .i64 (k : Int))
/-- What attrs.Read leaves, with the kinds. -/
def RetRdK (w : World) (S : Rs) (e : Ending) (w' : World) : Prop :=
  ∃ (x : Av) (kA : Option Addr) (kc : Nat), e = .returned (.tuple #[.agg x.row.toArray, .slice kA S.kinds.length kc, fault0]) ∧ x.In w' w'.heap.size ∧ Below w.heap.size w w' ∧ KindsIn w' kA S.kinds ∧
    x.org = (S.org : Int) ∧ x.path.map Sg.abs = S.path ∧ x.next = (S.next : Int) ∧ x.med = S.med ∧ x.pref = S.pref ∧ x.atomic = S.atomic ∧ x.has = S.has ∧ x.aas = (S.aas : Int) ∧ x.aad = (S.aad : Int) ∧ x.comms = S.comms ∧ x.raws.map Rw.abs = S.raws
theorem be16_len (x : Int) : (be16 x).length = 2 := rfl
theorem updB_len5 (g s n : List UInt8) : (updB g s n).length = 4 + g.length + s.length + n.length := by
  unfold updB
  simp only [List.length_append, be16_len]
  omega
set_option maxHeartbeats 12800000 in
set_option maxRecDepth 100000 in
theorem URead_none (A : Option Addr) (c : Nat) (l said : List UInt8) (G N : List Px) (S : Rs) (inner : Bool) (w : World) (h : Bytes w A l) (hc : l.length ≤ c) (hm : c ≤ maxLen) (hl : l = updB (pxB G) said (pxB N)) (hG : pxsOk G = true) (hGf : ∀ x ∈ G, PxFit x) (hN : pxsOk N = true) (hNf : ∀ x ∈ N, PxFit x)
    (hlen : l.length ≤ 100000) (hgl : (pxB G).length < 65536) (hsl : said.length < 65536) (hGl : G.length ≤ 1000000) (hNl : N.length ≤ 1000000)
    (hA : ∀ (W : World) (B : Option Addr) (d : Nat), Below w.heap.size w W → Bytes W B said → said.length ≤ d → d ≤ maxLen → Calls Tryz.prog 31 #[.slice B said.length d, .bool true] W (RetRd W S)) (hN0 : N = []) :
    Calls Tryz.prog 12 #[.slice A l.length c, .bool true, .bool inner, .int .u32 0] w fun e w' => ∃ u : Uv, e = .returned (.tuple #[.agg u.row.toArray, fault0]) ∧ u.In w' w'.heap.size ∧ Below w.heap.size w w' ∧ u.gone = G ∧ u.news = N ∧ u.attrs = noneA := by
  have hb0 := ((Below.refl w.heap.size w).alloc (Nat.le_refl _) (.cells noneU.toArray 30)).alloc (by simp) (.cells #[.int .i64 0, .int .i64 0, .slice none 0 0] 43)
  obtain ⟨W0, hW0⟩ : ∃ W0, W0 = (w.alloc (.cells noneU.toArray 30)).alloc (.cells #[.int .i64 0, .int .i64 0, .slice none 0 0] 43) := ⟨_, rfl⟩
  have kr : Blk W0 w.heap.size 30 noneU := by
    rw [hW0]
    exact (Blk.new w _ _).below ((Below.refl _ _).alloc (Nat.le_refl _) _) (by simp)
  have kf : Blk W0 (w.heap.size + 1) 43 [.int .i64 0, .int .i64 0, .slice none 0 0] := by
    have := Blk.new (w.alloc (.cells noneU.toArray 30)) 43 [.int .i64 0, .int .i64 0, .slice none 0 0]
    rw [hW0]
    simpa using this
  rw [← hW0] at hb0
  have hz : W0.heap.size = w.heap.size + 2 := by rw [hW0]; simp
  have QN := Lib.hid (New_any A l.length c l rfl W0 (h.below hb0) hc hm)
  have HW0 := Lib.hid (show W0 = (w.alloc (.cells #[.slice none 0 0, .int .i64 0, .slice none 0 0, .int .u32 0, .int .i64 0, .int .i64 0, .bool false, .bool false, .int .u32 0, .int .u32 0, .slice none 0 0, .slice none 0 0, .slice none 0 0] 30)).alloc (.cells #[.int .i64 0, .int .i64 0, .slice none 0 0] 43) from hW0)
  have HB0 := Lib.hid hb0; have HKR := Lib.hid kr; have HKF := Lib.hid kf; have HZ := Lib.hid hz
  have HLL := Lib.hid (show 4 + (pxB G).length + said.length + (pxB N).length ≤ 100000 by rw [← updB_len5, ← hl]; exact hlen)
  have e1 : rdTake l false 2 = (be16 ((pxB G).length : Int), pxB G ++ (be16 (said.length : Int) ++ (said ++ pxB N)), false) := by rw [hl]; exact rdTake_appP _ _ 2 rfl
  have E1 := Lib.hid e1
  have HGL := Lib.hid (num_be16 hgl).1; have HSL := Lib.hid (num_be16 hsl).1
  have HLN := Lib.hid hlen
  have QA := Lib.hid hA
  have HP := Lib.hid (And.intro hG (And.intro hGf (And.intro hN (And.intro hNf (And.intro hGl hNl)))))
  have HN0 := Lib.hid hN0; clear hN0
  clear h hc hm hl hG hGf hN hNf hlen hgl hsl hA hb0 hW0 kr kf hz e1 hGl hNl
  go_enter Tryz.func12, Tryz.ntmps12
  go_wp2_with (rw [← HW0.out])
  refine QN.out.mono ?_
  rintro e w1 ⟨rfl, hr1, hb1⟩
  have R1 := Lib.hid hr1; have B1 := Lib.hid hb1
  clear hr1 hb1 QN HW0
  -- how many bytes go
  have q2 := U16_any _ _ _ _ _ R1.out
  rw [E1.out] at q2
  have Q2 := Lib.hid q2
  clear q2
  go_wp2_with fail
  refine Q2.out.mono ?_
  rintro e w2 ⟨rfl, hr2, hg2⟩
  rw [HGL.out]
  have q3 := Take_any (((pxB G).length : Nat) : Int) _ _ _ _ w2 hr2 (by have := HLL.out; simp only [List.length_append, be16_len]; omega)
  rw [rdTake_appP _ _ _ rfl] at q3
  have Q3 := Lib.hid q3
  have B2 := Lib.hid (B1.out.trans (below_of_grown hg2 B1.out.size (Nat.le_refl _)))
  clear hr2 hg2 q3 Q2
  go_wp2_with fail
  refine Q3.out.mono ?_
  rintro e w3 ⟨A3, c3, rfl, f1, f2, ho3, hr3, hg3⟩
  (try dsimp only at hr3)
  have R3 := Lib.hid hr3; have O3 := Lib.hid ho3; have HC3 := Lib.hid (And.intro f1 f2)
  have B3 := Lib.hid (B2.out.trans (below_of_grown hg3 B2.out.size (Nat.le_refl _)))
  clear hr3 hg3 ho3 f1 f2 Q3
  -- how many are said
  have q4 := U16_any _ _ _ _ _ R3.out
  have e4 : rdTake (be16 (said.length : Int) ++ (said ++ pxB N)) false 2 = (be16 (said.length : Int), said ++ pxB N, false) := rdTake_appP _ _ 2 rfl
  rw [e4] at q4
  clear e4
  have Q4 := Lib.hid q4
  clear q4
  go_wp2_with fail
  refine Q4.out.mono ?_
  rintro e w4 ⟨rfl, hr4, hg4⟩
  rw [HSL.out]
  have q5 := Take_any ((said.length : Nat) : Int) _ _ _ _ w4 hr4 (by have := HLL.out; simp only [List.length_append]; omega)
  rw [rdTake_appP _ _ _ rfl] at q5
  have Q5 := Lib.hid q5
  have B4 := Lib.hid (B3.out.trans (below_of_grown hg4 B3.out.size (Nat.le_refl _)))
  have O4 := Lib.hid (own_past O3.out R3.out hg4)
  have R4 := Lib.hid hr4
  clear hr4 hg4 q5 Q4 O3
  go_wp2_with fail
  refine Q5.out.mono ?_
  rintro e w5 ⟨A5, c5, rfl, f1, f2, ho5, hr5, hg5⟩
  (try dsimp only at hr5)
  have R5 := Lib.hid hr5; have O5 := Lib.hid ho5; have HC5 := Lib.hid (And.intro f1 f2)
  have B5 := Lib.hid (B4.out.trans (below_of_grown hg5 B4.out.size (Nat.le_refl _)))
  have O35 := Lib.hid (own_past O4.out R4.out hg5)
  clear hr5 hg5 ho5 f1 f2 Q5 O4
  go_wp2_with fail
  refine (Err_any _ _ _ _ _ R5.out).mono ?_
  rintro e wx ⟨rfl, rfl⟩
  simp only [errN]
  have QG := Lib.hid (List_ok A3 c3 (pxB G) G w5 O35.out.bytes HC3.out.1 HC3.out.2 rfl HP.out.1 HP.out.2.1 (by have := HLL.out; omega) HP.out.2.2.2.2.1)
  go_wp2_with fail
  refine QG.out.mono ?_
  rintro e w6 ⟨A6, c6, rfl, f1, f2, ho6, hb6⟩
  have O6 := Lib.hid ho6; have HC6 := Lib.hid (And.intro f1 f2)
  have B6 := Lib.hid (B5.out.trans (hb6.mono B5.out.size))
  have R6 := Lib.hid (R5.out.below hb6 R5.out.lt)
  have O56 := Lib.hid (row_below O5.out hb6)
  clear ho6 f1 f2 hb6 QG O35 O5
  have BW := Lib.hid (fun (W : World) (q : Below W0.heap.size W0 W) => HB0.out.trans (q.mono HB0.out.size))
  have Q7 := Lib.hid (QA.out w6 A5 c5 (BW.out _ B6.out) (Own.bytes O56.out) HC5.out.1 HC5.out.2)
  go_wp2_with fail
  refine Q7.out.mono ?_
  rintro e w7 ⟨x, kA, kc, rfl, hin, hb7, x1, x2, x3, x4, x5, x6, x7, x8, x9, x10, x11⟩
  have O7 := Lib.hid (row_below O6.out hb7)
  have R7 := Lib.hid (R6.out.below hb7 R6.out.lt)
  have R7lt := Lib.hid R7.out.lt
  have B7 := Lib.hid (B6.out.trans (hb7.mono B6.out.size))
  obtain ⟨W7, hW7⟩ : ∃ W7, W7 = (w7.alloc (.cells x.row.toArray 28)).alloc (.cells #[.int .i64 0, .int .i64 0, .slice none 0 0] 43) := ⟨_, rfl⟩
  have hb8 : Below w7.heap.size w7 W7 := by rw [hW7]; exact ((Below.refl _ _).alloc (Nat.le_refl _) _).alloc (by simp) _
  have kx : Blk W7 w7.heap.size 28 x.row := by
    rw [hW7]
    exact (Blk.new w7 _ _).below ((Below.refl _ _).alloc (Nat.le_refl _) _) (by simp)
  have kf : Blk W7 (w7.heap.size + 1) 43 [.int .i64 0, .int .i64 0, .slice none 0 0] := by
    have := Blk.new (w7.alloc (.cells x.row.toArray 28)) 43 [.int .i64 0, .int .i64 0, .slice none 0 0]
    rw [hW7]
    simpa using this
  have O8 := Lib.hid (row_below O7.out hb8)
  have R8 := Lib.hid (R7.out.below hb8 R7.out.lt)
  have B8 := Lib.hid (B7.out.trans (hb8.mono B7.out.size))
  have KX := Lib.hid kx
  
  have f0 : W7.cell? ⟨w7.heap.size + 1, 0, none⟩ = some (.int .i64 0) := kf.cell 0
  obtain ⟨org, pa, pc, path, next, med, pref, atomic, has, aas, aad, ca, cc, comms, ra, rc, raws⟩ := x
  have hW7' := (show W7 = (w7.alloc (.cells #[.int .i64 org, .slice pa path.length pc, .int .u32 next, .int .i64 med, .int .i64 pref, .bool atomic, .bool has, .int .u32 aas, .int .u32 aad, .slice ca comms.length cc, .slice ra raws.length rc] 28)).alloc (.cells #[.int .i64 0, .int .i64 0, .slice none 0 0] 43) from hW7)
  have HW7 := Lib.hid hW7'
  clear hW7 hW7' hin hb7 x1 x2 x3 x4 x5 x6 x7 x8 x9 x10 x11 hb8 kx kf Q7 O6 O56 O7 R6 R7 QA
  unfold Av.row fault0
  dsimp only
  rw [HW7.out] at f0
  go_wp2_with fail
  rw [← HW7.out]
  -- what comes
  refine (Left_any _ _ _ _ _ R8.out).mono ?_
  rintro e wx ⟨rfl, rfl⟩
  have q9 := Take_any (((pxB N).length : Nat) : Int) _ _ _ _ _ R8.out (by have := HLL.out; omega)
  have e9 : rdTake (pxB N) false (((pxB N).length : Nat) : Int) = (pxB N, [], false) := by
    have h := rdTake_appP (pxB N) [] (pxB N).length rfl
    rwa [List.append_nil] at h
  rw [e9] at q9
  have Q9 := Lib.hid q9
  clear q9 e9
  go_wp2_with fail
  refine Q9.out.mono ?_
  rintro e w9 ⟨A9, c9, rfl, f1, f2, ho9, hr9, hg9⟩
  have O9 := Lib.hid (own_pastP O8.out R8.out hg9)
  have B9 := Lib.hid (B8.out.trans (below_of_grown hg9 B8.out.size (Nat.le_refl _)))
  have KX9 := Lib.hid (KX.out.grown hg9 (by have := R7lt.out; omega))
  
  have QL := Lib.hid (List_ok A9 c9 (pxB N) N w9 ho9.bytes f1 f2 rfl HP.out.2.2.1 HP.out.2.2.2.1 (by have := HLL.out; omega) HP.out.2.2.2.2.2)
  clear ho9 hr9 hg9 f1 f2 Q9 KX O8 f0
  go_wp2_with fail
  refine QL.out.mono ?_
  rintro e w10 ⟨A10, c10, rfl, f1, f2, ho10, hb10⟩
  have O10 := Lib.hid (row_below O9.out hb10); have P10 := Lib.hid ho10
  have B10 := Lib.hid (B9.out.trans (hb10.mono B9.out.size))
  have KX10 := Lib.hid (KX9.out.below hb10 KX9.out.lt)
  
  have HC10 := Lib.hid (And.intro f1 f2)
  clear ho10 hb10 f1 f2 O9 KX9 QL
  have hn0 := HN0.out
  subst hn0
  have kR := HKR.out.below B10.out (by have := HZ.out; omega)
  have kF := HKF.out.below B10.out (by have := HZ.out; omega)
  have KR10 := Lib.hid kR; have KF10 := Lib.hid kF
  clear kR kF
  go_wp2_with (refine wpList_storeU _ rfl rfl (.tmp 8) (.tmp 72) rfl w.heap.size 30 noneU ⟨A6, c6, G, noneA, none, 0, []⟩ rfl rfl KR10.out rfl ?_)
  intro w11 k11 hg11
  have kf11 := KF10.out.grown hg11 (by omega)
  have ff := free3 kf11
  have cf := cells3 kf11
  have O11 := Lib.hid (row_keep O10.out KR10.out (by decide) hg11)
  have hgf := grown_set3 w11 (w.heap.size + 1) (.int .i64 0) (.int .i64 0) (.slice none 0 0)
  have ra := cells13 (show Blk _ w.heap.size 30 [.slice A6 G.length c6, .int .i64 0, .slice none 0 0, .int .u32 0, .int .i64 0, .int .i64 0, .bool false, .bool false, .int .u32 0, .int .u32 0, .slice none 0 0, .slice none 0 0, .slice none 0 0] from k11.grown hgf (by omega))
  have rf := cells3 (kf11.set3 (.int .i64 0) (.int .i64 0) (.slice none 0 0))
  have O12 := Lib.hid (row_keep O11.out kf11 (by decide) hgf)
  have BF := Lib.hid (((BW.out _ B10.out).grown hg11 (BW.out _ B10.out).size (fun k hk => by cases hk; exact Nat.le_refl _)).grown hgf (Nat.le_trans (BW.out _ B10.out).size hg11.size) (fun k hk => by cases hk; omega))
  have HRA := Lib.hid ra; have HRF := Lib.hid rf
  clear k11 hg11 kf11 hgf ra rf O11
  go_wp2_with fail
  have ra := HRA.out
  have rf := HRF.out
  refine bodyPost_ret (v := .tuple #[.agg (Uv.row ⟨A6, c6, G, noneA, none, 0, []⟩).toArray, fault0]) ?_ rfl ⟨⟨A6, c6, G, noneA, none, 0, []⟩, rfl, ⟨pxs_own O12.out, HC6.out, HP.out.2.1, noneA_in _, PxsIn.nil _ _ _, ⟨Nat.le_refl _, Nat.zero_le _⟩, fun x hx => by cases hx⟩, BF.out, rfl, rfl, rfl⟩
  simp [results, Tryz.results12, go_sem, fault0, Uv.row, Av.row, noneA, ra, rf]
end Go.Proofs.YtnaangnmlbgmkaaGreatDoor

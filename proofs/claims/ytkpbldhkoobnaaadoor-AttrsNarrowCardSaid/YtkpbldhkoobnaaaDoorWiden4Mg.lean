/-
  Texts of this seat, put together: Widen4.
-/
import Derived.Test.YtkpbldhkoobnaaaDoorMg25
import Derived.Test.YtkpbldhkoobnaaaDoorMerge3Mg
/-
  What stands beside narrow numbers is put in: the program's (written by gen04n.py).
-/
namespace Go.Proofs.YtkpbldhkoobnaaaDoor
set_option linter.unusedVariables false
set_option linter.unusedSimpArgs false
open Go.RowKit

theorem PathT.keep {w w' : World} {v : Value} {M : List Sg} {g T : Nat} {cs : List Value} (h : PathT w v M) (hk : Blk w g T cs) (t1 : (87 : TypeId) ≠ T) (t2 : (23 : TypeId) ≠ T) (hg : w.grownBy w' (some g)) : PathT w' v M :=
  ⟨h.1.elim fun B q => ⟨B, row_keep q hk t1 hg⟩, fun s hs => (h.2.1 s hs).elim fun B q => ⟨B, row_keep q hk t2 hg⟩, h.2.2⟩
/-- What widen leaves. -/
def WidePost (W : World) (gx : Nat) (S T : Rs) (cv rv kv wv av : Value) (e : Ending) (W' : World) : Prop :=
  ∃ (M : List Sg) (pA : Option Addr) (pc : Nat), e = .returned (.tuple #[]) ∧ W.grownBy W' (some gx) ∧ M.length ≤ pc ∧ pc ≤ maxLen ∧
    Blk W' gx 75 [.bool false, .int .i64 (S.org : Int), .slice pA M.length pc, .int .u32 (S.next : Int), .int .i64 S.med, .int .i64 S.pref, .bool S.atomic, .bool S.has, .int .u32 (T.aas : Int), .int .u32 (T.aad : Int), cv, rv, kv, wv, av] ∧ PathT W' (.slice pA M.length pc) M ∧ M.map Sg.abs = T.path

set_option maxRecDepth 100000 in
set_option maxHeartbeats 6400000 in
theorem widen_stay (B gx : Nat) (S : Rs) (W : World) (pv cv rv kv wv av : Value) (k1 : Blk W gx 75 (rdRow false S pv cv rv kv wv av)) (k2 : RowsR B W S pv cv rv kv wv av) (hp : S.path.length ≤ 12 ∧ totA S.path ≤ 1048576 ∧ S.wpath.length ≤ 12 ∧ totA S.wpath ≤ 1048576) (hh : S.has = true) (ha : S.aas ≠ 23456) :
    Calls Tryd.prog 62 #[.pointer (some ⟨gx, 0, none⟩)] W (WidePost W gx S S cv rv kv wv av) := by
  obtain ⟨_, _, M0, po, pM⟩ := k2.path
  obtain ⟨pA, pc, rfl, p1, p2⟩ := po.form
  have x0 : W.cell? ⟨gx, 0, none⟩ = some (.bool false) := k1.cell 0
  have x2 : W.cell? ⟨gx, 2, none⟩ = some (.slice pA M0.length pc) := k1.cell 2
  have x7 : W.cell? ⟨gx, 7, none⟩ = some (.bool S.has) := k1.cell 7
  have x8 : W.cell? ⟨gx, 8, none⟩ = some (.int .u32 (S.aas : Int)) := k1.cell 8
  rw [hh] at x7
  have ht : ((S.aas : Int) != 23456) = true := by
    have : ¬ (S.aas : Int) = 23456 := by omega
    simpa using this
  have hti : ¬ (S.aas : Int) = 23456 := by omega
  have HK := Lib.hid k1; have HP := Lib.hid (show PathT W (.slice pA M0.length pc) M0 from ⟨⟨_, po.row⟩, fun s hs => ⟨_, po.own s hs⟩, po.fit⟩)
  clear k1 k2 hp hh ha po
  go_enter Tryd.func62, Tryd.ntmps62
  go_wp2_with fail
  refine bodyPost_ret (results_none rfl _ _ _) rfl ?_
  exact ⟨M0, pA, pc, rfl, grown_refl _ _, p1, p2, HK.out, HP.out, pM⟩

set_option maxRecDepth 100000 in
set_option maxHeartbeats 6400000 in
theorem widen_none (B gx : Nat) (S : Rs) (W : World) (pv cv rv kv wv av : Value) (k1 : Blk W gx 75 (rdRow false S pv cv rv kv wv av)) (k2 : RowsR B W S pv cv rv kv wv av) (hp : S.path.length ≤ 12 ∧ totA S.path ≤ 1048576 ∧ S.wpath.length ≤ 12 ∧ totA S.wpath ≤ 1048576) (hh : S.has = false) :
    Calls Tryd.prog 62 #[.pointer (some ⟨gx, 0, none⟩)] W (WidePost W gx S { S with path := mergeL S.path S.wpath } cv rv kv wv av) := by
  obtain ⟨_, _, M0, po, pM⟩ := k2.path
  obtain ⟨pA, pc, rfl, p1, p2⟩ := po.form
  have x0 : W.cell? ⟨gx, 0, none⟩ = some (.bool false) := k1.cell 0
  have x2 : W.cell? ⟨gx, 2, none⟩ = some (.slice pA M0.length pc) := k1.cell 2
  have x7 : W.cell? ⟨gx, 7, none⟩ = some (.bool S.has) := k1.cell 7
  have x8 : W.cell? ⟨gx, 8, none⟩ = some (.int .u32 (S.aas : Int)) := k1.cell 8
  rw [hh] at x7
  obtain ⟨_, _, N0, qo, qM⟩ := k2.wpath
  obtain ⟨qA, qc, rfl, q1, q2⟩ := qo.form
  have x13 : W.cell? ⟨gx, 13, none⟩ = some (.slice qA N0.length qc) := k1.cell 13
  have eL : totN M0 = totA S.path := by rw [tot_abs, pM]
  have eN : totN N0 = totA S.wpath := by rw [tot_abs, qM]
  have lL : M0.length = S.path.length := by rw [← pM, List.length_map]
  have lN : N0.length = S.wpath.length := by rw [← qM, List.length_map]
  have QM := Merge3_any pA qA pc qc M0 N0 W.drew (po.segs.below (Below.refl _ _).drew (Nat.le_refl _)) (qo.segs.below (Below.refl _ _).drew (Nat.le_refl _)) p1 p2 q1 q2 (by omega) (by omega) (by omega) (by omega)
  rw [pM, qM] at QM
  have QM := Lib.hid QM
  have HK := Lib.hid k1
  clear k1 k2 hp po qo eL eN lL lN pM qM p1 p2 q1 q2
  go_enter Tryd.func62, Tryd.ntmps62
  go_wp2_with fail
  go_region_law ((try go_simp); go_at_call 83; refine QM.out.mono ?_; rintro e w2 ⟨M, A2, c2, rfl, hM, m1, m2, hpt, hb2⟩; have hb2' := below_undrew hb2; have k2 := HK.out.below hb2' HK.out.lt; have z2 : w2.cell? ⟨gx, 2, none⟩ = some (.slice pA M0.length pc) := k2.cell 2; have y2 := k2.free 2; have HK2 := Lib.hid k2; have HB2 := Lib.hid (show Below W.heap.size W w2 from hb2'); have HPT := Lib.hid hpt; have HM := Lib.hid (And.intro hM (And.intro m1 m2)); clear k2 hb2 hb2' hpt hM m1 m2)
  all_goals
    have hset : w2.grownBy (w2.setCell ⟨gx, 2, none⟩ (.slice A2 M.length c2)) (some gx) := grown_setCell (grown_refl _ _) _ _
    have k3 := HK2.out.set 2 (.slice A2 M.length c2)
    have HPT3 := Lib.hid (HPT.out.keep HK2.out (by decide) (by decide) hset)
    have HG3 := Lib.hid (grown_below HB2.out hset)
    have z7 : (w2.setCell ⟨gx, 2, none⟩ (.slice A2 M.length c2)).cell? ⟨gx, 7, none⟩ = some (.bool S.has) := k3.cell 7
    rw [hh] at z7
    have HK3 := Lib.hid k3
    clear k3 hset z2 y2
    go_wp2_with fail
    go_end0
    exact ⟨M, A2, c2, rfl, HG3.out, HM.out.2.1, HM.out.2.2, HK3.out, HPT3.out, HM.out.1⟩

set_option maxRecDepth 100000 in
set_option maxHeartbeats 6400000 in
theorem widen_path (B gx : Nat) (S : Rs) (W : World) (pv cv rv kv wv av : Value) (k1 : Blk W gx 75 (rdRow false S pv cv rv kv wv av)) (k2 : RowsR B W S pv cv rv kv wv av) (hp : S.path.length ≤ 12 ∧ totA S.path ≤ 1048576 ∧ S.wpath.length ≤ 12 ∧ totA S.wpath ≤ 1048576) (hh : S.has = true) (ha : S.aas = 23456) (hg8 : S.aggr.length ≠ 8) :
    Calls Tryd.prog 62 #[.pointer (some ⟨gx, 0, none⟩)] W (WidePost W gx S { S with path := mergeL S.path S.wpath } cv rv kv wv av) := by
  obtain ⟨_, _, M0, po, pM⟩ := k2.path
  obtain ⟨pA, pc, rfl, p1, p2⟩ := po.form
  have x0 : W.cell? ⟨gx, 0, none⟩ = some (.bool false) := k1.cell 0
  have x2 : W.cell? ⟨gx, 2, none⟩ = some (.slice pA M0.length pc) := k1.cell 2
  have x7 : W.cell? ⟨gx, 7, none⟩ = some (.bool S.has) := k1.cell 7
  have x8 : W.cell? ⟨gx, 8, none⟩ = some (.int .u32 (S.aas : Int)) := k1.cell 8
  rw [hh] at x7
  obtain ⟨_, _, N0, qo, qM⟩ := k2.wpath
  obtain ⟨qA, qc, rfl, q1, q2⟩ := qo.form
  have x13 : W.cell? ⟨gx, 13, none⟩ = some (.slice qA N0.length qc) := k1.cell 13
  have eL : totN M0 = totA S.path := by rw [tot_abs, pM]
  have eN : totN N0 = totA S.wpath := by rw [tot_abs, qM]
  have lL : M0.length = S.path.length := by rw [← pM, List.length_map]
  have lN : N0.length = S.wpath.length := by rw [← qM, List.length_map]
  have QM := Merge3_any pA qA pc qc M0 N0 W.drew (po.segs.below (Below.refl _ _).drew (Nat.le_refl _)) (qo.segs.below (Below.refl _ _).drew (Nat.le_refl _)) p1 p2 q1 q2 (by omega) (by omega) (by omega) (by omega)
  rw [pM, qM] at QM
  have QM := Lib.hid QM
  have ht : ((S.aas : Int) != 23456) = false := by rw [ha]; decide
  rw [ha] at x8
  obtain ⟨_, ao⟩ := k2.aggr
  obtain ⟨gA, gc, rfl, g1, g2⟩ := own_form ao
  have x14 : W.cell? ⟨gx, 14, none⟩ = some (.slice gA S.aggr.length gc) := k1.cell 14
  have HAO := Lib.hid ao; have HG := Lib.hid (And.intro g1 g2)
  have h8 : ((S.aggr.length : Int) == 8) = false := by
    have : ¬ (S.aggr.length : Int) = 8 := by omega
    simpa using this
  have h8i : ¬ (S.aggr.length : Int) = 8 := by omega
  have HK := Lib.hid k1
  clear k1 k2 hp po qo eL eN lL lN pM qM p1 p2 q1 q2 ao g1 g2 hg8
  go_enter Tryd.func62, Tryd.ntmps62
  go_wp2_with fail
  go_region_law ((try go_simp); go_at_call 83; refine QM.out.mono ?_; rintro e w2 ⟨M, A2, c2, rfl, hM, m1, m2, hpt, hb2⟩; have hb2' := below_undrew hb2; have k2 := HK.out.below hb2' HK.out.lt; have z2 : w2.cell? ⟨gx, 2, none⟩ = some (.slice pA M0.length pc) := k2.cell 2; have y2 := k2.free 2; have HK2 := Lib.hid k2; have HB2 := Lib.hid (show Below W.heap.size W w2 from hb2'); have HPT := Lib.hid hpt; have HM := Lib.hid (And.intro hM (And.intro m1 m2)); clear k2 hb2 hb2' hpt hM m1 m2)
  all_goals
    have hset : w2.grownBy (w2.setCell ⟨gx, 2, none⟩ (.slice A2 M.length c2)) (some gx) := grown_setCell (grown_refl _ _) _ _
    have k3 := HK2.out.set 2 (.slice A2 M.length c2)
    have HPT3 := Lib.hid (HPT.out.keep HK2.out (by decide) (by decide) hset)
    have HG3 := Lib.hid (grown_below HB2.out hset)
    have z7 : (w2.setCell ⟨gx, 2, none⟩ (.slice A2 M.length c2)).cell? ⟨gx, 7, none⟩ = some (.bool S.has) := k3.cell 7
    rw [hh] at z7
    have z14 : (w2.setCell ⟨gx, 2, none⟩ (.slice A2 M.length c2)).cell? ⟨gx, 14, none⟩ = some (.slice gA S.aggr.length gc) := k3.cell 14
    have HK3 := Lib.hid k3
    clear k3 hset z2 y2
    go_wp2_with fail
    go_end0
    exact ⟨M, A2, c2, rfl, HG3.out, HM.out.2.1, HM.out.2.2, HK3.out, HPT3.out, HM.out.1⟩

set_option maxRecDepth 100000 in
set_option maxHeartbeats 6400000 in
theorem widen_both (B gx : Nat) (S : Rs) (W : World) (pv cv rv kv wv av : Value) (k1 : Blk W gx 75 (rdRow false S pv cv rv kv wv av)) (k2 : RowsR B W S pv cv rv kv wv av) (hp : S.path.length ≤ 12 ∧ totA S.path ≤ 1048576 ∧ S.wpath.length ≤ 12 ∧ totA S.wpath ≤ 1048576) (hh : S.has = true) (ha : S.aas = 23456) (hg8 : S.aggr.length = 8) :
    Calls Tryd.prog 62 #[.pointer (some ⟨gx, 0, none⟩)] W (WidePost W gx S { S with path := mergeL S.path S.wpath, aas := num (S.aggr.take 4), aad := num (S.aggr.drop 4) } cv rv kv wv av) := by
  obtain ⟨_, _, M0, po, pM⟩ := k2.path
  obtain ⟨pA, pc, rfl, p1, p2⟩ := po.form
  have x0 : W.cell? ⟨gx, 0, none⟩ = some (.bool false) := k1.cell 0
  have x2 : W.cell? ⟨gx, 2, none⟩ = some (.slice pA M0.length pc) := k1.cell 2
  have x7 : W.cell? ⟨gx, 7, none⟩ = some (.bool S.has) := k1.cell 7
  have x8 : W.cell? ⟨gx, 8, none⟩ = some (.int .u32 (S.aas : Int)) := k1.cell 8
  rw [hh] at x7
  obtain ⟨_, _, N0, qo, qM⟩ := k2.wpath
  obtain ⟨qA, qc, rfl, q1, q2⟩ := qo.form
  have x13 : W.cell? ⟨gx, 13, none⟩ = some (.slice qA N0.length qc) := k1.cell 13
  have eL : totN M0 = totA S.path := by rw [tot_abs, pM]
  have eN : totN N0 = totA S.wpath := by rw [tot_abs, qM]
  have lL : M0.length = S.path.length := by rw [← pM, List.length_map]
  have lN : N0.length = S.wpath.length := by rw [← qM, List.length_map]
  have QM := Merge3_any pA qA pc qc M0 N0 W.drew (po.segs.below (Below.refl _ _).drew (Nat.le_refl _)) (qo.segs.below (Below.refl _ _).drew (Nat.le_refl _)) p1 p2 q1 q2 (by omega) (by omega) (by omega) (by omega)
  rw [pM, qM] at QM
  have QM := Lib.hid QM
  have ht : ((S.aas : Int) != 23456) = false := by rw [ha]; decide
  rw [ha] at x8
  obtain ⟨_, ao⟩ := k2.aggr
  obtain ⟨gA, gc, rfl, g1, g2⟩ := own_form ao
  have x14 : W.cell? ⟨gx, 14, none⟩ = some (.slice gA S.aggr.length gc) := k1.cell 14
  have HAO := Lib.hid ao; have HG := Lib.hid (And.intro g1 g2)
  have h8 : ((S.aggr.length : Int) == 8) = true := by rw [hg8]; decide
  have HG8 := Lib.hid hg8
  have HK := Lib.hid k1
  clear k1 k2 hp po qo eL eN lL lN pM qM p1 p2 q1 q2 ao g1 g2 hg8
  go_enter Tryd.func62, Tryd.ntmps62
  go_wp2_with fail
  go_region_law ((try go_simp); go_at_call 83; refine QM.out.mono ?_; rintro e w2 ⟨M, A2, c2, rfl, hM, m1, m2, hpt, hb2⟩; have hb2' := below_undrew hb2; have k2 := HK.out.below hb2' HK.out.lt; have z2 : w2.cell? ⟨gx, 2, none⟩ = some (.slice pA M0.length pc) := k2.cell 2; have y2 := k2.free 2; have HK2 := Lib.hid k2; have HB2 := Lib.hid (show Below W.heap.size W w2 from hb2'); have HPT := Lib.hid hpt; have HM := Lib.hid (And.intro hM (And.intro m1 m2)); clear k2 hb2 hb2' hpt hM m1 m2)
  all_goals
    have hset : w2.grownBy (w2.setCell ⟨gx, 2, none⟩ (.slice A2 M.length c2)) (some gx) := grown_setCell (grown_refl _ _) _ _
    have k3 := HK2.out.set 2 (.slice A2 M.length c2)
    have HPT3 := Lib.hid (HPT.out.keep HK2.out (by decide) (by decide) hset)
    have HG3 := Lib.hid (grown_below HB2.out hset)
    have z7 : (w2.setCell ⟨gx, 2, none⟩ (.slice A2 M.length c2)).cell? ⟨gx, 7, none⟩ = some (.bool S.has) := k3.cell 7
    rw [hh] at z7
    have z14 : (w2.setCell ⟨gx, 2, none⟩ (.slice A2 M.length c2)).cell? ⟨gx, 14, none⟩ = some (.slice gA S.aggr.length gc) := k3.cell 14
    have HK3 := Lib.hid k3
    have QA := Lib.hid (aggr8_any gA gc S.aggr _ (Own.bytes (row_keep (row_below HAO.out HB2.out) HK2.out (by decide) hset)) HG.out.1 HG.out.2 HG8.out)
    obtain ⟨u, hu⟩ : ∃ u, u = num (S.aggr.take 4) := ⟨_, rfl⟩
    obtain ⟨v, hv⟩ : ∃ v, v = num (S.aggr.drop 4) := ⟨_, rfl⟩
    rw [← hu, ← hv] at QA
    have HU := Lib.hid hu; have HV := Lib.hid hv
    clear k3 hset z2 y2 hu hv
    go_wp2_with fail
    refine QA.out.mono ?_
    rintro e w4 ⟨rfl, hb4⟩
    have k4 := HK3.out.below hb4 HK3.out.lt
    have v8 : w4.cell? ⟨gx, 8, none⟩ = some (.int .u32 (S.aas : Int)) := k4.cell 8
    have v9 : w4.cell? ⟨gx, 9, none⟩ = some (.int .u32 (S.aad : Int)) := k4.cell 9
    have f8 := k4.free 8
    have f9 := k4.free 9
    have hs1 : w4.grownBy ((w4.setCell ⟨gx, 8, none⟩ (.int .u32 (u : Int))).setCell ⟨gx, 9, none⟩ (.int .u32 (v : Int))) (some gx) := grown_setCell (grown_setCell (grown_refl _ _) _ _) _ _
    have HK5 := Lib.hid ((k4.set 8 (.int .u32 (u : Int))).set 9 (.int .u32 (v : Int)))
    have HPT5 := Lib.hid ((HPT3.out.below hb4).keep k4 (by decide) (by decide) hs1)
    have HG5 := Lib.hid (grown_trans (below_grown HG3.out hb4) hs1)
    clear k4 hs1 hb4 z7 z14
    go_wp2_with fail
    go_end0
    have hu := HU.out
    have hv := HV.out
    subst hu hv
    exact ⟨M, A2, c2, rfl, HG5.out, HM.out.2.1, HM.out.2.2, HK5.out, HPT5.out, HM.out.1⟩

/-- widen, whatever was read. -/
theorem widen4_any (B gx : Nat) (S : Rs) (W : World) (pv cv rv kv wv av : Value) (k1 : Blk W gx 75 (rdRow false S pv cv rv kv wv av)) (k2 : RowsR B W S pv cv rv kv wv av) (hp : S.path.length ≤ 12 ∧ totA S.path ≤ 1048576 ∧ S.wpath.length ≤ 12 ∧ totA S.wpath ≤ 1048576) :
    Calls Tryd.prog 62 #[.pointer (some ⟨gx, 0, none⟩)] W (WidePost W gx S (widenF false S) cv rv kv wv av) := by
  unfold widenF
  by_cases hh : S.has = true
  · by_cases ha : S.aas = 23456
    · rw [if_neg (by rintro (q | q); cases q; exact q.2 ha)]
      by_cases hg : S.aggr.length = 8
      · rw [if_pos ⟨hh, hg⟩]
        exact widen_both B gx S W pv cv rv kv wv av k1 k2 hp hh ha hg
      · rw [if_neg (fun q => hg q.2)]
        exact widen_path B gx S W pv cv rv kv wv av k1 k2 hp hh ha hg
    · rw [if_pos (.inr ⟨hh, ha⟩)]
      exact widen_stay B gx S W pv cv rv kv wv av k1 k2 hp hh ha
  · have hf : S.has = false := by simpa using hh
    rw [if_neg (by rintro (q | q); cases q; exact hh q.1), if_neg (fun q => hh q.1)]
    exact widen_none B gx S W pv cv rv kv wv av k1 k2 hp hf
/-- All else stays. -/
theorem widen_rest (S : Rs) : (widenF false S).org = S.org ∧ (widenF false S).next = S.next ∧ (widenF false S).med = S.med ∧ (widenF false S).pref = S.pref ∧ (widenF false S).atomic = S.atomic ∧ (widenF false S).has = S.has ∧ (widenF false S).comms = S.comms ∧ (widenF false S).raws = S.raws ∧ (widenF false S).kinds = S.kinds := by
  unfold widenF
  split
  · exact ⟨rfl, rfl, rfl, rfl, rfl, rfl, rfl, rfl, rfl⟩
  · split <;> exact ⟨rfl, rfl, rfl, rfl, rfl, rfl, rfl, rfl, rfl⟩
end Go.Proofs.YtkpbldhkoobnaaaDoor

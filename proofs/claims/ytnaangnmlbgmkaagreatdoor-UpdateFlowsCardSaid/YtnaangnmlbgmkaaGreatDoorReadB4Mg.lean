/-
  Texts of this seat, put together: ReadB4.
-/
import Derived.Test.YtnaangnmlbgmkaaGreatDoorMg19
/-
  Attributes read, where nothing is wrong with them: the program's walk.
-/
namespace Go.Proofs.YtnaangnmlbgmkaaGreatDoor
set_option linter.unusedVariables false
set_option linter.unusedSimpArgs false
open Go.RowKit

/-- A row of attributes of no value. -/
def zeroRow0 : List Value := [.int .i64 0, .slice none 0 0, .int .u32 0, .int .i64 0, .int .i64 0, .bool false, .bool false, .int .u32 0, .int .u32 0, .slice none 0 0, .slice none 0 0]
theorem Blk.set11 {w : World} {g T : Nat} {u0 u1 u2 u3 u4 u5 u6 u7 u8 u9 u10 : Value} (v0 v1 v2 v3 v4 v5 v6 v7 v8 v9 v10 : Value) (hk : Blk w g T [u0, u1, u2, u3, u4, u5, u6, u7, u8, u9, u10]) : Blk (((((((((((w.setCell ⟨g, 0, none⟩ v0).setCell ⟨g, 1, none⟩ v1).setCell ⟨g, 2, none⟩ v2).setCell ⟨g, 3, none⟩ v3).setCell ⟨g, 4, none⟩ v4).setCell ⟨g, 5, none⟩ v5).setCell ⟨g, 6, none⟩ v6).setCell ⟨g, 7, none⟩ v7).setCell ⟨g, 8, none⟩ v8).setCell ⟨g, 9, none⟩ v9).setCell ⟨g, 10, none⟩ v10) g T [v0, v1, v2, v3, v4, v5, v6, v7, v8, v9, v10] :=
  ((((((((((hk.set 0 v0).set 1 v1).set 2 v2).set 3 v3).set 4 v4).set 5 v5).set 6 v6).set 7 v7).set 8 v8).set 9 v9).set 10 v10
theorem cells11 {w : World} {g T : Nat} {u0 u1 u2 u3 u4 u5 u6 u7 u8 u9 u10 : Value} (h : Blk w g T [u0, u1, u2, u3, u4, u5, u6, u7, u8, u9, u10]) : w.cell? ⟨g, 0, none⟩ = some u0 ∧ w.cell? ⟨g, 1, none⟩ = some u1 ∧ w.cell? ⟨g, 2, none⟩ = some u2 ∧ w.cell? ⟨g, 3, none⟩ = some u3 ∧ w.cell? ⟨g, 4, none⟩ = some u4 ∧ w.cell? ⟨g, 5, none⟩ = some u5 ∧ w.cell? ⟨g, 6, none⟩ = some u6 ∧ w.cell? ⟨g, 7, none⟩ = some u7 ∧ w.cell? ⟨g, 8, none⟩ = some u8 ∧ w.cell? ⟨g, 9, none⟩ = some u9 ∧ w.cell? ⟨g, 10, none⟩ = some u10 :=
  ⟨h.cell 0, h.cell 1, h.cell 2, h.cell 3, h.cell 4, h.cell 5, h.cell 6, h.cell 7, h.cell 8, h.cell 9, h.cell 10⟩
theorem free11 {w : World} {g T : Nat} {cs : List Value} (h : Blk w g T cs) : w.frozen? ⟨g, 0, none⟩ = false ∧ w.frozen? ⟨g, 1, none⟩ = false ∧ w.frozen? ⟨g, 2, none⟩ = false ∧ w.frozen? ⟨g, 3, none⟩ = false ∧ w.frozen? ⟨g, 4, none⟩ = false ∧ w.frozen? ⟨g, 5, none⟩ = false ∧ w.frozen? ⟨g, 6, none⟩ = false ∧ w.frozen? ⟨g, 7, none⟩ = false ∧ w.frozen? ⟨g, 8, none⟩ = false ∧ w.frozen? ⟨g, 9, none⟩ = false ∧ w.frozen? ⟨g, 10, none⟩ = false :=
  ⟨h.free 0, h.free 1, h.free 2, h.free 3, h.free 4, h.free 5, h.free 6, h.free 7, h.free 8, h.free 9, h.free 10⟩
theorem grown_set11 (w : World) (g : Nat) (v0 v1 v2 v3 v4 v5 v6 v7 v8 v9 v10 : Value) : w.grownBy (((((((((((w.setCell ⟨g, 0, none⟩ v0).setCell ⟨g, 1, none⟩ v1).setCell ⟨g, 2, none⟩ v2).setCell ⟨g, 3, none⟩ v3).setCell ⟨g, 4, none⟩ v4).setCell ⟨g, 5, none⟩ v5).setCell ⟨g, 6, none⟩ v6).setCell ⟨g, 7, none⟩ v7).setCell ⟨g, 8, none⟩ v8).setCell ⟨g, 9, none⟩ v9).setCell ⟨g, 10, none⟩ v10) (some g) :=
  grown_setCell (grown_setCell (grown_setCell (grown_setCell (grown_setCell (grown_setCell (grown_setCell (grown_setCell (grown_setCell (grown_setCell (grown_setCell (grown_refl _ _) _ _) _ _) _ _) _ _) _ _) _ _) _ _) _ _) _ _) _ _) _ _
theorem cells11d {w : World} {g T : Nat} {u0 u1 u2 u3 u4 u5 u6 u7 u8 u9 u10 : Value} (h : Blk w g T [u0, u1, u2, u3, u4, u5, u6, u7, u8, u9, u10]) : w.drew.cell? ⟨g, 0, none⟩ = some u0 ∧ w.drew.cell? ⟨g, 1, none⟩ = some u1 ∧ w.drew.cell? ⟨g, 2, none⟩ = some u2 ∧ w.drew.cell? ⟨g, 3, none⟩ = some u3 ∧ w.drew.cell? ⟨g, 4, none⟩ = some u4 ∧ w.drew.cell? ⟨g, 5, none⟩ = some u5 ∧ w.drew.cell? ⟨g, 6, none⟩ = some u6 ∧ w.drew.cell? ⟨g, 7, none⟩ = some u7 ∧ w.drew.cell? ⟨g, 8, none⟩ = some u8 ∧ w.drew.cell? ⟨g, 9, none⟩ = some u9 ∧ w.drew.cell? ⟨g, 10, none⟩ = some u10 := cells11 (w := w.drew) h
theorem cells3d {w : World} {g T : Nat} {u v x : Value} (h : Blk w g T [u, v, x]) : w.drew.cell? ⟨g, 0, none⟩ = some u ∧ w.drew.cell? ⟨g, 1, none⟩ = some v ∧ w.drew.cell? ⟨g, 2, none⟩ = some x := cells3 (w := w.drew) h
theorem in_drew {w : World} {a : Av} (h : a.In w w.heap.size) : a.In w.drew w.drew.heap.size := ⟨h.path, h.pathC, h.comms, h.commsC, h.raws, h.rawsC, h.each⟩
theorem widen_wide (gx : Nat) (W : World) (h : W.cell? ⟨gx, 0, none⟩ = some (.bool true)) :
    Calls Tryz.prog 63 #[.pointer (some ⟨gx, 0, none⟩)] W fun e w' => e = .returned (.tuple #[]) ∧ W = w' := by
  go_enter Tryz.func63, Tryz.ntmps63
  go_wp2_with fail
  first | go_end0 | refine bodyPost_ret (results_none rfl _ _ _) rfl ?_
  exact ⟨rfl, rfl⟩
theorem flatR_at : ∀ (L : List Rw) (j : Nat) (s : Rw), L[j]? = some s → (flatR L)[j * 3]? = some (.int .i64 s.flags) ∧ (flatR L)[j * 3 + 1]? = some (.int .i64 s.ty) ∧ (flatR L)[j * 3 + 2]? = some (.slice s.adr s.data.length s.cap)
  | [], j, s, h => by simp at h
  | x :: L, 0, s, h => by
    obtain rfl : x = s := by simpa using h
    exact ⟨rfl, rfl, rfl⟩
  | x :: L, j + 1, s, h => by
    have h2 := flatR_at L j s (by simpa using h)
    have e : flatR (x :: L) = [.int .i64 x.flags, .int .i64 x.ty, .slice x.adr x.data.length x.cap] ++ flatR L := by simp [flatR]
    rw [e]
    refine ⟨?_, ?_, ?_⟩
    · rw [List.getElem?_append_right (by simp; omega)]
      rw [show (j + 1) * 3 - [Value.int .i64 x.flags, .int .i64 x.ty, .slice x.adr x.data.length x.cap].length = j * 3 by simp; omega]
      exact h2.1
    · rw [List.getElem?_append_right (by simp; omega)]
      rw [show (j + 1) * 3 + 1 - [Value.int .i64 x.flags, .int .i64 x.ty, .slice x.adr x.data.length x.cap].length = j * 3 + 1 by simp; omega]
      exact h2.2.1
    · rw [List.getElem?_append_right (by simp; omega)]
      rw [show (j + 1) * 3 + 2 - [Value.int .i64 x.flags, .int .i64 x.ty, .slice x.adr x.data.length x.cap].length = j * 3 + 2 by simp; omega]
      exact h2.2.2
theorem rw_own {w : World} {B n c : Nat} {A : Option Addr} {L : List Rw} (h : OwnR w B (.slice A n c) L) : RwIn w w.heap.size A L := by
  intro hne
  have hp := List.length_pos_iff.2 hne
  rcases h.row.2 with ⟨hv, hn⟩ | ⟨g, cap, cur, hv, _, hg, _⟩
  · omega
  · have hA : A = some ⟨g, 0, none⟩ := by injection hv
    subst hA
    have hc := World.ownsRow.cells h.row (g := g) rfl
    refine ⟨g, 0, rfl, (Array.getElem?_eq_some_iff.1 hg).1, fun j s hj => ?_⟩
    obtain ⟨q1, q2, q3⟩ := flatR_at L j s hj
    have k1 := hc _ _ q1
    have k2 := hc _ _ q2
    have k3 := hc _ _ q3
    rw [Addr.add_lit] at k1 k2 k3
    obtain ⟨⟨B', hb⟩, _⟩ := h.each s (List.mem_of_getElem? hj)
    exact ⟨k1, k2, k3, hb.bytes⟩
theorem in_rows {w : World} {B : Nat} {S : Rs} {pA cA rA : Option Addr} {pn pc cn cc rn rc : Nat} {kv wv av : Value} (h : RowsR B w S (.slice pA pn pc) (.slice cA cn cc) (.slice rA rn rc) kv wv av) :
    ∃ (M : List Sg) (L : List Rw), M.length = pn ∧ cn = S.comms.length ∧ L.length = rn ∧ M.map Sg.abs = S.path ∧ L.map Rw.abs = S.raws ∧ Av.In w w.heap.size ⟨(S.org : Int), pA, pc, M, (S.next : Int), S.med, S.pref, S.atomic, S.has, (S.aas : Int), (S.aad : Int), cA, cc, S.comms, rA, rc, L⟩ := by
  obtain ⟨⟨pB, pH, M, po, pM⟩, ⟨cB, co⟩, ⟨L, ro, rM⟩, _, _, _⟩ := h
  obtain ⟨_, _, e1, p1, p2⟩ := own_form po.row
  obtain ⟨_, _, e2, c1, c2⟩ := own_form co
  obtain ⟨_, _, e3, r1, r2⟩ := own_form ro.row
  injection e1 with a1 a2 a3
  injection e2 with b1 b2 b3
  injection e3 with d1 d2 d3
  subst a1 a2 a3 b1 b2 b3 d1 d2 d3
  exact ⟨M, L, rfl, rfl, rfl, pM, rM, po.segs, ⟨p1, p2⟩, co.at, ⟨c1, c2⟩, rw_own ro, ⟨r1, r2⟩, fun s hs => (ro.each s hs).2⟩
/-- What Read leaves. -/
def RetRd (w : World) (S : Rs) (e : Ending) (w' : World) : Prop :=
  ∃ (x : Av) (kA : Option Addr) (kc : Nat), e = .returned (.tuple #[.agg x.row.toArray, .slice kA S.kinds.length kc, fault0]) ∧ x.In w' w'.heap.size ∧ Below w.heap.size w w' ∧
    x.org = (S.org : Int) ∧ x.path.map Sg.abs = S.path ∧ x.next = (S.next : Int) ∧ x.med = S.med ∧ x.pref = S.pref ∧ x.atomic = S.atomic ∧ x.has = S.has ∧ x.aas = (S.aas : Int) ∧ x.aad = (S.aad : Int) ∧ x.comms = S.comms ∧ x.raws.map Rw.abs = S.raws
set_option maxRecDepth 100000 in
set_option maxHeartbeats 12800000 in
theorem ReadA_wide (ok : Nat → Bool) (A : Option Addr) (c : Nat) (l : List UInt8) (w : World) (ht : TabK w) (h : Bytes w A l) (hc : l.length ≤ c) (hm : c ≤ maxLen) (hl : l.length ≤ 1000000) (Sf : Rs) (hr : RunK ok true l rs0 Sf) (hst : Steps ok w.heap.size true) :
    Calls Tryz.prog 31 #[.slice A l.length c, .bool true] w (RetRd w Sf) := by
  have hb0 := ((Below.refl w.heap.size w).alloc (Nat.le_refl _) (.cells zeroRow0.toArray 28)).alloc (by simp) (.cells #[.int .i64 0, .int .i64 0, .slice none 0 0] 43)
  obtain ⟨W0, hW0⟩ : ∃ W0, W0 = (w.alloc (.cells zeroRow0.toArray 28)).alloc (.cells #[.int .i64 0, .int .i64 0, .slice none 0 0] 43) := ⟨_, rfl⟩
  have kr : Blk W0 w.heap.size 28 zeroRow0 := by
    rw [hW0]
    exact (Blk.new w _ _).below ((Below.refl _ _).alloc (Nat.le_refl _) _) (by simp)
  have kf : Blk W0 (w.heap.size + 1) 43 [.int .i64 0, .int .i64 0, .slice none 0 0] := by
    have := Blk.new (w.alloc (.cells zeroRow0.toArray 28)) 43 [.int .i64 0, .int .i64 0, .slice none 0 0]
    rw [hW0]
    simpa using this
  rw [← hW0] at hb0
  have HW0 := Lib.hid hW0; have HB0 := Lib.hid hb0; have HKR := Lib.hid kr; have HKF := Lib.hid kf
  have HT := Lib.hid (fun (W : World) (hb : Below w.heap.size w W) => ht.below hb ht.lt)
  have HY := Lib.hid h; have HC := Lib.hid (And.intro hc (And.intro hm hl)); have HR := Lib.hid hr; have HST := Lib.hid hst
  have hz : W0.heap.size = w.heap.size + 2 := by rw [hW0]; simp
  have HZ := Lib.hid hz
  unfold zeroRow0 at HW0
  clear hb0 hW0 kr kf ht h hc hm hl hr hst hz
  have QZ := Lib.hid (Zero_any W0)
  unfold zeroRow at QZ
  go_enter Tryz.func31, Tryz.ntmps31
  go_wp2_with (rw [← HW0.out])
  refine QZ.out.mono ?_
  rintro e w1 ⟨rfl, hb1⟩
  obtain ⟨W1, hW1⟩ : ∃ W1, W1 = w1.alloc (.cells (rdRow true rs0 (.slice none 0 0) (.slice none 0 0) (.slice none 0 0) (.slice none 0 0) (.slice none 0 0) (.slice none 0 0)).toArray 99) := ⟨_, rfl⟩
  have hb01 : Below W0.heap.size W0 W1 := by rw [hW1]; exact hb1.alloc hb1.size _
  have hbw : Below w.heap.size w W1 := HB0.out.trans (hb01.mono HB0.out.size)
  have kx : Blk W1 w1.heap.size 99 (rdRow true rs0 (.slice none 0 0) (.slice none 0 0) (.slice none 0 0) (.slice none 0 0) (.slice none 0 0) (.slice none 0 0)) := by rw [hW1]; exact Blk.new w1 _ _
  have hs1 : W1.heap.size = w1.heap.size + 1 := by rw [hW1]; simp
  have hgx : w.heap.size + 1 < w1.heap.size := by have := hb1.size; have := HZ.out; omega
  have QN := Lib.hid (New_low w.heap.size A l.length c l rfl W1 (At.below HY.out hbw (Nat.le_refl _)) hbw.size HC.out.1 HC.out.2.1)
  have HL0 := Lib.hid (fun (W2 : World) (hr : Rd W2 w.heap.size W1.heap.size l false) (hb : Below W1.heap.size W1 W2) =>
    show LoopA w w1.heap.size W1.heap.size ok true l Sf rs0 l W2 from
    ⟨hbw.trans (hb.mono hbw.size), (HKR.out.below hb01 HKR.out.lt).below hb (HKR.out.below hb01 HKR.out.lt).lt, (HKF.out.below hb01 HKF.out.lt).below hb (HKF.out.below hb01 HKF.out.lt).lt, hgx, by omega, hr,
      ⟨_, _, _, _, _, _, kx.below hb kx.lt, ⟨PathO.nil _, ⟨0, World.ownsRow_nil _ _ _ _⟩, ⟨[], ⟨World.ownsRow_nil _ _ _ _, fun s hs => by cases hs⟩, rfl⟩, World.ownsRow_nil _ _ _ _, PathO.nil _, ⟨0, World.ownsRow_nil _ _ _ _⟩, fun _ => rfl⟩⟩, HR.out, by simp [rs0], fun _ => rfl⟩)
  have HW1 := Lib.hid (show W1 = w1.alloc (.cells #[.bool true, .int .i64 0, .slice none 0 0, .int .u32 0, .int .i64 (-1), .int .i64 (-1), .bool false, .bool false, .int .u32 0, .int .u32 0, .slice none 0 0, .slice none 0 0, .slice none 0 0, .slice none 0 0, .slice none 0 0] 99) from hW1)
  clear hb1 hW1 hb01 hbw kx hs1 hgx QZ
  go_wp2_with (rw [← HW1.out])
  refine QN.out.mono ?_
  rintro e w2 ⟨rfl, hr2, hb2⟩
  have LS := Lib.hid (HL0.out w2 hr2 hb2)
  clear hr2 hb2 HL0 QN
  generalize w1.heap.size = gx at *
  generalize W1.heap.size = gr at *
  clear HW1
  go_wp2_with fail
  go_loopw [10] (fun _ wr => ∃ S r, LoopA w gx gr ok true l Sf S r wr) (fun _ wr => leftAt wr gr)
  case atStart => exact ⟨_, _, LS.out⟩
  case round =>
    obtain ⟨S, r, LA⟩ := hrel
    have L := Lib.hid LA
    have HLA := Lib.hid (rd_left LA.rd)
    have QL := Lib.hid (Left_any _ _ _ _ wr LA.rd)
    by_cases hr : r = []
    · subst hr
      obtain rfl := LA.run.stop
      obtain ⟨pv, cv, rv, kv, wv, av, k1, k2⟩ := LA.inn
      have k3 := k2
      obtain ⟨⟨_, _, M0, po, _⟩, ⟨_, co⟩, ⟨_, ro, _⟩, ko, _, _⟩ := k3
      obtain ⟨pA, pc, hpv, _, _⟩ := own_form po.row
      obtain ⟨cA, cc, hcv, _, _⟩ := own_form co
      obtain ⟨rA, rc, hrv, _, _⟩ := own_form ro.row
      obtain ⟨kA, kc, hkv, _, _⟩ := own_form ko
      clear po co ro ko
      generalize M0.length = pn at hpv
      generalize S.comms.length = cn at hcv
      generalize List.length _ = rn at hrv
      subst hpv hcv hrv hkv
      have QW := Lib.hid (widen_wide gx wr (k1.cell 0))
      have d : ∀ i u, (rdRow true S (.slice pA pn pc) (.slice cA cn cc) (.slice rA rn rc) (.slice kA S.kinds.length kc) wv av)[i]? = some u → wr.cell? ⟨gx, i, none⟩ = some u := fun i u hu => by rw [k1.cell]; exact hu
      have d1 := d 1 _ rfl
      have d2 := d 2 _ rfl
      have d3 := d 3 _ rfl
      have d4 := d 4 _ rfl
      have d5 := d 5 _ rfl
      have d6 := d 6 _ rfl
      have d7 := d 7 _ rfl
      have d8 := d 8 _ rfl
      have d9 := d 9 _ rfl
      have d10 := d 10 _ rfl
      have d11 := d 11 _ rfl
      have d12 := d 12 _ rfl
      have ca := cells11 LA.res
      have fa := free11 LA.res
      have hgr := grown_set11 wr w.heap.size (.int .i64 (S.org : Int)) (.slice pA pn pc) (.int .u32 (S.next : Int)) (.int .i64 S.med) (.int .i64 S.pref) (.bool S.atomic) (.bool S.has) (.int .u32 (S.aas : Int)) (.int .u32 (S.aad : Int)) (.slice cA cn cc) (.slice rA rn rc)
      have kf := LA.flt.grown hgr (by omega)
      have ff := free3 kf
      have cf := cells3 kf
      have hgf := grown_set3 (((((((((((wr.setCell ⟨w.heap.size, 0, none⟩ (.int .i64 (S.org : Int))).setCell ⟨w.heap.size, 1, none⟩ (.slice pA pn pc)).setCell ⟨w.heap.size, 2, none⟩ (.int .u32 (S.next : Int))).setCell ⟨w.heap.size, 3, none⟩ (.int .i64 S.med)).setCell ⟨w.heap.size, 4, none⟩ (.int .i64 S.pref)).setCell ⟨w.heap.size, 5, none⟩ (.bool S.atomic)).setCell ⟨w.heap.size, 6, none⟩ (.bool S.has)).setCell ⟨w.heap.size, 7, none⟩ (.int .u32 (S.aas : Int))).setCell ⟨w.heap.size, 8, none⟩ (.int .u32 (S.aad : Int))).setCell ⟨w.heap.size, 9, none⟩ (.slice cA cn cc)).setCell ⟨w.heap.size, 10, none⟩ (.slice rA rn rc)) (w.heap.size + 1) (.int .i64 0) (.int .i64 0) (.slice none 0 0)
      have ks := LA.res.set11 (.int .i64 (S.org : Int)) (.slice pA pn pc) (.int .u32 (S.next : Int)) (.int .i64 S.med) (.int .i64 S.pref) (.bool S.atomic) (.bool S.has) (.int .u32 (S.aas : Int)) (.int .u32 (S.aad : Int)) (.slice cA cn cc) (.slice rA rn rc)
      have K5 := Lib.hid ((k2.keep LA.res (by decide) (by decide) (by decide) (by decide) (by decide) hgr).keep kf (by decide) (by decide) (by decide) (by decide) (by decide) hgf)
      have ra := cells11d (ks.grown hgf (by omega))
      have rf := cells3d (kf.set3 (.int .i64 0) (.int .i64 0) (.slice none 0 0))
      have HBE := Lib.hid ((LA.below.grown hgr LA.below.size (fun k hk => by cases hk; exact Nat.le_refl _)).grown hgf (Nat.le_trans LA.below.size hgr.size) (fun k hk => by cases hk; omega))
      clear k1 k2 d kf LA LS HLA hgr hgf ks
      go_wp2_with fail
      refine QL.out.mono ?_
      rintro e wx ⟨rfl, rfl⟩
      go_wp2_with fail
      refine QW.out.mono ?_
      rintro e wx ⟨rfl, rfl⟩
      have HRA := Lib.hid ra; have HRF := Lib.hid rf
      clear ra rf
      go_wp2_with fail
      go_region
      clear ca fa cf ff d1 d2 d3 d4 d5 d6 d7 d8 d9 d10 d11 d12
      go_wp2_with fail
      have ra := HRA.out
      have rf := HRF.out
      obtain ⟨M, L, hpn, hcn, hrn, hM, hL, hin⟩ := in_rows K5.out
      have HIN := Lib.hid (in_drew hin)
      clear hin
      subst hpn hcn hrn
      refine bodyPost_ret (v := .tuple #[.agg #[.int .i64 (S.org : Int), .slice pA M.length pc, .int .u32 (S.next : Int), .int .i64 S.med, .int .i64 S.pref, .bool S.atomic, .bool S.has, .int .u32 (S.aas : Int), .int .u32 (S.aad : Int), .slice cA S.comms.length cc, .slice rA L.length rc], .slice kA S.kinds.length kc, fault0])
        ?_ rfl ⟨⟨(S.org : Int), pA, pc, M, (S.next : Int), S.med, S.pref, S.atomic, S.has, (S.aas : Int), (S.aad : Int), cA, cc, S.comms, rA, rc, L⟩, kA, kc, rfl, HIN.out, HBE.out.drew, rfl, hM, rfl, rfl, rfl, rfl, rfl, rfl, rfl, rfl, hL⟩
      clear hM hL
      simp [results, Tryz.results31, go_sem, fault0, ra, rf]
    · have hp0 : 0 < r.length := List.length_pos_iff.2 hr
      have hpI : (0 : Int) < (r.length : Int) := by omega
      obtain ⟨hbad, hok, T, hs, hrun⟩ := LA.run.step hr
      have hnl := next_less hr
      have hnv := next_val r
      have hkn := step_kinds hs
      have hrl : r.length ≤ l.length := by have := LA.len; omega
      have HBY := Lib.hid ((At.below HY.out LA.below (Nat.le_refl _)).lift LA.below.size)
      have QX := Lib.hid (next4_any w.heap.size gr r l A c wr LA.rd (by have := HC.out.2.2; omega) HC.out.2.2 HC.out.1 HC.out.2.1 hrl hbad)
      have HSTEP := Lib.hid (And.intro hok (And.intro hs (And.intro hrun (And.intro hnl hkn))))
      obtain ⟨P, hP⟩ : ∃ P, P = nextA r := ⟨_, rfl⟩
      rw [← hP] at QX HSTEP hbad hnv
      have HNV := Lib.hid (show P.val.length ≤ 1000000 by have := HC.out.2.2; omega)
      clear hok hs hrun hnl hkn hrl hP LA hr LS hnv
      go_wp2_with fail
      refine QL.out.mono ?_
      rintro e wx ⟨rfl, rfl⟩
      go_wp2_with fail
      refine QX.out.mono ?_
      rintro e w3 ⟨A3, c3, A4, n4, c4, rfl, f1, f2, ho, hr3, hg3⟩
      rw [hbad] at hr3
      obtain ⟨q1, q2, q3, q4⟩ := L.out.next hr3 hg3
      have m3 : MidA w gx gr P.rest w3 := ⟨q1, q2, q3, L.out.gxl, L.out.grl, hr3⟩
      obtain ⟨W4, hW4⟩ : ∃ W4, W4 = w3.alloc (.cells #[.int .i64 (P.fl : Int), .int .i64 (P.kind : Int), .slice A3 P.val.length c3, .slice A4 n4 c4] 101) := ⟨_, rfl⟩
      have hb4 : Below w3.heap.size w3 W4 := by rw [hW4]; exact (Below.refl _ _).alloc (Nat.le_refl _) _
      have kp : Blk W4 w3.heap.size 101 [.int .i64 (P.fl : Int), .int .i64 (P.kind : Int), .slice A3 P.val.length c3, .slice A4 n4 c4] := by rw [hW4]; exact Blk.new w3 _ _
      have hgx3 : gx < w3.heap.size := by have h1 := L.out.grl; have h2 := hr3.lt; omega
      have q5 := q4.below hb4
      obtain ⟨pv, cv, rv, kv, wv, av, k1, k2⟩ := q5
      obtain ⟨kA, kc, hkv, kf1, kf2⟩ := own_form k2.kinds
      have hkl : S.kinds.length ≤ 1000000 := by have := L.out.len; have := HC.out.2.2; omega
      have QC := Lib.hid (ContainsNot_any kA kc S.kinds P.kind W4 (at64_own (c := kc) (by rw [← hkv]; exact k2.kinds)) HSTEP.out.2.2.2.2.1 hkl)
      have QT := Lib.hid (HST.out gx P.fl P.kind S T A3 A4 c3 n4 c4 _ P.val P.rest P.bad W4 HSTEP.out.1 (by have := L.out.gxl; omega) (m3.later hb4).below.size ⟨pv, cv, rv, kv, wv, av, k1, k2⟩ (HT.out W4 (m3.later hb4).below) (Own.below ho hb4) f1 f2 HNV.out HSTEP.out.2.1 (fun h8 => L.out.c8 (fun hm => HSTEP.out.2.2.2.2.1 (h8 ▸ hm))))
      have x12 : W4.cell? ⟨gx, 12, none⟩ = some (.slice kA S.kinds.length kc) := by rw [← hkv]; exact k1.cell 12
      have pc := cells4 kp
      have M4 := Lib.hid (m3.later hb4); have HW4 := Lib.hid hW4; have HKP := Lib.hid kp; have HGX := Lib.hid hgx3
      clear f1 f2 ho hr3 hg3 q1 q2 q3 q4 m3 hW4 hb4 kp hgx3 k1 k2 hkv kf1 kf2 hkl QX QL
      go_wp2_with (rw [← HW4.out])
      refine QC.out.mono ?_
      rintro e w5 ⟨rfl, rfl⟩
      go_wp2_with fail
      refine QT.out.mono ?_
      rintro e w5 ⟨rfl, hb5, hk5, hI5⟩
      have m5 := M4.out.take hb5 hk5
      have kp5 := hk5 _ _ _ (by have := HGX.out; omega) (by decide) HKP.out
      obtain ⟨W5, hW5⟩ : ∃ W5, W5 = w5.alloc (.cells #[.int .i64 0, .int .i64 0, .slice none 0 0] 43) := ⟨_, rfl⟩
      have hb6 : Below w5.heap.size w5 W5 := by rw [hW5]; exact (Below.refl _ _).alloc (Nat.le_refl _) _
      have kf5 : Blk W5 w5.heap.size 43 [.int .i64 0, .int .i64 0, .slice none 0 0] := by rw [hW5]; exact Blk.new w5 _ _
      have f50 : W5.cell? ⟨w5.heap.size, 0, none⟩ = some (.int .i64 0) := kf5.cell 0
      have p51 : W5.cell? ⟨w3.heap.size, 1, none⟩ = some (.int .i64 (P.kind : Int)) := (kp5.below hb6 kp5.lt).cell 1
      obtain ⟨pv', cv', rv', kv', wv', av', k1, k2⟩ := hI5.below hb6
      obtain ⟨kA', kc', hkv, kf1, kf2⟩ := own_form k2.kinds
      have x52 : W5.cell? ⟨gx, 12, none⟩ = some (.slice kA' S.kinds.length kc') := by rw [← hkv]; exact k1.cell 12
      have M5 := Lib.hid (m5.later hb6); have HK1 := Lib.hid k1; have HK2 := Lib.hid k2; have HKV := Lib.hid hkv
      have HROW : Hid (W5.ownsRow w.heap.size 3 1 (.slice kA' S.kinds.length kc') S.kinds.length (S.kinds.map fun (k : Nat) => Value.int .i64 (k : Int))) := Lib.hid (by rw [← hkv]; exact k2.kinds)
      have HSZ := Lib.hid (show (S.kinds.length + 1) * 8 ≤ 140737488355328 by have := L.out.len; have := HC.out.2.2; omega)
      clear hb5 hk5 hI5 m5 kp5 hb6 kf5 k1 k2 hkv kf1 kf2 pc x12 QC QT M4 HKP HW4
      unfold fault0
      subst hW5
      go_wp2_with (at_builtin; go_loud (refine wpList_app_one' isInt rfl (.tmp 45) (.tmp 48) rfl w.heap.size _ _ _ rfl (w5.alloc (.cells #[.int .i64 0, .int .i64 0, .slice none 0 0] 43)) [.int .i64 (P.kind : Int)] rfl HROW.out (by show Value.slice (some ⟨w5.heap.size + 1, 0, none⟩) 1 1 = _; simp) rfl (by intro u hu; rw [List.mem_singleton.1 hu]; rfl) HSZ.out M5.out.below.size ?_))
      intro v6 w6 hown6 hg6
      obtain ⟨kA6, kc6, rfl, g1, g2⟩ := own_form hown6
      have hk6 := blk_row HK1.out HROW.out (by decide) hg6
      have x6 : w6.cell? ⟨gx, 12, none⟩ = some kv' := hk6.cell 12
      have y6 : w6.frozen? ⟨gx, 12, none⟩ = false := hk6.free 12
      have m6 := M5.out.row HROW.out hg6
      have M7 := Lib.hid (m6.setx 12 (.slice kA6 (S.kinds.length + 1) kc6))
      have r6 := RowsR.kind (S := { T with kinds := S.kinds }) (k := P.kind) HK2.out hown6 (by rw [HKV.out]; exact hg6)
      have hset : w6.grownBy (w6.setCell ⟨gx, 12, none⟩ (.slice kA6 (S.kinds.length + 1) kc6)) (some gx) := grown_setCell (grown_refl _ _) _ _
      have r7 := rows_keep r6 hk6 hset
      rw [kinds_eta HSTEP.out.2.2.2.2.2] at r7
      have hb7 : Blk (w6.setCell ⟨gx, 12, none⟩ (.slice kA6 (S.kinds.length + 1) kc6)) gx 99 (rdRow true T pv' cv' rv' (.slice kA6 (S.kinds.length + 1) kc6) wv' av') := hk6.set 12 _
      have HLP := Lib.hid (show LoopA w gx gr ok true l Sf T P.rest (w6.setCell ⟨gx, 12, none⟩ (.slice kA6 (S.kinds.length + 1) kc6)) from
        ⟨M7.out.below, M7.out.res, M7.out.flt, M7.out.gxl, M7.out.grl, M7.out.rd, ⟨_, _, _, _, _, _, hb7, r7⟩, HSTEP.out.2.2.1, by
          have h1 := L.out.len; have h2 := HSTEP.out.2.2.2.1; rw [HSTEP.out.2.2.2.2.2, List.length_append]; simp only [List.length_cons, List.length_nil]; omega, step_c8 HSTEP.out.2.1 L.out.c8⟩)
      have HMS := Lib.hid (show leftAt (w6.setCell ⟨gx, 12, none⟩ (.slice kA6 (S.kinds.length + 1) kc6)) gr < leftAt wr gr by rw [rd_left HLP.out.rd, HLA.out]; have h2 := HSTEP.out.2.2.2.1; omega)
      clear hown6 hg6 g1 g2 hk6 m6 r6 r7 hset hb7 f50 p51 x52
      go_wp2_with fail
      go_roundw
      case rel => exact ⟨T, P.rest, HLP.out⟩
      case measure => exact HMS.out
end Go.Proofs.YtnaangnmlbgmkaaGreatDoor

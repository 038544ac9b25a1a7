/-
  Texts of this seat, put together: ReadN4.
-/
import Derived.Test.YtkpbldhkoobnaaaDoorWiden4Mg
import Derived.Test.YtkpbldhkoobnaaaDoorReadB4Mg
/-
  Attributes read in narrow numbers, where nothing is wrong with them: the program's.
-/
namespace Go.Proofs.YtkpbldhkoobnaaaDoor
set_option linter.unusedVariables false
set_option linter.unusedSimpArgs false
open Go.RowKit

theorem in_rows_n {w : World} {B : Nat} {S T : Rs} {M : List Sg} {pA cA rA : Option Addr} {pc cn cc rn rc : Nat} {pv kv wv av : Value} (h : RowsR B w S pv (.slice cA cn cc) (.slice rA rn rc) kv wv av) (hp : PathT w (.slice pA M.length pc) M) (h1 : M.length ≤ pc) (h2 : pc ≤ maxLen) :
    ∃ L : List Rw, cn = S.comms.length ∧ L.length = rn ∧ L.map Rw.abs = S.raws ∧ Av.In w w.heap.size ⟨(S.org : Int), pA, pc, M, (S.next : Int), S.med, S.pref, S.atomic, S.has, (T.aas : Int), (T.aad : Int), cA, cc, S.comms, rA, rc, L⟩ := by
  obtain ⟨_, ⟨cB, cO⟩, ⟨L, ro, rM⟩, _, _, _⟩ := h
  obtain ⟨_, _, e2, c1, c2⟩ := own_form cO
  obtain ⟨_, _, e3, r1, r2⟩ := own_form ro.row
  injection e2 with b1 b2 b3
  injection e3 with t1 t2 t3
  subst b1 b2 b3 t1 t2 t3
  exact ⟨L, rfl, rfl, rM, hp.segs, ⟨h1, h2⟩, cO.at, ⟨c1, c2⟩, rw_own ro, ⟨r1, r2⟩, fun s hs => (ro.each s hs).2⟩
set_option maxRecDepth 100000 in
set_option maxHeartbeats 12800000 in
theorem ReadA_nar (ok : Nat → Bool) (A : Option Addr) (c : Nat) (l : List UInt8) (w : World) (ht : TabK w) (h : Bytes w A l) (hc : l.length ≤ c) (hm : c ≤ maxLen) (hl : l.length ≤ 1000000) (Sf : Rs) (hr : RunK ok false l rs0 Sf) (hst : Steps ok w.heap.size false) (hpb : Sf.path.length ≤ 12 ∧ totA Sf.path ≤ 1048576 ∧ Sf.wpath.length ≤ 12 ∧ totA Sf.wpath ≤ 1048576) :
    Calls Tryd.prog 23 #[.slice A l.length c, .bool false] w (RetRd w (widenF false Sf)) := by
  have hb0 := ((Below.refl w.heap.size w).alloc (Nat.le_refl _) (.cells zeroRow0.toArray 27)).alloc (by simp) (.cells #[.int .i64 0, .int .i64 0, .slice none 0 0] 46)
  obtain ⟨W0, hW0⟩ : ∃ W0, W0 = (w.alloc (.cells zeroRow0.toArray 27)).alloc (.cells #[.int .i64 0, .int .i64 0, .slice none 0 0] 46) := ⟨_, rfl⟩
  have kr : Blk W0 w.heap.size 27 zeroRow0 := by
    rw [hW0]
    exact (Blk.new w _ _).below ((Below.refl _ _).alloc (Nat.le_refl _) _) (by simp)
  have kf : Blk W0 (w.heap.size + 1) 46 [.int .i64 0, .int .i64 0, .slice none 0 0] := by
    have := Blk.new (w.alloc (.cells zeroRow0.toArray 27)) 46 [.int .i64 0, .int .i64 0, .slice none 0 0]
    rw [hW0]
    simpa using this
  rw [← hW0] at hb0
  have HW0 := Lib.hid hW0; have HB0 := Lib.hid hb0; have HKR := Lib.hid kr; have HKF := Lib.hid kf
  have HT := Lib.hid (fun (W : World) (hb : Below w.heap.size w W) => ht.below hb ht.lt)
  have HY := Lib.hid h; have HC := Lib.hid (And.intro hc (And.intro hm hl)); have HR := Lib.hid hr; have HST := Lib.hid hst; have HPB := Lib.hid hpb
  have hz : W0.heap.size = w.heap.size + 2 := by rw [hW0]; simp
  have HZ := Lib.hid hz
  unfold zeroRow0 at HW0
  clear hb0 hW0 kr kf ht h hc hm hl hr hst hz hpb
  have QZ := Lib.hid (Zero_any W0)
  unfold zeroRow at QZ
  go_enter Tryd.func23, Tryd.ntmps23
  go_wp2_with (rw [← HW0.out])
  refine QZ.out.mono ?_
  rintro e w1 ⟨rfl, hb1⟩
  obtain ⟨W1, hW1⟩ : ∃ W1, W1 = w1.alloc (.cells (rdRow false rs0 (.slice none 0 0) (.slice none 0 0) (.slice none 0 0) (.slice none 0 0) (.slice none 0 0) (.slice none 0 0)).toArray 75) := ⟨_, rfl⟩
  have hb01 : Below W0.heap.size W0 W1 := by rw [hW1]; exact hb1.alloc hb1.size _
  have hbw : Below w.heap.size w W1 := HB0.out.trans (hb01.mono HB0.out.size)
  have kx : Blk W1 w1.heap.size 75 (rdRow false rs0 (.slice none 0 0) (.slice none 0 0) (.slice none 0 0) (.slice none 0 0) (.slice none 0 0) (.slice none 0 0)) := by rw [hW1]; exact Blk.new w1 _ _
  have hs1 : W1.heap.size = w1.heap.size + 1 := by rw [hW1]; simp
  have hgx : w.heap.size + 1 < w1.heap.size := by have := hb1.size; have := HZ.out; omega
  have QN := Lib.hid (New_low w.heap.size A l.length c l rfl W1 (At.below HY.out hbw (Nat.le_refl _)) hbw.size HC.out.1 HC.out.2.1)
  have HL0 := Lib.hid (fun (W2 : World) (hr : Rd W2 w.heap.size W1.heap.size l false) (hb : Below W1.heap.size W1 W2) =>
    show LoopA w w1.heap.size W1.heap.size ok false l Sf rs0 l W2 from
    ⟨hbw.trans (hb.mono hbw.size), (HKR.out.below hb01 HKR.out.lt).below hb (HKR.out.below hb01 HKR.out.lt).lt, (HKF.out.below hb01 HKF.out.lt).below hb (HKF.out.below hb01 HKF.out.lt).lt, hgx, by omega, hr,
      ⟨_, _, _, _, _, _, kx.below hb kx.lt, ⟨PathO.nil _, ⟨0, World.ownsRow_nil _ _ _ _⟩, ⟨[], ⟨World.ownsRow_nil _ _ _ _, fun s hs => by cases hs⟩, rfl⟩, World.ownsRow_nil _ _ _ _, PathO.nil _, ⟨0, World.ownsRow_nil _ _ _ _⟩, fun _ => rfl⟩⟩, HR.out, by simp [rs0], fun _ => rfl⟩)
  have HW1 := Lib.hid (show W1 = w1.alloc (.cells #[.bool false, .int .i64 0, .slice none 0 0, .int .u32 0, .int .i64 (-1), .int .i64 (-1), .bool false, .bool false, .int .u32 0, .int .u32 0, .slice none 0 0, .slice none 0 0, .slice none 0 0, .slice none 0 0, .slice none 0 0] 75) from hW1)
  clear hb1 hW1 hb01 hbw kx hs1 hgx QZ
  go_wp2_with (rw [← HW1.out])
  refine QN.out.mono ?_
  rintro e w2 ⟨rfl, hr2, hb2⟩
  have LS := Lib.hid (HL0.out w2 hr2 hb2)
  clear hr2 hb2 HL0 QN
  generalize w1.heap.size = gx at *
  generalize W1.heap.size = gr at *
  clear HW1
  go_wp2_with fail
  go_loopw [10] (fun _ wr => ∃ S r, LoopA w gx gr ok false l Sf S r wr) (fun _ wr => leftAt wr gr)
  case atStart => exact ⟨_, _, LS.out⟩
  case round =>
    obtain ⟨S, r, LA⟩ := hrel
    have L := Lib.hid LA
    have HLA := Lib.hid (rd_left LA.rd)
    have QL := Lib.hid (Left_any _ _ _ _ wr LA.rd)
    by_cases hr : r = []
    · subst hr
      obtain rfl := LA.run.stop
      obtain ⟨pv, cv, rv, kv, wv, av, k1, k2⟩ := LA.inn
      have QW := Lib.hid (widen4_any _ gx S wr pv cv rv kv wv av k1 k2 HPB.out)
      have hkx := k1
      have k3 := k2
      obtain ⟨_, ⟨_, co⟩, ⟨_, ro, _⟩, ko, _, _⟩ := k3
      obtain ⟨cA, cc, hcv, _, _⟩ := own_form co
      obtain ⟨rA, rc, hrv, _, _⟩ := own_form ro.row
      obtain ⟨kA, kc, hkv, _, _⟩ := own_form ko
      clear co ro ko
      generalize hcn : S.comms.length = cn at hcv
      generalize hrn : List.length _ = rn at hrv
      subst hcv hrv hkv
      have HK2 := Lib.hid k2
      have HX1 := Lib.hid k1
      clear hcn hrn k1 k2 hkx HLA LS
      go_wp2_with fail
      refine QL.out.mono ?_
      rintro e wx ⟨rfl, rfl⟩
      go_wp2_with fail
      refine QW.out.mono ?_
      rintro e wx ⟨M, pA, pc, rfl, hgW, hm1, hm2, k1, hpt, hpM⟩
      obtain ⟨T, hT⟩ : ∃ T, T = widenF false S := ⟨_, rfl⟩
      have HRE := Lib.hid (widen_rest S)
      rw [← hT] at k1 hpM HRE ⊢
      obtain ⟨pn, hpn⟩ : ∃ pn, pn = M.length := ⟨_, rfl⟩
      rw [← hpn] at k1 hpt hm1
      have LX := LA.below.grown hgW LA.below.size (fun k hk => by cases hk; have := LA.gxl; omega)
      have kres := LA.res.grown hgW (by have := LA.gxl; omega)
      have kflt := LA.flt.grown hgW (by have := LA.gxl; omega)
      have k2 := rows_keep HK2.out HX1.out hgW
      have d : ∀ i u, ([.bool false, .int .i64 (S.org : Int), .slice pA pn pc, .int .u32 (S.next : Int), .int .i64 S.med, .int .i64 S.pref, .bool S.atomic, .bool S.has, .int .u32 (T.aas : Int), .int .u32 (T.aad : Int), .slice cA cn cc, .slice rA rn rc, .slice kA S.kinds.length kc, wv, av] : List Value)[i]? = some u → wx.cell? ⟨gx, i, none⟩ = some u := fun i u hu => by rw [k1.cell]; exact hu
      have d1 := d 1 _ rfl
      have d2 := d 2 _ rfl
      have d3 := d 3 _ rfl
      have d4 := d 4 _ rfl
      have d5 := d 5 _ rfl
      have d6 := d 6 _ rfl
      have d7 := d 7 _ rfl
      have d8 := d 8 _ rfl
      have d9 := d 9 _ rfl
      have d10 := d 10 _ rfl
      have d11 := d 11 _ rfl
      have d12 := d 12 _ rfl
      have ca := cells11 kres
      have fa := free11 kres
      have hgr := grown_set11 wx w.heap.size (.int .i64 (S.org : Int)) (.slice pA pn pc) (.int .u32 (S.next : Int)) (.int .i64 S.med) (.int .i64 S.pref) (.bool S.atomic) (.bool S.has) (.int .u32 (T.aas : Int)) (.int .u32 (T.aad : Int)) (.slice cA cn cc) (.slice rA rn rc)
      have kf := kflt.grown hgr (by omega)
      have ff := free3 kf
      have cf := cells3 kf
      have hgf := grown_set3 (((((((((((wx.setCell ⟨w.heap.size, 0, none⟩ (.int .i64 (S.org : Int))).setCell ⟨w.heap.size, 1, none⟩ (.slice pA pn pc)).setCell ⟨w.heap.size, 2, none⟩ (.int .u32 (S.next : Int))).setCell ⟨w.heap.size, 3, none⟩ (.int .i64 S.med)).setCell ⟨w.heap.size, 4, none⟩ (.int .i64 S.pref)).setCell ⟨w.heap.size, 5, none⟩ (.bool S.atomic)).setCell ⟨w.heap.size, 6, none⟩ (.bool S.has)).setCell ⟨w.heap.size, 7, none⟩ (.int .u32 (T.aas : Int))).setCell ⟨w.heap.size, 8, none⟩ (.int .u32 (T.aad : Int))).setCell ⟨w.heap.size, 9, none⟩ (.slice cA cn cc)).setCell ⟨w.heap.size, 10, none⟩ (.slice rA rn rc)) (w.heap.size + 1) (.int .i64 0) (.int .i64 0) (.slice none 0 0)
      have ks := kres.set11 (.int .i64 (S.org : Int)) (.slice pA pn pc) (.int .u32 (S.next : Int)) (.int .i64 S.med) (.int .i64 S.pref) (.bool S.atomic) (.bool S.has) (.int .u32 (T.aas : Int)) (.int .u32 (T.aad : Int)) (.slice cA cn cc) (.slice rA rn rc)
      have K5 := Lib.hid ((k2.keep kres (by decide) (by decide) (by decide) (by decide) (by decide) hgr).keep kf (by decide) (by decide) (by decide) (by decide) (by decide) hgf)
      have HPT5 := Lib.hid ((hpt.keep kres (by decide) (by decide) hgr).keep kf (by decide) (by decide) hgf)
      have ra := cells11d (ks.grown hgf (by omega))
      have rf := cells3d (kf.set3 (.int .i64 0) (.int .i64 0) (.slice none 0 0))
      have HBE := Lib.hid ((LX.grown hgr LX.size (fun k hk => by cases hk; exact Nat.le_refl _)).grown hgf (Nat.le_trans LX.size hgr.size) (fun k hk => by cases hk; omega))
      have HPM := Lib.hid hpM; have HM12 := Lib.hid (And.intro hm1 hm2); have HPN := Lib.hid hpn; have HTT := Lib.hid hT
      clear k1 k2 d kf LA hgr hgf ks LX kres kflt hpt hpM hm1 hm2 hgW hT hpn QW
      have HRA := Lib.hid ra; have HRF := Lib.hid rf
      clear ra rf
      go_wp2_with fail
      go_region
      clear ca fa cf ff d1 d2 d3 d4 d5 d6 d7 d8 d9 d10 d11 d12
      go_wp2_with fail
      have ra := HRA.out
      have rf := HRF.out
      have hpn := HPN.out
      have hT := HTT.out
      subst hpn hT
      obtain ⟨L, hcn, hrn, hL, hin⟩ := in_rows_n (T := widenF false S) K5.out HPT5.out HM12.out.1 HM12.out.2
      have HIN := Lib.hid (in_drew hin)
      clear hin
      subst hcn hrn
      obtain ⟨s1, s2, s3, s4, s5, s6, s7, s8, s9⟩ := HRE.out
      refine bodyPost_ret (v := .tuple #[.agg #[.int .i64 (S.org : Int), .slice pA M.length pc, .int .u32 (S.next : Int), .int .i64 S.med, .int .i64 S.pref, .bool S.atomic, .bool S.has, .int .u32 ((widenF false S).aas : Int), .int .u32 ((widenF false S).aad : Int), .slice cA S.comms.length cc, .slice rA L.length rc], .slice kA S.kinds.length kc, fault0])
        ?_ rfl ⟨⟨(S.org : Int), pA, pc, M, (S.next : Int), S.med, S.pref, S.atomic, S.has, ((widenF false S).aas : Int), ((widenF false S).aad : Int), cA, cc, S.comms, rA, rc, L⟩, kA, kc, by rw [s9]; rfl, HIN.out, HBE.out.drew, by rw [s1], HPM.out, by rw [s2], s3.symm, s4.symm, s5.symm, s6.symm, rfl, rfl, s7.symm, hL.trans s8.symm⟩
      clear s1 s2 s3 s4 s5 s6 s7 s8 s9 hL
      simp [results, Tryd.results23, go_sem, fault0, ra, rf]
    · have hp0 : 0 < r.length := List.length_pos_iff.2 hr
      have hpI : (0 : Int) < (r.length : Int) := by omega
      obtain ⟨hbad, hok, T, hs, hrun⟩ := LA.run.step hr
      have hnl := next_less hr
      have hnv := next_val r
      have hkn := step_kinds hs
      have hrl : r.length ≤ l.length := by have := LA.len; omega
      have HBY := Lib.hid ((At.below HY.out LA.below (Nat.le_refl _)).lift LA.below.size)
      have QX := Lib.hid (next4_any w.heap.size gr r l A c wr LA.rd (by have := HC.out.2.2; omega) HC.out.2.2 HC.out.1 HC.out.2.1 hrl hbad)
      have HSTEP := Lib.hid (And.intro hok (And.intro hs (And.intro hrun (And.intro hnl hkn))))
      obtain ⟨P, hP⟩ : ∃ P, P = nextA r := ⟨_, rfl⟩
      rw [← hP] at QX HSTEP hbad hnv
      have HNV := Lib.hid (show P.val.length ≤ 1000000 by have := HC.out.2.2; omega)
      clear hok hs hrun hnl hkn hrl hP LA hr LS hnv
      go_wp2_with fail
      refine QL.out.mono ?_
      rintro e wx ⟨rfl, rfl⟩
      go_wp2_with fail
      refine QX.out.mono ?_
      rintro e w3 ⟨A3, c3, A4, n4, c4, rfl, f1, f2, ho, hr3, hg3⟩
      rw [hbad] at hr3
      obtain ⟨q1, q2, q3, q4⟩ := L.out.next hr3 hg3
      have m3 : MidA w gx gr P.rest w3 := ⟨q1, q2, q3, L.out.gxl, L.out.grl, hr3⟩
      obtain ⟨W4, hW4⟩ : ∃ W4, W4 = w3.alloc (.cells #[.int .i64 (P.fl : Int), .int .i64 (P.kind : Int), .slice A3 P.val.length c3, .slice A4 n4 c4] 80) := ⟨_, rfl⟩
      have hb4 : Below w3.heap.size w3 W4 := by rw [hW4]; exact (Below.refl _ _).alloc (Nat.le_refl _) _
      have kp : Blk W4 w3.heap.size 80 [.int .i64 (P.fl : Int), .int .i64 (P.kind : Int), .slice A3 P.val.length c3, .slice A4 n4 c4] := by rw [hW4]; exact Blk.new w3 _ _
      have hgx3 : gx < w3.heap.size := by have h1 := L.out.grl; have h2 := hr3.lt; omega
      have q5 := q4.below hb4
      obtain ⟨pv, cv, rv, kv, wv, av, k1, k2⟩ := q5
      obtain ⟨kA, kc, hkv, kf1, kf2⟩ := own_form k2.kinds
      have hkl : S.kinds.length ≤ 1000000 := by have := L.out.len; have := HC.out.2.2; omega
      have QC := Lib.hid (ContainsNot_any kA kc S.kinds P.kind W4 (at64_own (c := kc) (by rw [← hkv]; exact k2.kinds)) HSTEP.out.2.2.2.2.1 hkl)
      have QT := Lib.hid (HST.out gx P.fl P.kind S T A3 A4 c3 n4 c4 _ P.val P.rest P.bad W4 HSTEP.out.1 (by have := L.out.gxl; omega) (m3.later hb4).below.size ⟨pv, cv, rv, kv, wv, av, k1, k2⟩ (HT.out W4 (m3.later hb4).below) (Own.below ho hb4) f1 f2 HNV.out HSTEP.out.2.1 (fun h8 => L.out.c8 (fun hm => HSTEP.out.2.2.2.2.1 (h8 ▸ hm))))
      have x12 : W4.cell? ⟨gx, 12, none⟩ = some (.slice kA S.kinds.length kc) := by rw [← hkv]; exact k1.cell 12
      have pc := cells4 kp
      have M4 := Lib.hid (m3.later hb4); have HW4 := Lib.hid hW4; have HKP := Lib.hid kp; have HGX := Lib.hid hgx3
      clear f1 f2 ho hr3 hg3 q1 q2 q3 q4 m3 hW4 hb4 kp hgx3 k1 k2 hkv kf1 kf2 hkl QX QL
      go_wp2_with (rw [← HW4.out])
      refine QC.out.mono ?_
      rintro e w5 ⟨rfl, rfl⟩
      go_wp2_with fail
      refine QT.out.mono ?_
      rintro e w5 ⟨rfl, hb5, hk5, hI5⟩
      have m5 := M4.out.take hb5 hk5
      have kp5 := hk5 _ _ _ (by have := HGX.out; omega) (by decide) HKP.out
      obtain ⟨W5, hW5⟩ : ∃ W5, W5 = w5.alloc (.cells #[.int .i64 0, .int .i64 0, .slice none 0 0] 46) := ⟨_, rfl⟩
      have hb6 : Below w5.heap.size w5 W5 := by rw [hW5]; exact (Below.refl _ _).alloc (Nat.le_refl _) _
      have kf5 : Blk W5 w5.heap.size 46 [.int .i64 0, .int .i64 0, .slice none 0 0] := by rw [hW5]; exact Blk.new w5 _ _
      have f50 : W5.cell? ⟨w5.heap.size, 0, none⟩ = some (.int .i64 0) := kf5.cell 0
      have p51 : W5.cell? ⟨w3.heap.size, 1, none⟩ = some (.int .i64 (P.kind : Int)) := (kp5.below hb6 kp5.lt).cell 1
      obtain ⟨pv', cv', rv', kv', wv', av', k1, k2⟩ := hI5.below hb6
      obtain ⟨kA', kc', hkv, kf1, kf2⟩ := own_form k2.kinds
      have x52 : W5.cell? ⟨gx, 12, none⟩ = some (.slice kA' S.kinds.length kc') := by rw [← hkv]; exact k1.cell 12
      have M5 := Lib.hid (m5.later hb6); have HK1 := Lib.hid k1; have HK2 := Lib.hid k2; have HKV := Lib.hid hkv
      have HROW : Hid (W5.ownsRow w.heap.size 3 1 (.slice kA' S.kinds.length kc') S.kinds.length (S.kinds.map fun (k : Nat) => Value.int .i64 (k : Int))) := Lib.hid (by rw [← hkv]; exact k2.kinds)
      have HSZ := Lib.hid (show (S.kinds.length + 1) * 8 ≤ 140737488355328 by have := L.out.len; have := HC.out.2.2; omega)
      clear hb5 hk5 hI5 m5 kp5 hb6 kf5 k1 k2 hkv kf1 kf2 pc x12 QC QT M4 HKP HW4
      unfold fault0
      subst hW5
      go_wp2_with (at_builtin; go_loud (refine wpList_app_one' isInt rfl (.tmp 45) (.tmp 48) rfl w.heap.size _ _ _ rfl (w5.alloc (.cells #[.int .i64 0, .int .i64 0, .slice none 0 0] 46)) [.int .i64 (P.kind : Int)] rfl HROW.out (by show Value.slice (some ⟨w5.heap.size + 1, 0, none⟩) 1 1 = _; simp) rfl (by intro u hu; rw [List.mem_singleton.1 hu]; rfl) HSZ.out M5.out.below.size ?_))
      intro v6 w6 hown6 hg6
      obtain ⟨kA6, kc6, rfl, g1, g2⟩ := own_form hown6
      have hk6 := blk_row HK1.out HROW.out (by decide) hg6
      have x6 : w6.cell? ⟨gx, 12, none⟩ = some kv' := hk6.cell 12
      have y6 : w6.frozen? ⟨gx, 12, none⟩ = false := hk6.free 12
      have m6 := M5.out.row HROW.out hg6
      have M7 := Lib.hid (m6.setx 12 (.slice kA6 (S.kinds.length + 1) kc6))
      have r6 := RowsR.kind (S := { T with kinds := S.kinds }) (k := P.kind) HK2.out hown6 (by rw [HKV.out]; exact hg6)
      have hset : w6.grownBy (w6.setCell ⟨gx, 12, none⟩ (.slice kA6 (S.kinds.length + 1) kc6)) (some gx) := grown_setCell (grown_refl _ _) _ _
      have r7 := rows_keep r6 hk6 hset
      rw [kinds_eta HSTEP.out.2.2.2.2.2] at r7
      have hb7 : Blk (w6.setCell ⟨gx, 12, none⟩ (.slice kA6 (S.kinds.length + 1) kc6)) gx 75 (rdRow false T pv' cv' rv' (.slice kA6 (S.kinds.length + 1) kc6) wv' av') := hk6.set 12 _
      have HLP := Lib.hid (show LoopA w gx gr ok false l Sf T P.rest (w6.setCell ⟨gx, 12, none⟩ (.slice kA6 (S.kinds.length + 1) kc6)) from
        ⟨M7.out.below, M7.out.res, M7.out.flt, M7.out.gxl, M7.out.grl, M7.out.rd, ⟨_, _, _, _, _, _, hb7, r7⟩, HSTEP.out.2.2.1, by
          have h1 := L.out.len; have h2 := HSTEP.out.2.2.2.1; rw [HSTEP.out.2.2.2.2.2, List.length_append]; simp only [List.length_cons, List.length_nil]; omega, step_c8 HSTEP.out.2.1 L.out.c8⟩)
      have HMS := Lib.hid (show leftAt (w6.setCell ⟨gx, 12, none⟩ (.slice kA6 (S.kinds.length + 1) kc6)) gr < leftAt wr gr by rw [rd_left HLP.out.rd, HLA.out]; have h2 := HSTEP.out.2.2.2.1; omega)
      clear hown6 hg6 g1 g2 hk6 m6 r6 r7 hset hb7 f50 p51 x52
      go_wp2_with fail
      go_roundw
      case rel => exact ⟨T, P.rest, HLP.out⟩
      case measure => exact HMS.out
end Go.Proofs.YtkpbldhkoobnaaaDoor

/-
  Texts of this seat, put together: ReadR5, StV5, First3, Unfit5, UReadN5.
-/
import Derived.Test.YtbfbnoonegdlgaaGreatDoorReadB4Mg
import Derived.Test.YtbfbnoonegdlgaaGreatDoorMg21
import Derived.Test.YtbfbnoonegdlgaaGreatDoorMg1
import Derived.Test.YtbfbnoonegdlgaaGreatDoorMg8
import Derived.Test.YtbfbnoonegdlgaaGreatDoorMg19
import Derived.Test.YtbfbnoonegdlgaaGreatDoorMg15
import Derived.Test.YtbfbnoonegdlgaaGreatDoorURead5Mg
/-
  Attributes out of wide bytes, with the rows as they lie.
-/
namespace Go.Proofs.YtbfbnoonegdlgaaGreatDoor
set_option linter.unusedVariables false
set_option linter.unusedSimpArgs false
open Go.RowKit

/-- What attrs.Read leaves: its rows as they lie, told apart by their kinds. -/
def RetRdR (w : World) (S : Rs) (e : Ending) (w' : World) : Prop :=
  ∃ (pA : Option Addr) (pn pc : Nat) (cA : Option Addr) (cn cc : Nat) (rA : Option Addr) (rn rc : Nat) (kA : Option Addr) (kc : Nat) (wv av : Value), e = .returned (.tuple #[.agg #[.int .i64 (S.org : Int), .slice pA pn pc, .int .u32 (S.next : Int), .int .i64 S.med, .int .i64 S.pref, .bool S.atomic, .bool S.has, .int .u32 (S.aas : Int), .int .u32 (S.aad : Int), .slice cA cn cc, .slice rA rn rc], .slice kA S.kinds.length kc, fault0]) ∧ RowsR w.heap.size w' S (.slice pA pn pc) (.slice cA cn cc) (.slice rA rn rc) (.slice kA S.kinds.length kc) wv av ∧ Below w.heap.size w w'
set_option maxRecDepth 100000 in
set_option maxHeartbeats 12800000 in
theorem ReadA_rows (ok : Nat → Bool) (A : Option Addr) (c : Nat) (l : List UInt8) (w : World) (ht : TabK w) (h : Bytes w A l) (hc : l.length ≤ c) (hm : c ≤ maxLen) (hl : l.length ≤ 1000000) (Sf : Rs) (hr : RunK ok true l rs0 Sf) (hst : Steps ok w.heap.size true) :
    Calls Tryz.prog 31 #[.slice A l.length c, .bool true] w (RetRdR w Sf) := by
  have hb0 := ((Below.refl w.heap.size w).alloc (Nat.le_refl _) (.cells zeroRow0.toArray 28)).alloc (by simp) (.cells #[.int .i64 0, .int .i64 0, .slice none 0 0] 43)
  obtain ⟨W0, hW0⟩ : ∃ W0, W0 = (w.alloc (.cells zeroRow0.toArray 28)).alloc (.cells #[.int .i64 0, .int .i64 0, .slice none 0 0] 43) := ⟨_, rfl⟩
  have kr : Blk W0 w.heap.size 28 zeroRow0 := by
    rw [hW0]
    exact (Blk.new w _ _).below ((Below.refl _ _).alloc (Nat.le_refl _) _) (by simp)
  have kf : Blk W0 (w.heap.size + 1) 43 [.int .i64 0, .int .i64 0, .slice none 0 0] := by
    have := Blk.new (w.alloc (.cells zeroRow0.toArray 28)) 43 [.int .i64 0, .int .i64 0, .slice none 0 0]
    rw [hW0]
    simpa using this
  rw [← hW0] at hb0
  have HW0 := Lib.hid hW0; have HB0 := Lib.hid hb0; have HKR := Lib.hid kr; have HKF := Lib.hid kf
  have HT := Lib.hid (fun (W : World) (hb : Below w.heap.size w W) => ht.below hb ht.lt)
  have HY := Lib.hid h; have HC := Lib.hid (And.intro hc (And.intro hm hl)); have HR := Lib.hid hr; have HST := Lib.hid hst
  have hz : W0.heap.size = w.heap.size + 2 := by rw [hW0]; simp
  have HZ := Lib.hid hz
  unfold zeroRow0 at HW0
  clear hb0 hW0 kr kf ht h hc hm hl hr hst hz
  have QZ := Lib.hid (Zero_any W0)
  unfold zeroRow at QZ
  go_enter Tryz.func31, Tryz.ntmps31
  go_wp2_with (rw [← HW0.out])
  refine QZ.out.mono ?_
  rintro e w1 ⟨rfl, hb1⟩
  obtain ⟨W1, hW1⟩ : ∃ W1, W1 = w1.alloc (.cells (rdRow true rs0 (.slice none 0 0) (.slice none 0 0) (.slice none 0 0) (.slice none 0 0) (.slice none 0 0) (.slice none 0 0)).toArray 99) := ⟨_, rfl⟩
  have hb01 : Below W0.heap.size W0 W1 := by rw [hW1]; exact hb1.alloc hb1.size _
  have hbw : Below w.heap.size w W1 := HB0.out.trans (hb01.mono HB0.out.size)
  have kx : Blk W1 w1.heap.size 99 (rdRow true rs0 (.slice none 0 0) (.slice none 0 0) (.slice none 0 0) (.slice none 0 0) (.slice none 0 0) (.slice none 0 0)) := by rw [hW1]; exact Blk.new w1 _ _
  have hs1 : W1.heap.size = w1.heap.size + 1 := by rw [hW1]; simp
  have hgx : w.heap.size + 1 < w1.heap.size := by have := hb1.size; have := HZ.out; omega
  have QN := Lib.hid (New_low w.heap.size A l.length c l rfl W1 (At.below HY.out hbw (Nat.le_refl _)) hbw.size HC.out.1 HC.out.2.1)
  have HL0 := Lib.hid (fun (W2 : World) (hr : Rd W2 w.heap.size W1.heap.size l false) (hb : Below W1.heap.size W1 W2) =>
    show LoopA w w1.heap.size W1.heap.size ok true l Sf rs0 l W2 from
    ⟨hbw.trans (hb.mono hbw.size), (HKR.out.below hb01 HKR.out.lt).below hb (HKR.out.below hb01 HKR.out.lt).lt, (HKF.out.below hb01 HKF.out.lt).below hb (HKF.out.below hb01 HKF.out.lt).lt, hgx, by omega, hr,
      ⟨_, _, _, _, _, _, kx.below hb kx.lt, ⟨PathO.nil _, ⟨0, World.ownsRow_nil _ _ _ _⟩, ⟨[], ⟨World.ownsRow_nil _ _ _ _, fun s hs => by cases hs⟩, rfl⟩, World.ownsRow_nil _ _ _ _, PathO.nil _, ⟨0, World.ownsRow_nil _ _ _ _⟩, fun _ => rfl⟩⟩, HR.out, by simp [rs0], fun _ => rfl⟩)
  have HW1 := Lib.hid (show W1 = w1.alloc (.cells #[.bool true, .int .i64 0, .slice none 0 0, .int .u32 0, .int .i64 (-1), .int .i64 (-1), .bool false, .bool false, .int .u32 0, .int .u32 0, .slice none 0 0, .slice none 0 0, .slice none 0 0, .slice none 0 0, .slice none 0 0] 99) from hW1)
  clear hb1 hW1 hb01 hbw kx hs1 hgx QZ
  go_wp2_with (rw [← HW1.out])
  refine QN.out.mono ?_
  rintro e w2 ⟨rfl, hr2, hb2⟩
  have LS := Lib.hid (HL0.out w2 hr2 hb2)
  clear hr2 hb2 HL0 QN
  generalize w1.heap.size = gx at *
  generalize W1.heap.size = gr at *
  clear HW1
  go_wp2_with fail
  go_loopw [10] (fun _ wr => ∃ S r, LoopA w gx gr ok true l Sf S r wr) (fun _ wr => leftAt wr gr)
  case atStart => exact ⟨_, _, LS.out⟩
  case round =>
    obtain ⟨S, r, LA⟩ := hrel
    have L := Lib.hid LA
    have HLA := Lib.hid (rd_left LA.rd)
    have QL := Lib.hid (Left_any _ _ _ _ wr LA.rd)
    by_cases hr : r = []
    · subst hr
      obtain rfl := LA.run.stop
      obtain ⟨pv, cv, rv, kv, wv, av, k1, k2⟩ := LA.inn
      have k3 := k2
      obtain ⟨⟨_, _, M0, po, _⟩, ⟨_, co⟩, ⟨_, ro, _⟩, ko, _, _⟩ := k3
      obtain ⟨pA, pc, hpv, _, _⟩ := own_form po.row
      obtain ⟨cA, cc, hcv, _, _⟩ := own_form co
      obtain ⟨rA, rc, hrv, _, _⟩ := own_form ro.row
      obtain ⟨kA, kc, hkv, _, _⟩ := own_form ko
      clear po co ro ko
      generalize M0.length = pn at hpv
      generalize S.comms.length = cn at hcv
      generalize List.length _ = rn at hrv
      subst hpv hcv hrv hkv
      have QW := Lib.hid (widen_wide gx wr (k1.cell 0))
      have d : ∀ i u, (rdRow true S (.slice pA pn pc) (.slice cA cn cc) (.slice rA rn rc) (.slice kA S.kinds.length kc) wv av)[i]? = some u → wr.cell? ⟨gx, i, none⟩ = some u := fun i u hu => by rw [k1.cell]; exact hu
      have d1 := d 1 _ rfl
      have d2 := d 2 _ rfl
      have d3 := d 3 _ rfl
      have d4 := d 4 _ rfl
      have d5 := d 5 _ rfl
      have d6 := d 6 _ rfl
      have d7 := d 7 _ rfl
      have d8 := d 8 _ rfl
      have d9 := d 9 _ rfl
      have d10 := d 10 _ rfl
      have d11 := d 11 _ rfl
      have d12 := d 12 _ rfl
      have ca := cells11 LA.res
      have fa := free11 LA.res
      have hgr := grown_set11 wr w.heap.size (.int .i64 (S.org : Int)) (.slice pA pn pc) (.int .u32 (S.next : Int)) (.int .i64 S.med) (.int .i64 S.pref) (.bool S.atomic) (.bool S.has) (.int .u32 (S.aas : Int)) (.int .u32 (S.aad : Int)) (.slice cA cn cc) (.slice rA rn rc)
      have kf := LA.flt.grown hgr (by omega)
      have ff := free3 kf
      have cf := cells3 kf
      have hgf := grown_set3 (((((((((((wr.setCell ⟨w.heap.size, 0, none⟩ (.int .i64 (S.org : Int))).setCell ⟨w.heap.size, 1, none⟩ (.slice pA pn pc)).setCell ⟨w.heap.size, 2, none⟩ (.int .u32 (S.next : Int))).setCell ⟨w.heap.size, 3, none⟩ (.int .i64 S.med)).setCell ⟨w.heap.size, 4, none⟩ (.int .i64 S.pref)).setCell ⟨w.heap.size, 5, none⟩ (.bool S.atomic)).setCell ⟨w.heap.size, 6, none⟩ (.bool S.has)).setCell ⟨w.heap.size, 7, none⟩ (.int .u32 (S.aas : Int))).setCell ⟨w.heap.size, 8, none⟩ (.int .u32 (S.aad : Int))).setCell ⟨w.heap.size, 9, none⟩ (.slice cA cn cc)).setCell ⟨w.heap.size, 10, none⟩ (.slice rA rn rc)) (w.heap.size + 1) (.int .i64 0) (.int .i64 0) (.slice none 0 0)
      have ks := LA.res.set11 (.int .i64 (S.org : Int)) (.slice pA pn pc) (.int .u32 (S.next : Int)) (.int .i64 S.med) (.int .i64 S.pref) (.bool S.atomic) (.bool S.has) (.int .u32 (S.aas : Int)) (.int .u32 (S.aad : Int)) (.slice cA cn cc) (.slice rA rn rc)
      have K5 := Lib.hid ((k2.keep LA.res (by decide) (by decide) (by decide) (by decide) (by decide) hgr).keep kf (by decide) (by decide) (by decide) (by decide) (by decide) hgf)
      have ra := cells11d (ks.grown hgf (by omega))
      have rf := cells3d (kf.set3 (.int .i64 0) (.int .i64 0) (.slice none 0 0))
      have HBE := Lib.hid ((LA.below.grown hgr LA.below.size (fun k hk => by cases hk; exact Nat.le_refl _)).grown hgf (Nat.le_trans LA.below.size hgr.size) (fun k hk => by cases hk; omega))
      clear k1 k2 d kf LA LS HLA hgr hgf ks
      go_wp2_with fail
      refine QL.out.mono ?_
      rintro e wx ⟨rfl, rfl⟩
      go_wp2_with fail
      refine QW.out.mono ?_
      rintro e wx ⟨rfl, rfl⟩
      have HRA := Lib.hid ra; have HRF := Lib.hid rf
      clear ra rf
      go_wp2_with fail
      go_region
      clear ca fa cf ff d1 d2 d3 d4 d5 d6 d7 d8 d9 d10 d11 d12
      go_wp2_with fail
      have ra := HRA.out
      have rf := HRF.out
      refine bodyPost_ret (v := .tuple #[.agg #[.int .i64 (S.org : Int), .slice pA pn pc, .int .u32 (S.next : Int), .int .i64 S.med, .int .i64 S.pref, .bool S.atomic, .bool S.has, .int .u32 (S.aas : Int), .int .u32 (S.aad : Int), .slice cA cn cc, .slice rA rn rc], .slice kA S.kinds.length kc, fault0])
        ?_ rfl ⟨pA, pn, pc, cA, cn, cc, rA, rn, rc, kA, kc, wv, av, rfl, K5.out.below (Below.refl _ _).drew, HBE.out.drew⟩
      simp [results, Tryz.results31, go_sem, fault0, ra, rf]
    · have hp0 : 0 < r.length := List.length_pos_iff.2 hr
      have hpI : (0 : Int) < (r.length : Int) := by omega
      obtain ⟨hbad, hok, T, hs, hrun⟩ := LA.run.step hr
      have hnl := next_less hr
      have hnv := next_val r
      have hkn := step_kinds hs
      have hrl : r.length ≤ l.length := by have := LA.len; omega
      have HBY := Lib.hid ((At.below HY.out LA.below (Nat.le_refl _)).lift LA.below.size)
      have QX := Lib.hid (next4_any w.heap.size gr r l A c wr LA.rd (by have := HC.out.2.2; omega) HC.out.2.2 HC.out.1 HC.out.2.1 hrl hbad)
      have HSTEP := Lib.hid (And.intro hok (And.intro hs (And.intro hrun (And.intro hnl hkn))))
      obtain ⟨P, hP⟩ : ∃ P, P = nextA r := ⟨_, rfl⟩
      rw [← hP] at QX HSTEP hbad hnv
      have HNV := Lib.hid (show P.val.length ≤ 1000000 by have := HC.out.2.2; omega)
      clear hok hs hrun hnl hkn hrl hP LA hr LS hnv
      go_wp2_with fail
      refine QL.out.mono ?_
      rintro e wx ⟨rfl, rfl⟩
      go_wp2_with fail
      refine QX.out.mono ?_
      rintro e w3 ⟨A3, c3, A4, n4, c4, rfl, f1, f2, ho, hr3, hg3⟩
      rw [hbad] at hr3
      obtain ⟨q1, q2, q3, q4⟩ := L.out.next hr3 hg3
      have m3 : MidA w gx gr P.rest w3 := ⟨q1, q2, q3, L.out.gxl, L.out.grl, hr3⟩
      obtain ⟨W4, hW4⟩ : ∃ W4, W4 = w3.alloc (.cells #[.int .i64 (P.fl : Int), .int .i64 (P.kind : Int), .slice A3 P.val.length c3, .slice A4 n4 c4] 101) := ⟨_, rfl⟩
      have hb4 : Below w3.heap.size w3 W4 := by rw [hW4]; exact (Below.refl _ _).alloc (Nat.le_refl _) _
      have kp : Blk W4 w3.heap.size 101 [.int .i64 (P.fl : Int), .int .i64 (P.kind : Int), .slice A3 P.val.length c3, .slice A4 n4 c4] := by rw [hW4]; exact Blk.new w3 _ _
      have hgx3 : gx < w3.heap.size := by have h1 := L.out.grl; have h2 := hr3.lt; omega
      have q5 := q4.below hb4
      obtain ⟨pv, cv, rv, kv, wv, av, k1, k2⟩ := q5
      obtain ⟨kA, kc, hkv, kf1, kf2⟩ := own_form k2.kinds
      have hkl : S.kinds.length ≤ 1000000 := by have := L.out.len; have := HC.out.2.2; omega
      have QC := Lib.hid (ContainsNot_any kA kc S.kinds P.kind W4 (at64_own (c := kc) (by rw [← hkv]; exact k2.kinds)) HSTEP.out.2.2.2.2.1 hkl)
      have QT := Lib.hid (HST.out gx P.fl P.kind S T A3 A4 c3 n4 c4 _ P.val P.rest P.bad W4 HSTEP.out.1 (by have := L.out.gxl; omega) (m3.later hb4).below.size ⟨pv, cv, rv, kv, wv, av, k1, k2⟩ (HT.out W4 (m3.later hb4).below) (Own.below ho hb4) f1 f2 HNV.out HSTEP.out.2.1 (fun h8 => L.out.c8 (fun hm => HSTEP.out.2.2.2.2.1 (h8 ▸ hm))))
      have x12 : W4.cell? ⟨gx, 12, none⟩ = some (.slice kA S.kinds.length kc) := by rw [← hkv]; exact k1.cell 12
      have pc := cells4 kp
      have M4 := Lib.hid (m3.later hb4); have HW4 := Lib.hid hW4; have HKP := Lib.hid kp; have HGX := Lib.hid hgx3
      clear f1 f2 ho hr3 hg3 q1 q2 q3 q4 m3 hW4 hb4 kp hgx3 k1 k2 hkv kf1 kf2 hkl QX QL
      go_wp2_with (rw [← HW4.out])
      refine QC.out.mono ?_
      rintro e w5 ⟨rfl, rfl⟩
      go_wp2_with fail
      refine QT.out.mono ?_
      rintro e w5 ⟨rfl, hb5, hk5, hI5⟩
      have m5 := M4.out.take hb5 hk5
      have kp5 := hk5 _ _ _ (by have := HGX.out; omega) (by decide) HKP.out
      obtain ⟨W5, hW5⟩ : ∃ W5, W5 = w5.alloc (.cells #[.int .i64 0, .int .i64 0, .slice none 0 0] 43) := ⟨_, rfl⟩
      have hb6 : Below w5.heap.size w5 W5 := by rw [hW5]; exact (Below.refl _ _).alloc (Nat.le_refl _) _
      have kf5 : Blk W5 w5.heap.size 43 [.int .i64 0, .int .i64 0, .slice none 0 0] := by rw [hW5]; exact Blk.new w5 _ _
      have f50 : W5.cell? ⟨w5.heap.size, 0, none⟩ = some (.int .i64 0) := kf5.cell 0
      have p51 : W5.cell? ⟨w3.heap.size, 1, none⟩ = some (.int .i64 (P.kind : Int)) := (kp5.below hb6 kp5.lt).cell 1
      obtain ⟨pv', cv', rv', kv', wv', av', k1, k2⟩ := hI5.below hb6
      obtain ⟨kA', kc', hkv, kf1, kf2⟩ := own_form k2.kinds
      have x52 : W5.cell? ⟨gx, 12, none⟩ = some (.slice kA' S.kinds.length kc') := by rw [← hkv]; exact k1.cell 12
      have M5 := Lib.hid (m5.later hb6); have HK1 := Lib.hid k1; have HK2 := Lib.hid k2; have HKV := Lib.hid hkv
      have HROW : Hid (W5.ownsRow w.heap.size 3 1 (.slice kA' S.kinds.length kc') S.kinds.length (S.kinds.map fun (k : Nat) => Value.int .i64 (k : Int))) := Lib.hid (by rw [← hkv]; exact k2.kinds)
      have HSZ := Lib.hid (show (S.kinds.length + 1) * 8 ≤ 140737488355328 by have := L.out.len; have := HC.out.2.2; omega)
      clear hb5 hk5 hI5 m5 kp5 hb6 kf5 k1 k2 hkv kf1 kf2 pc x12 QC QT M4 HKP HW4
      unfold fault0
      subst hW5
      go_wp2_with (at_builtin; go_loud (refine wpList_app_one' isInt rfl (.tmp 45) (.tmp 48) rfl w.heap.size _ _ _ rfl (w5.alloc (.cells #[.int .i64 0, .int .i64 0, .slice none 0 0] 43)) [.int .i64 (P.kind : Int)] rfl HROW.out (by show Value.slice (some ⟨w5.heap.size + 1, 0, none⟩) 1 1 = _; simp) rfl (by intro u hu; rw [List.mem_singleton.1 hu]; rfl) HSZ.out M5.out.below.size ?_))
      intro v6 w6 hown6 hg6
      obtain ⟨kA6, kc6, rfl, g1, g2⟩ := own_form hown6
      have hk6 := blk_row HK1.out HROW.out (by decide) hg6
      have x6 : w6.cell? ⟨gx, 12, none⟩ = some kv' := hk6.cell 12
      have y6 : w6.frozen? ⟨gx, 12, none⟩ = false := hk6.free 12
      have m6 := M5.out.row HROW.out hg6
      have M7 := Lib.hid (m6.setx 12 (.slice kA6 (S.kinds.length + 1) kc6))
      have r6 := RowsR.kind (S := { T with kinds := S.kinds }) (k := P.kind) HK2.out hown6 (by rw [HKV.out]; exact hg6)
      have hset : w6.grownBy (w6.setCell ⟨gx, 12, none⟩ (.slice kA6 (S.kinds.length + 1) kc6)) (some gx) := grown_setCell (grown_refl _ _) _ _
      have r7 := rows_keep r6 hk6 hset
      rw [kinds_eta HSTEP.out.2.2.2.2.2] at r7
      have hb7 : Blk (w6.setCell ⟨gx, 12, none⟩ (.slice kA6 (S.kinds.length + 1) kc6)) gx 99 (rdRow true T pv' cv' rv' (.slice kA6 (S.kinds.length + 1) kc6) wv' av') := hk6.set 12 _
      have HLP := Lib.hid (show LoopA w gx gr ok true l Sf T P.rest (w6.setCell ⟨gx, 12, none⟩ (.slice kA6 (S.kinds.length + 1) kc6)) from
        ⟨M7.out.below, M7.out.res, M7.out.flt, M7.out.gxl, M7.out.grl, M7.out.rd, ⟨_, _, _, _, _, _, hb7, r7⟩, HSTEP.out.2.2.1, by
          have h1 := L.out.len; have h2 := HSTEP.out.2.2.2.1; rw [HSTEP.out.2.2.2.2.2, List.length_append]; simp only [List.length_cons, List.length_nil]; omega, step_c8 HSTEP.out.2.1 L.out.c8⟩)
      have HMS := Lib.hid (show leftAt (w6.setCell ⟨gx, 12, none⟩ (.slice kA6 (S.kinds.length + 1) kc6)) gr < leftAt wr gr by rw [rd_left HLP.out.rd, HLA.out]; have h2 := HSTEP.out.2.2.2.1; omega)
      clear hown6 hg6 g1 g2 hk6 m6 r6 r7 hset hb7 f50 p51 x52
      go_wp2_with fail
      go_roundw
      case rel => exact ⟨T, P.rest, HLP.out⟩
      case measure => exact HMS.out
end Go.Proofs.YtbfbnoonegdlgaaGreatDoor

/-
  An update that is built of what goes, what is said and what comes.
-/
namespace Go.Proofs.YtbfbnoonegdlgaaGreatDoor
set_option linter.unusedVariables false
set_option linter.unusedSimpArgs false
open Go.RowKit

theorem run_buildU (w : World) (A B : Option Addr) (n m c d : Nat) (x : Av) : (Instr.build 30 #[(0, .slice A n c), (1, x.agg), (2, .slice B m d)]).run Tryz.prog w = .ok (.agg (.slice A n c :: (x.row ++ [.slice B m d])).toArray) w := by kernel_rfl
section
variable {ops : Array Oper} {rest : List Oper} {o : Oper} {a : Act} {Q : Exit → Act → World → Prop}
theorem wpList_buildU (w : World) (hg : o.guard = none) (p q r : Operand) (hop : o.op = Op.build 30 #[(0, p), (1, q), (2, r)]) (u : Uv) (hp : a.eval p = .slice u.goneA u.gone.length u.goneC) (hq : a.eval q = u.attrs.agg) (hr : a.eval r = .slice u.newsA u.news.length u.newsC)
    (hK : wpList Tryz.prog ops Q rest (a.put o.dst u.agg) w) : wpList Tryz.prog ops Q (o :: rest) a w := by
  refine wpList_plain hg fun K' hK' => ?_
  unfold Oper.wp
  simp [execOp, hop, hp, hq, hr, run_buildU, Result.andThen]
  exact hK' _ _ hK
end
end Go.Proofs.YtbfbnoonegdlgaaGreatDoor

/-
  The first number of a path: the program's answer and the document's.
-/
namespace Go.Proofs.YtbfbnoonegdlgaaGreatDoor
set_option linter.unusedVariables false
set_option linter.unusedSimpArgs false
open Go.RowKit

/-- The first number of a path that begins with a sequence. -/
def firstL (L : List Sg) : Nat × Bool := match L[0]? with
  | none => (0, false)
  | some s => if s.kind = 2 then (match s.nums[0]? with | none => (0, false) | some x => (x, true)) else (0, false)
def retFirst (p : Nat × Bool) : Value := .tuple #[.int .u32 (p.1 : Int), .bool p.2]

set_option maxHeartbeats 1600000 in
theorem First_any (A : Option Addr) (c : Nat) (L : List Sg) (w : World) (h : Segs w w.heap.size A L) :
    Calls Tryz.prog 64 #[.slice A L.length c] w fun e w' => e = .returned (retFirst (firstL L)) ∧ w = w' := by
  by_cases h0 : L.length = 0
  · obtain rfl : L = [] := List.eq_nil_of_length_eq_zero h0
    clear h0 h
    go_enter Tryz.func64, Tryz.ntmps64
    go_wp2_with fail
    exact bodyPost_ret (v := retFirst (0, false)) (by simp [results, Tryz.results64, go_sem, retFirst]) rfl ⟨rfl, rfl⟩
  · obtain ⟨s, hs⟩ : ∃ s, L[0]? = some s := ⟨_, List.getElem?_eq_getElem (by omega)⟩
    obtain ⟨b, off, rfl, hb, k1, k2, hok⟩ := h.at hs
    simp only [Nat.zero_mul, Nat.add_zero] at k1 k2
    have hl0 : ((L.length : Int) == 0) = false := by rw [beq_eq_false_iff_ne]; omega
    have hl1 : (0 : Int) < (L.length : Int) := by omega
    by_cases h2 : s.kind = 2
    · have hk : (s.kind != 2) = false := by simpa using h2
      by_cases h3 : s.nums.length = 0
      · have hn : ((s.nums.length : Int) == 0) = true := by rw [beq_iff_eq]; omega
        have HE := Lib.hid (show firstL L = (0, false) by unfold firstL; rw [hs]; simp only [h2, if_true]; rw [List.getElem?_eq_none (by omega)])
        clear hs hok h h2 h3 h0
        go_enter Tryz.func64, Tryz.ntmps64
        go_wp2_with fail
        exact bodyPost_ret (v := retFirst (0, false)) (by simp [results, Tryz.results64, go_sem, retFirst]) rfl ⟨by rw [HE.out], rfl⟩
      · have hn : ((s.nums.length : Int) == 0) = false := by rw [beq_eq_false_iff_ne]; omega
        obtain ⟨b2, off2, hA2, hb2, k3⟩ := hok.2.2.1.cell (k := 0) (by omega)
        obtain ⟨x, hx⟩ : ∃ x, s.nums[0]? = some x := ⟨_, List.getElem?_eq_getElem (by omega)⟩
        have hxe : s.nums.getD 0 0 = x := by simp [List.getD, hx]
        rw [hxe] at k3
        simp only [Nat.add_zero] at k3
        have hn1 : (0 : Int) < (s.nums.length : Int) := by omega
        have HE := Lib.hid (show firstL L = (x, true) by unfold firstL; rw [hs]; simp only [h2, if_true, hx])
        rw [hA2] at k2
        clear hs hok h h2 h3 h0 hA2 hxe hx
        go_enter Tryz.func64, Tryz.ntmps64
        go_wp2_with fail
        exact bodyPost_ret (v := retFirst (x, true)) (by simp [results, Tryz.results64, go_sem, retFirst]) rfl ⟨by rw [HE.out], rfl⟩
    · have hk : (s.kind != 2) = true := by simpa using h2
      have HE := Lib.hid (show firstL L = (0, false) by unfold firstL; rw [hs]; simp only [h2, if_false])
      clear hs hok h h2 h0
      go_enter Tryz.func64, Tryz.ntmps64
      go_wp2_with fail
      exact bodyPost_ret (v := retFirst (0, false)) (by simp [results, Tryz.results64, go_sem, retFirst]) rfl ⟨by rw [HE.out], rfl⟩

end Go.Proofs.YtbfbnoonegdlgaaGreatDoor

/-
  What is wrong with attributes as those of news: nothing, where all kinds are there that must be, and nobody is near.
-/
namespace Go.Proofs.YtbfbnoonegdlgaaGreatDoor
set_option linter.unusedVariables false
set_option linter.unusedSimpArgs false
open Go.RowKit

set_option maxHeartbeats 1600000 in
theorem IndexYes_any (A : Option Addr) (c : Nat) (z : List Nat) (v : Nat) (w : World) (h : At64 w A z) (hv : v ∈ z) (hl : z.length ≤ 1000000) :
    Calls Tryz.prog 99 #[.slice A z.length c, .int .i64 (v : Int)] w fun e w' => (∃ j : Nat, e = .returned (.int .i64 (j : Int)) ∧ j ≤ 1000000) ∧ w = w' := by
  have HS := Lib.hid h; have HV := Lib.hid hv; clear h hv
  go_enter Tryz.func99, Tryz.ntmps99
  go_wp2_with fail
  go_loop [8] (fun i => ∃ j : Nat, j ≤ z.length ∧ i = .int .i64 (j : Int) ∧ Hid (v ∉ z.take j)) (fun i => z.length - (intOf i).toNat)
  case atStart => exact ⟨0, Nat.zero_le _, rfl, Lib.hid (by simp)⟩
  case round =>
    obtain ⟨j, hj, rfl, hn⟩ := hrel
    by_cases hlt : j < z.length
    · obtain ⟨b, off, rfl, hall⟩ := HS.out (fun e => by rw [e] at hlt; simp at hlt)
      have k1 := hall j hlt
      obtain ⟨x, hx⟩ : ∃ x, x = z.getD j 0 := ⟨_, rfl⟩
      rw [← hx] at k1
      have hzj : z[j] = x := by rw [hx]; simp [List.getD, hlt]
      by_cases he : v = x
      · have hk1 : ((v : Int) == (x : Int)) = true := by simp; omega
        clear hx hall hzj
        go_wp2_with fail
        go_ret
        exact ⟨⟨j, rfl, by omega⟩, rfl⟩
      · have hk1 : ((v : Int) == (x : Int)) = false := by simp; omega
        have HN := Lib.hid (show v ∉ z.take (j + 1) by
          rw [List.take_succ_eq_append_getElem hlt, hzj]
          intro hm
          rcases List.mem_append.1 hm with hm | hm
          · exact hn.out hm
          · exact he (by simpa using hm))
        clear hx he hall hzj hn
        go_wp2_with fail
        go_round
        case rel => exact ⟨j + 1, by omega, by go_num, HN⟩
        case measure => simp [intOf]; omega
    · obtain rfl : j = z.length := by omega
      exact absurd HV.out (by have := hn.out; rwa [List.take_length] at this)
theorem ContainsYes_any (A : Option Addr) (c : Nat) (z : List Nat) (v : Nat) (w : World) (h : At64 w A z) (hv : v ∈ z) (hl : z.length ≤ 1000000) :
    Calls Tryz.prog 60 #[.slice A z.length c, .int .i64 (v : Int)] w fun e w' => e = .returned (.bool true) ∧ w = w' := by
  have Q := Lib.hid (IndexYes_any A c z v w h hv hl); clear h hv
  go_enter Tryz.func60, Tryz.ntmps60
  go_wp2_with fail
  refine Q.out.mono ?_
  rintro e w1 ⟨⟨j, rfl, hj⟩, rfl⟩
  go_wp2_with fail
  go_ret
  exact ⟨rfl, rfl⟩
theorem At64.below {w w' : World} {A : Option Addr} {z : List Nat} {B : Nat} (h : At64 w A z) (hb : Below w.heap.size w w') : At64 w' A z := by
  intro hne
  obtain ⟨b, off, hA, hall⟩ := h hne
  refine ⟨b, off, hA, fun j hj => ?_⟩
  have k := hall j hj
  have hlt : b < w.heap.size := by
    by_cases hlt : b < w.heap.size
    · exact hlt
    · exfalso
      have : w.heap[b]? = none := by simp; omega
      simp [World.cell?, this] at k
  exact (hb.cell (p := ⟨b, off + j, none⟩) hlt).trans k
theorem own_new3 (w : World) : (w.alloc (.cells #[.int .i64 1, .int .i64 2, .int .i64 3] 3)).ownsRow w.heap.size 3 1 (.slice (some ⟨w.heap.size, 0, none⟩) 3 3) 3 ([1, 2, 3].map fun (k : Nat) => Value.int .i64 (k : Int)) :=
  ⟨by simp, .inr ⟨w.heap.size, 3, #[.int .i64 1, .int .i64 2, .int .i64 3], rfl, Nat.le_refl _, heap_alloc_new w _, Nat.le_refl _, by unfold maxLen; decide, rfl, rfl⟩⟩
set_option maxHeartbeats 6400000 in
set_option maxRecDepth 100000 in
theorem unfit_ok (x : Av) (kA : Option Addr) (kc : Nat) (ks : List Nat) (inner : Bool) (w : World) (hx : x.In w w.heap.size) (hk : At64 w kA ks) (hkl : ks.length ≤ 1000000) (h1 : 1 ∈ ks ∧ 2 ∈ ks ∧ 3 ∈ ks) (h5 : inner = true → 5 ∈ ks) :
    Calls Tryz.prog 33 #[.agg x.row.toArray, .slice kA ks.length kc, .bool inner, .int .u32 0] w fun e w' => e = .returned fault0 ∧ Below w.heap.size w w' := by
  obtain ⟨W0, hW0⟩ : ∃ W0, W0 = (w.alloc (.cells x.row.toArray 28)).alloc (.cells #[.int .i64 0, .int .i64 0, .slice none 0 0] 43) := ⟨_, rfl⟩
  have hb0 : Below w.heap.size w W0 := by rw [hW0]; exact ((Below.refl _ _).alloc (Nat.le_refl _) _).alloc (by simp) _
  have kx : Blk W0 w.heap.size 28 x.row := by
    rw [hW0]
    exact (Blk.new w _ _).below ((Below.refl _ _).alloc (Nat.le_refl _) _) (by simp)
  have kf : Blk W0 (w.heap.size + 1) 43 [.int .i64 0, .int .i64 0, .slice none 0 0] := by
    have := Blk.new (w.alloc (.cells x.row.toArray 28)) 43 [.int .i64 0, .int .i64 0, .slice none 0 0]
    rw [hW0]
    simpa using this
  have hz : W0.heap.size = w.heap.size + 2 := by rw [hW0]; simp
  have HP := Lib.hid (fun (W : World) (q : Below W0.heap.size W0 W) => show W.cell? ⟨w.heap.size, 1, none⟩ = some (.slice x.pathA x.path.length x.pathC) from (kx.below q kx.lt).cell 1)
  have HF := Lib.hid (fun (W : World) (q : Below W0.heap.size W0 W) => kf.below q kf.lt)
  have HBW := Lib.hid (fun (W : World) (q : Below W0.heap.size W0 W) => hb0.trans (q.mono hb0.size))
  have HIN := Lib.hid (fun (W : World) (q : Below w.heap.size w W) => (hx.below q (Nat.le_refl _)).lift q.size)
  have HK := Lib.hid (fun (W : World) (q : Below w.heap.size w W) => At64.below (B := 0) hk q)
  have HW0 := Lib.hid hW0; have HZ := Lib.hid hz
  obtain ⟨need, hneed⟩ : ∃ need : List Nat, need = if inner = true then [1, 2, 3, 5] else [1, 2, 3] := ⟨_, rfl⟩
  have HM := Lib.hid (show ∀ k ∈ need, k ∈ ks by
    intro k hk
    rw [hneed] at hk
    cases inner with
    | true =>
      have := h5 rfl
      simp at hk
      rcases hk with rfl | rfl | rfl | rfl
      · exact h1.1
      · exact h1.2.1
      · exact h1.2.2
      · exact this
    | false =>
      simp at hk
      rcases hk with rfl | rfl | rfl
      · exact h1.1
      · exact h1.2.1
      · exact h1.2.2)
  have HN4 := Lib.hid (show need.length ≤ 4 by rw [hneed]; split <;> decide)
  clear hW0 hb0 kx kf hz hx hk h1 h5
  cases inner with
  | false =>
    obtain rfl : need = [1, 2, 3] := hneed
    have HA1 := Lib.hid (at64_own (own_new3 W0))
    have HB1 := Lib.hid ((Below.refl W0.heap.size W0).alloc (Nat.le_refl _) (.cells #[.int .i64 1, .int .i64 2, .int .i64 3] 3))
    go_enter Tryz.func33, Tryz.ntmps33
    go_wp2_with (first
      | (refine wpList_boxA _ rfl (.tmp 0) rfl x rfl ?_)
      | (rw [← HW0.out]))
    go_loopw [21] (fun i wr => Below W0.heap.size W0 wr ∧ ∃ j : Nat, j ≤ 3 ∧ i = .int .i64 (j : Int) ∧ Hid (At64 wr (some ⟨W0.heap.size, 0, none⟩) [1, 2, 3])) (fun i _ => 3 - (intOf i).toNat)
    case atStart => exact ⟨HB1.out, 0, by decide, rfl, HA1⟩
    case round =>
      obtain ⟨hbr, j, hj, rfl, hat⟩ := hrel
      have HBR := Lib.hid hbr
      clear hbr
      by_cases hlt : j < 3
      · obtain ⟨b, off, hAe, hall⟩ := hat.out (by decide)
        have k1 := hall j hlt
        obtain ⟨y, hy⟩ : ∃ y, y = ([1, 2, 3] : List Nat).getD j 0 := ⟨_, rfl⟩
        rw [← hy] at k1
        have hmem : y ∈ ks := HM.out y (by rw [hy]; have hl : j < ([1, 2, 3] : List Nat).length := hlt; simp only [List.getD, List.getElem?_eq_getElem hl, Option.getD_some]; exact List.getElem_mem hl)
        have QC := Lib.hid (ContainsYes_any kA kc ks y wr (HK.out _ (HBW.out _ HBR.out)) hmem hkl)
        have HJ := Lib.hid hlt
        injection hAe with hAe; injection hAe with q1 q2 q3; subst q1; subst q2; rw [Nat.zero_add] at k1
        clear hy hmem hall
        go_wp2_with fail
        refine QC.out.mono ?_
        rintro e w9 ⟨rfl, rfl⟩
        go_wp2_with fail
        go_roundw
        case rel => exact ⟨HBR.out, j + 1, HJ.out, by go_num, hat⟩
        case measure => have := HJ.out; simp [intOf]; omega
      · obtain rfl : j = 3 := by omega
        have hp := HP.out _ HBR.out
        have QF := Lib.hid (First_any x.pathA x.pathC x.path wr (HIN.out _ (HBW.out _ HBR.out)).path)
        clear hat hlt hj
        go_wp2_with fail
        refine QF.out.mono ?_
        rintro e w9 ⟨rfl, rfl⟩
        unfold retFirst
        obtain ⟨f1, f2⟩ := firstL x.path
        dsimp only
        have kf := HF.out _ HBR.out
        have ff := free3 kf
        have cf := cells3 kf
        have hgf := grown_set3 wr (w.heap.size + 1) (.int .i64 0) (.int .i64 0) (.slice none 0 0)
        have rf := cells3 (kf.set3 (.int .i64 0) (.int .i64 0) (.slice none 0 0))
        have BF := Lib.hid ((HBW.out _ HBR.out).grown hgf (HBW.out _ HBR.out).size (fun k hk => by cases hk; omega))
        have HRF := Lib.hid rf
        clear rf hgf kf QF
        go_wp2_with fail
        have rf := HRF.out
        exact bodyPost_ret (v := fault0) (by simp [results, Tryz.results33, go_sem, fault0, rf]) rfl ⟨rfl, BF.out⟩
  | true =>
    obtain rfl : need = [1, 2, 3, 5] := hneed
    have HO1 := Lib.hid (own_new3 W0)
    obtain ⟨W1, hW1⟩ : ∃ W1, W1 = W0.alloc (.cells #[.int .i64 1, .int .i64 2, .int .i64 3] 3) := ⟨_, rfl⟩
    rw [← hW1] at HO1
    have hb1 : Below W0.heap.size W0 W1 := by rw [hW1]; exact (Below.refl _ _).alloc (Nat.le_refl _) _
    have HBA := Lib.hid hb1; have HW1 := Lib.hid hW1
    clear hb1 hW1
    go_enter Tryz.func33, Tryz.ntmps33
    go_wp2_with (first
      | (refine wpList_boxA _ rfl (.tmp 0) rfl x rfl ?_)
      | (at_builtin; refine wpList_app_one' isInt rfl (.tmp 16) (.tmp 17) rfl W0.heap.size _ 3 _ rfl W1 [.int .i64 5] rfl HO1.out rfl rfl (by intro u hu; simp at hu; subst hu; rfl) (by decide) HBA.out.size ?_)
      | (rw [← HW1.out])
      | (rw [← HW0.out]))
    intro v' w2 ho2 hg2
    obtain ⟨A2, c2, rfl, f1, f2⟩ := own_form ho2
    have HA1 := Lib.hid (at64_own (z := [1, 2, 3, 5]) ho2)
    have HB1 := Lib.hid (HBA.out.trans ((Below.refl _ _).grown hg2 HBA.out.size (fun k hk => by cases hk; exact Nat.le_refl _)))
    clear ho2 hg2 HBA HO1 HW1
    go_wp2_with fail
    go_loopw [21] (fun i wr => Below W0.heap.size W0 wr ∧ ∃ j : Nat, j ≤ 4 ∧ i = .int .i64 (j : Int) ∧ Hid (At64 wr A2 [1, 2, 3, 5])) (fun i _ => 4 - (intOf i).toNat)
    case atStart => exact ⟨HB1.out, 0, by decide, rfl, HA1⟩
    case round =>
      obtain ⟨hbr, j, hj, rfl, hat⟩ := hrel
      have HBR := Lib.hid hbr
      clear hbr
      by_cases hlt : j < 4
      · obtain ⟨b, off, hAe, hall⟩ := hat.out (by decide)
        have k1 := hall j hlt
        obtain ⟨y, hy⟩ : ∃ y, y = ([1, 2, 3, 5] : List Nat).getD j 0 := ⟨_, rfl⟩
        rw [← hy] at k1
        have hmem : y ∈ ks := HM.out y (by rw [hy]; have hl : j < ([1, 2, 3, 5] : List Nat).length := hlt; simp only [List.getD, List.getElem?_eq_getElem hl, Option.getD_some]; exact List.getElem_mem hl)
        have QC := Lib.hid (ContainsYes_any kA kc ks y wr (HK.out _ (HBW.out _ HBR.out)) hmem hkl)
        have HJ := Lib.hid hlt
        subst hAe
        clear hy hmem hall
        go_wp2_with fail
        refine QC.out.mono ?_
        rintro e w9 ⟨rfl, rfl⟩
        go_wp2_with fail
        go_roundw
        case rel => exact ⟨HBR.out, j + 1, HJ.out, by go_num, hat⟩
        case measure => have := HJ.out; simp [intOf]; omega
      · obtain rfl : j = 4 := by omega
        have hp := HP.out _ HBR.out
        have QF := Lib.hid (First_any x.pathA x.pathC x.path wr (HIN.out _ (HBW.out _ HBR.out)).path)
        clear hat hlt hj
        go_wp2_with fail
        refine QF.out.mono ?_
        rintro e w9 ⟨rfl, rfl⟩
        unfold retFirst
        obtain ⟨f1, f2⟩ := firstL x.path
        dsimp only
        have kf := HF.out _ HBR.out
        have ff := free3 kf
        have cf := cells3 kf
        have hgf := grown_set3 wr (w.heap.size + 1) (.int .i64 0) (.int .i64 0) (.slice none 0 0)
        have rf := cells3 (kf.set3 (.int .i64 0) (.int .i64 0) (.slice none 0 0))
        have BF := Lib.hid ((HBW.out _ HBR.out).grown hgf (HBW.out _ HBR.out).size (fun k hk => by cases hk; omega))
        have HRF := Lib.hid rf
        clear rf hgf kf QF
        go_wp2_with fail
        have rf := HRF.out
        exact bodyPost_ret (v := fault0) (by simp [results, Tryz.results33, go_sem, fault0, rf]) rfl ⟨rfl, BF.out⟩
end Go.Proofs.YtbfbnoonegdlgaaGreatDoor

/-
  A body that says what comes: what update.Read tells an inner reader.
-/
namespace Go.Proofs.YtbfbnoonegdlgaaGreatDoor
set_option linter.unusedVariables false
set_option linter.unusedSimpArgs false
open Go.RowKit

set_option maxHeartbeats 12800000 in
set_option maxRecDepth 100000 in
theorem URead_news (A : Option Addr) (c : Nat) (l said : List UInt8) (G N : List Px) (S : Rs) (inner : Bool) (w : World) (h : Bytes w A l) (hc : l.length ≤ c) (hm : c ≤ maxLen) (hl : l = updB (pxB G) said (pxB N)) (hG : pxsOk G = true) (hGf : ∀ x ∈ G, PxFit x) (hN : pxsOk N = true) (hNf : ∀ x ∈ N, PxFit x)
    (hlen : l.length ≤ 100000) (hgl : (pxB G).length < 65536) (hsl : said.length < 65536) (hGl : G.length ≤ 1000000) (hNl : N.length ≤ 1000000)
    (hA : ∀ (W : World) (B : Option Addr) (d : Nat), Below w.heap.size w W → Bytes W B said → said.length ≤ d → d ≤ maxLen → Calls Tryz.prog 31 #[.slice B said.length d, .bool true] W (RetRdR W S)) (hN0 : N ≠ []) (hi : inner = true) (hks : S.kinds.length ≤ 1000000 ∧ (1 ∈ S.kinds ∧ 2 ∈ S.kinds ∧ 3 ∈ S.kinds) ∧ (True → 5 ∈ S.kinds)) :
    Calls Tryz.prog 12 #[.slice A l.length c, .bool true, .bool inner, .int .u32 0] w fun e w' => ∃ u : Uv, e = .returned (.tuple #[.agg u.row.toArray, fault0]) ∧ u.In w' w'.heap.size ∧ Below w.heap.size w w' ∧ u.gone = G ∧ u.news = N ∧ u.attrs.org = (S.org : Int) ∧ u.attrs.path.map Sg.abs = S.path ∧ u.attrs.next = (S.next : Int) ∧ u.attrs.med = S.med ∧ u.attrs.pref = S.pref ∧ u.attrs.atomic = S.atomic ∧ u.attrs.has = S.has ∧ u.attrs.aas = (S.aas : Int) ∧ u.attrs.aad = (S.aad : Int) ∧ u.attrs.comms = S.comms ∧ u.attrs.raws.map Rw.abs = S.raws := by
  have hb0 := ((Below.refl w.heap.size w).alloc (Nat.le_refl _) (.cells noneU.toArray 30)).alloc (by simp) (.cells #[.int .i64 0, .int .i64 0, .slice none 0 0] 43)
  obtain ⟨W0, hW0⟩ : ∃ W0, W0 = (w.alloc (.cells noneU.toArray 30)).alloc (.cells #[.int .i64 0, .int .i64 0, .slice none 0 0] 43) := ⟨_, rfl⟩
  have kr : Blk W0 w.heap.size 30 noneU := by
    rw [hW0]
    exact (Blk.new w _ _).below ((Below.refl _ _).alloc (Nat.le_refl _) _) (by simp)
  have kf : Blk W0 (w.heap.size + 1) 43 [.int .i64 0, .int .i64 0, .slice none 0 0] := by
    have := Blk.new (w.alloc (.cells noneU.toArray 30)) 43 [.int .i64 0, .int .i64 0, .slice none 0 0]
    rw [hW0]
    simpa using this
  rw [← hW0] at hb0
  have hz : W0.heap.size = w.heap.size + 2 := by rw [hW0]; simp
  have QN := Lib.hid (New_any A l.length c l rfl W0 (h.below hb0) hc hm)
  have HW0 := Lib.hid (show W0 = (w.alloc (.cells #[.slice none 0 0, .int .i64 0, .slice none 0 0, .int .u32 0, .int .i64 0, .int .i64 0, .bool false, .bool false, .int .u32 0, .int .u32 0, .slice none 0 0, .slice none 0 0, .slice none 0 0] 30)).alloc (.cells #[.int .i64 0, .int .i64 0, .slice none 0 0] 43) from hW0)
  have HB0 := Lib.hid hb0; have HKR := Lib.hid kr; have HKF := Lib.hid kf; have HZ := Lib.hid hz
  have HLL := Lib.hid (show 4 + (pxB G).length + said.length + (pxB N).length ≤ 100000 by rw [← updB_len5, ← hl]; exact hlen)
  have e1 : rdTake l false 2 = (be16 ((pxB G).length : Int), pxB G ++ (be16 (said.length : Int) ++ (said ++ pxB N)), false) := by rw [hl]; exact rdTake_appP _ _ 2 rfl
  have E1 := Lib.hid e1
  have HGL := Lib.hid (num_be16 hgl).1; have HSL := Lib.hid (num_be16 hsl).1
  have HLN := Lib.hid hlen
  have QA := Lib.hid hA
  have HP := Lib.hid (And.intro hG (And.intro hGf (And.intro hN (And.intro hNf (And.intro hGl hNl)))))
  have HN0 := Lib.hid hN0; have HKS := Lib.hid hks; clear hN0 hks
  clear h hc hm hl hG hGf hN hNf hlen hgl hsl hA hb0 hW0 kr kf hz e1 hGl hNl
  go_enter Tryz.func12, Tryz.ntmps12
  go_wp2_with (rw [← HW0.out])
  refine QN.out.mono ?_
  rintro e w1 ⟨rfl, hr1, hb1⟩
  have R1 := Lib.hid hr1; have B1 := Lib.hid hb1
  clear hr1 hb1 QN HW0
  -- how many bytes go
  have q2 := U16_any _ _ _ _ _ R1.out
  rw [E1.out] at q2
  have Q2 := Lib.hid q2
  clear q2
  go_wp2_with fail
  refine Q2.out.mono ?_
  rintro e w2 ⟨rfl, hr2, hg2⟩
  rw [HGL.out]
  have q3 := Take_any (((pxB G).length : Nat) : Int) _ _ _ _ w2 hr2 (by have := HLL.out; simp only [List.length_append, be16_len]; omega)
  rw [rdTake_appP _ _ _ rfl] at q3
  have Q3 := Lib.hid q3
  have B2 := Lib.hid (B1.out.trans (below_of_grown hg2 B1.out.size (Nat.le_refl _)))
  clear hr2 hg2 q3 Q2
  go_wp2_with fail
  refine Q3.out.mono ?_
  rintro e w3 ⟨A3, c3, rfl, f1, f2, ho3, hr3, hg3⟩
  (try dsimp only at hr3)
  have R3 := Lib.hid hr3; have O3 := Lib.hid ho3; have HC3 := Lib.hid (And.intro f1 f2)
  have B3 := Lib.hid (B2.out.trans (below_of_grown hg3 B2.out.size (Nat.le_refl _)))
  clear hr3 hg3 ho3 f1 f2 Q3
  -- how many are said
  have q4 := U16_any _ _ _ _ _ R3.out
  have e4 : rdTake (be16 (said.length : Int) ++ (said ++ pxB N)) false 2 = (be16 (said.length : Int), said ++ pxB N, false) := rdTake_appP _ _ 2 rfl
  rw [e4] at q4
  clear e4
  have Q4 := Lib.hid q4
  clear q4
  go_wp2_with fail
  refine Q4.out.mono ?_
  rintro e w4 ⟨rfl, hr4, hg4⟩
  rw [HSL.out]
  have q5 := Take_any ((said.length : Nat) : Int) _ _ _ _ w4 hr4 (by have := HLL.out; simp only [List.length_append]; omega)
  rw [rdTake_appP _ _ _ rfl] at q5
  have Q5 := Lib.hid q5
  have B4 := Lib.hid (B3.out.trans (below_of_grown hg4 B3.out.size (Nat.le_refl _)))
  have O4 := Lib.hid (own_past O3.out R3.out hg4)
  have R4 := Lib.hid hr4
  clear hr4 hg4 q5 Q4 O3
  go_wp2_with fail
  refine Q5.out.mono ?_
  rintro e w5 ⟨A5, c5, rfl, f1, f2, ho5, hr5, hg5⟩
  (try dsimp only at hr5)
  have R5 := Lib.hid hr5; have O5 := Lib.hid ho5; have HC5 := Lib.hid (And.intro f1 f2)
  have B5 := Lib.hid (B4.out.trans (below_of_grown hg5 B4.out.size (Nat.le_refl _)))
  have O35 := Lib.hid (own_past O4.out R4.out hg5)
  clear hr5 hg5 ho5 f1 f2 Q5 O4
  go_wp2_with fail
  refine (Err_any _ _ _ _ _ R5.out).mono ?_
  rintro e wx ⟨rfl, rfl⟩
  simp only [errN]
  have QG := Lib.hid (List_ok A3 c3 (pxB G) G w5 O35.out.bytes HC3.out.1 HC3.out.2 rfl HP.out.1 HP.out.2.1 (by have := HLL.out; omega) HP.out.2.2.2.2.1)
  go_wp2_with fail
  refine QG.out.mono ?_
  rintro e w6 ⟨A6, c6, rfl, f1, f2, ho6, hb6⟩
  have O6 := Lib.hid ho6; have HC6 := Lib.hid (And.intro f1 f2)
  have B6 := Lib.hid (B5.out.trans (hb6.mono B5.out.size))
  have R6 := Lib.hid (R5.out.below hb6 R5.out.lt)
  have O56 := Lib.hid (row_below O5.out hb6)
  clear ho6 f1 f2 hb6 QG O35 O5
  have BW := Lib.hid (fun (W : World) (q : Below W0.heap.size W0 W) => HB0.out.trans (q.mono HB0.out.size))
  have Q7 := Lib.hid (QA.out w6 A5 c5 (BW.out _ B6.out) (Own.bytes O56.out) HC5.out.1 HC5.out.2)
  go_wp2_with fail
  refine Q7.out.mono ?_
  rintro e w7 ⟨pA, pn, pc, cA, cn, cc, rA, rn, rc, kA, kc, wv, av, rfl, hrows, hb7⟩
  have O7 := Lib.hid (row_below O6.out hb7)
  have R7 := Lib.hid (R6.out.below hb7 R6.out.lt)
  have R7lt := Lib.hid R7.out.lt
  have B7 := Lib.hid (B6.out.trans (hb7.mono B6.out.size))
  obtain ⟨W7, hW7⟩ : ∃ W7, W7 = (w7.alloc (.cells [.int .i64 (S.org : Int), .slice pA pn pc, .int .u32 (S.next : Int), .int .i64 S.med, .int .i64 S.pref, .bool S.atomic, .bool S.has, .int .u32 (S.aas : Int), .int .u32 (S.aad : Int), .slice cA cn cc, .slice rA rn rc].toArray 28)).alloc (.cells #[.int .i64 0, .int .i64 0, .slice none 0 0] 43) := ⟨_, rfl⟩
  have hb8 : Below w7.heap.size w7 W7 := by rw [hW7]; exact ((Below.refl _ _).alloc (Nat.le_refl _) _).alloc (by simp) _
  have kx : Blk W7 w7.heap.size 28 [.int .i64 (S.org : Int), .slice pA pn pc, .int .u32 (S.next : Int), .int .i64 S.med, .int .i64 S.pref, .bool S.atomic, .bool S.has, .int .u32 (S.aas : Int), .int .u32 (S.aad : Int), .slice cA cn cc, .slice rA rn rc] := by
    rw [hW7]
    exact (Blk.new w7 _ _).below ((Below.refl _ _).alloc (Nat.le_refl _) _) (by simp)
  have kf : Blk W7 (w7.heap.size + 1) 43 [.int .i64 0, .int .i64 0, .slice none 0 0] := by
    have := Blk.new (w7.alloc (.cells [.int .i64 (S.org : Int), .slice pA pn pc, .int .u32 (S.next : Int), .int .i64 S.med, .int .i64 S.pref, .bool S.atomic, .bool S.has, .int .u32 (S.aas : Int), .int .u32 (S.aad : Int), .slice cA cn cc, .slice rA rn rc].toArray 28)) 43 [.int .i64 0, .int .i64 0, .slice none 0 0]
    rw [hW7]
    simpa using this
  have O8 := Lib.hid (row_below O7.out hb8)
  have R8 := Lib.hid (R7.out.below hb8 R7.out.lt)
  have B8 := Lib.hid (B7.out.trans (hb8.mono B7.out.size))
  have KX := Lib.hid kx
  have RW8 := Lib.hid (hrows.below hb8)
  have f0 : W7.cell? ⟨w7.heap.size + 1, 0, none⟩ = some (.int .i64 0) := kf.cell 0
  have HW7 := Lib.hid hW7
  unfold fault0
  clear hW7 hrows hb7 hb8 kx kf Q7 O6 O56 O7 R6 R7 QA
  rw [HW7.out] at f0
  go_wp2_with fail
  rw [← HW7.out]
  -- what comes
  refine (Left_any _ _ _ _ _ R8.out).mono ?_
  rintro e wx ⟨rfl, rfl⟩
  have q9 := Take_any (((pxB N).length : Nat) : Int) _ _ _ _ _ R8.out (by have := HLL.out; omega)
  have e9 : rdTake (pxB N) false (((pxB N).length : Nat) : Int) = (pxB N, [], false) := by
    have h := rdTake_appP (pxB N) [] (pxB N).length rfl
    rwa [List.append_nil] at h
  rw [e9] at q9
  have Q9 := Lib.hid q9
  clear q9 e9
  go_wp2_with fail
  refine Q9.out.mono ?_
  rintro e w9 ⟨A9, c9, rfl, f1, f2, ho9, hr9, hg9⟩
  have O9 := Lib.hid (own_pastP O8.out R8.out hg9)
  have B9 := Lib.hid (B8.out.trans (below_of_grown hg9 B8.out.size (Nat.le_refl _)))
  have KX9 := Lib.hid (KX.out.grown hg9 (by have := R7lt.out; omega))
  obtain ⟨_, Ar9, cr9, krd9, _⟩ := R8.out
  have RW9 := Lib.hid (RW8.out.keep krd9 (by decide) (by decide) (by decide) (by decide) (by decide) hg9)
  clear krd9
  have QL := Lib.hid (List_ok A9 c9 (pxB N) N w9 ho9.bytes f1 f2 rfl HP.out.2.2.1 HP.out.2.2.2.1 (by have := HLL.out; omega) HP.out.2.2.2.2.2)
  clear ho9 hr9 hg9 f1 f2 Q9 KX O8 f0
  go_wp2_with fail
  refine QL.out.mono ?_
  rintro e w10 ⟨A10, c10, rfl, f1, f2, ho10, hb10⟩
  have O10 := Lib.hid (row_below O9.out hb10); have P10 := Lib.hid ho10
  have B10 := Lib.hid (B9.out.trans (hb10.mono B9.out.size))
  have KX10 := Lib.hid (KX9.out.below hb10 KX9.out.lt)
  have RW10 := Lib.hid (RW9.out.below hb10)
  have HC10 := Lib.hid (And.intro f1 f2)
  clear ho10 hb10 f1 f2 O9 KX9 QL
  subst hi
  have hnl : 0 < N.length := List.length_pos_iff.2 HN0.out
  have hnz : ((N.length : Int) == 0) = false := by rw [beq_eq_false_iff_ne]; omega
  obtain ⟨M, L, hpn, hcn, hrn, hM, hL, hin⟩ := in_rows RW10.out
  obtain ⟨x, hx⟩ : ∃ x : Av, x = ⟨(S.org : Int), pA, pc, M, (S.next : Int), S.med, S.pref, S.atomic, S.has, (S.aas : Int), (S.aad : Int), cA, cc, S.comms, rA, rc, L⟩ := ⟨_, rfl⟩
  rw [← hx] at hin
  have hrow : x.row = [.int .i64 (S.org : Int), .slice pA pn pc, .int .u32 (S.next : Int), .int .i64 S.med, .int .i64 S.pref, .bool S.atomic, .bool S.has, .int .u32 (S.aas : Int), .int .u32 (S.aad : Int), .slice cA cn cc, .slice rA rn rc] := by
    rw [hx]
    unfold Av.row
    dsimp only
    rw [hpn, hcn, hrn]
  have HXV := Lib.hid (av_blk (show Blk w10 w7.heap.size 28 x.row by rw [hrow]; exact KX10.out))
  have HXL := Lib.hid KX10.out.lt
  have HROW := Lib.hid hrow
  have QU := Lib.hid (unfit_ok x kA kc S.kinds true w10 hin (at64_own RW10.out.kinds) HKS.out.1 HKS.out.2.1 (fun _ => HKS.out.2.2 trivial))
  clear hpn hcn hrn hM hL hin hx hrow KX10
  go_wp2_with (refine wpList_loadA _ rfl (.tmp 15) rfl w7.heap.size 0 x rfl HXV.out ?_)
  refine QU.out.mono ?_
  rintro e w11 ⟨rfl, hb11⟩
  have B11 := Lib.hid (B10.out.trans (hb11.mono B10.out.size))
  have O11 := Lib.hid (row_below O10.out hb11); have P11 := Lib.hid (row_below P10.out hb11)
  have RW11 := Lib.hid (RW10.out.below hb11)
  have HXV1 := Lib.hid (HXV.out.below hb11 HXL.out)
  have HXL1 := Lib.hid (Nat.lt_of_lt_of_le HXL.out hb11.size)
  clear hb11 QU O10 P10 RW10 HXV HXL
  obtain ⟨W12, hW12⟩ : ∃ W12, W12 = w11.alloc (.cells #[.int .i64 0, .int .i64 0, .slice none 0 0] 43) := ⟨_, rfl⟩
  have hb12 : Below w11.heap.size w11 W12 := by rw [hW12]; exact (Below.refl _ _).alloc (Nat.le_refl _) _
  have f0 : W12.cell? ⟨w11.heap.size, 0, none⟩ = some (.int .i64 0) := by rw [hW12]; exact (Blk.new w11 43 [.int .i64 0, .int .i64 0, .slice none 0 0]).cell 0
  have B12 := Lib.hid (B11.out.trans (hb12.mono B11.out.size))
  have O12 := Lib.hid (row_below O11.out hb12); have P12 := Lib.hid (row_below P11.out hb12)
  have RW12 := Lib.hid (RW11.out.below hb12)
  have HXV2 := Lib.hid (HXV1.out.below hb12 HXL1.out)
  have HW12 := Lib.hid hW12
  have kR := HKR.out.below B12.out (by have := HZ.out; omega)
  have kF := HKF.out.below B12.out (by have := HZ.out; omega)
  have KR12 := Lib.hid kR; have KF12 := Lib.hid kF
  clear hb12 hW12 B11 O11 P11 RW11 HXV1 HXL1 kR kF
  rw [HW12.out] at f0
  unfold fault0
  go_wp2_with (first
    | (rw [← HW12.out]; refine wpList_loadA _ rfl (.tmp 15) rfl w7.heap.size 0 x rfl HXV2.out ?_)
    | (refine wpList_buildU _ rfl (.tmp 87) (.tmp 88) (.tmp 89) rfl ⟨A6, c6, G, x, A10, c10, N⟩ rfl rfl rfl ?_)
    | (refine wpList_storeU _ rfl rfl (.tmp 8) (.tmp 90) rfl w.heap.size 30 noneU ⟨A6, c6, G, x, A10, c10, N⟩ rfl rfl KR12.out rfl ?_))
  intro w13 k13 hg13
  have kf13 := KF12.out.grown hg13 (by omega)
  have ff := free3 kf13
  have cf := cells3 kf13
  have O13 := Lib.hid (row_keep O12.out KR12.out (by decide) hg13)
  have P13 := Lib.hid (row_keep P12.out KR12.out (by decide) hg13)
  have RW13 := Lib.hid (RW12.out.keep KR12.out (by decide) (by decide) (by decide) (by decide) (by decide) hg13)
  have hgf := grown_set3 w13 (w.heap.size + 1) (.int .i64 0) (.int .i64 0) (.slice none 0 0)
  have k14 : Blk _ w.heap.size 30 _ := k13.grown hgf (by omega)
  unfold Uv.row at k14
  rw [HROW.out] at k14
  have ra := cells13 (show Blk _ w.heap.size 30 [.slice A6 G.length c6, .int .i64 (S.org : Int), .slice pA pn pc, .int .u32 (S.next : Int), .int .i64 S.med, .int .i64 S.pref, .bool S.atomic, .bool S.has, .int .u32 (S.aas : Int), .int .u32 (S.aad : Int), .slice cA cn cc, .slice rA rn rc, .slice A10 N.length c10] from k14)
  have rf := cells3 (kf13.set3 (.int .i64 0) (.int .i64 0) (.slice none 0 0))
  have O14 := Lib.hid (row_keep O13.out kf13 (by decide) hgf)
  have P14 := Lib.hid (row_keep P13.out kf13 (by decide) hgf)
  have RW14 := Lib.hid (RW13.out.keep kf13 (by decide) (by decide) (by decide) (by decide) (by decide) hgf)
  have BF := Lib.hid (((BW.out _ B12.out).grown hg13 (BW.out _ B12.out).size (fun k hk => by cases hk; exact Nat.le_refl _)).grown hgf (Nat.le_trans (BW.out _ B12.out).size hg13.size) (fun k hk => by cases hk; omega))
  have HRA := Lib.hid ra; have HRF := Lib.hid rf
  clear k13 k14 hg13 kf13 hgf ra rf O13 P13 RW13
  go_wp2_with fail
  have ra := HRA.out
  have rf := HRF.out
  obtain ⟨M2, L2, hpn, hcn, hrn, hM, hL, hin⟩ := in_rows RW14.out
  refine bodyPost_ret (v := .tuple #[.agg #[.slice A6 G.length c6, .int .i64 (S.org : Int), .slice pA pn pc, .int .u32 (S.next : Int), .int .i64 S.med, .int .i64 S.pref, .bool S.atomic, .bool S.has, .int .u32 (S.aas : Int), .int .u32 (S.aad : Int), .slice cA cn cc, .slice rA rn rc, .slice A10 N.length c10], fault0]) ?_ rfl
    ⟨⟨A6, c6, G, ⟨(S.org : Int), pA, pc, M2, (S.next : Int), S.med, S.pref, S.atomic, S.has, (S.aas : Int), (S.aad : Int), cA, cc, S.comms, rA, rc, L2⟩, A10, c10, N⟩, ?_, ⟨pxs_own O14.out, HC6.out, HP.out.2.1, hin, pxs_own P14.out, HC10.out, HP.out.2.2.2.1⟩, BF.out, rfl, rfl, rfl, hM, rfl, rfl, rfl, rfl, rfl, rfl, rfl, rfl, hL⟩
  · simp [results, Tryz.results12, go_sem, fault0, ra, rf]
  · unfold Uv.row Av.row
    dsimp only
    rw [hpn, ← hcn, hrn]
    rfl
end Go.Proofs.YtbfbnoonegdlgaaGreatDoor

/-
  P7.4: messages that are put, one behind the other, fed byte by byte, come out as they were: the walk.
-/
import Derived.Test.YtjhmkapafhgofaaDoorMsIn7
import Derived.Test.YtjhmkapafhgofaaDoorBack2W
import Derived.Test.YtjhmkapafhgofaaDoorAwake7
import Derived.Test.YtjhmkapafhgofaaDoorFault7
import Derived.Deep.RegionHeld3
namespace Go.Proofs.YtjhmkapafhgofaaDoor.FrameBack
set_option linter.unusedVariables false
set_option linter.unusedSimpArgs false
open Go.RowKit FramePuts

/-- What holds while messages are put. -/
def B1Rel (w : World) (L : List Ms) (va vw i : Value) (wr : World) : Prop :=
  Below w.heap.size w wr ∧ ∃ (j : Nat) (M : List Ms), j ≤ L.length ∧ i = .int .i64 (j : Int) ∧ M.map Ms.abs = goods ((L.take j).map Ms.abs) ∧ (bytesOf7 (M.map Ms.abs)).length ≤ j * 419 ∧ M.length ≤ j ∧
    Own wr w.heap.size 5 va (bytesOf7 (M.map Ms.abs)) ∧ OwnM wr w.heap.size vw M ∧ BodiesAt wr w.heap.size M
set_option maxRecDepth 100000 in
theorem rel_skip {w wr : World} {L M : List Ms} {va vw : Value} {j : Nat} {s : Ms} (hb : Below w.heap.size w wr) (hs : L[j]? = some s) (hM : M.map Ms.abs = goods ((L.take j).map Ms.abs)) (hl : (bytesOf7 (M.map Ms.abs)).length ≤ j * 419) (hlm : M.length ≤ j)
    (ho : Own wr w.heap.size 5 va (bytesOf7 (M.map Ms.abs))) (hw : OwnM wr w.heap.size vw M) (hbo : BodiesAt wr w.heap.size M) (hg : goodB s.abs = false) : B1Rel w L va vw (.int .i64 ((j + 1 : Nat) : Int)) wr := by
  have hj := (List.getElem?_eq_some_iff.1 hs).1
  refine ⟨hb, j + 1, M, by omega, rfl, ?_, by omega, by omega, ho, hw, hbo⟩
  have h := goods_step (L := L.map Ms.abs) (j := j) (s := s.abs) (by simp [hs])
  rw [← List.map_take, ← List.map_take] at h
  rw [h, hM, hg]; simp
set_option maxRecDepth 100000 in
theorem rel_more {w wr : World} {L M : List Ms} {va vw : Value} {j : Nat} {s : Ms} (hb : Below w.heap.size w wr) (hs : L[j]? = some s) (hM : M.map Ms.abs = goods ((L.take j).map Ms.abs)) (hl : (bytesOf7 (M.map Ms.abs)).length ≤ j * 419) (hlm : M.length ≤ j) (hb4 : s.body.length ≤ 400)
    (ho : Own wr w.heap.size 5 va (bytesOf7 (M.map Ms.abs) ++ msgL s.kind.toNat s.body)) (hw : OwnM wr w.heap.size vw (M ++ [s])) (hbo : BodiesAt wr w.heap.size (M ++ [s])) (hg : goodB s.abs = true) : B1Rel w L va vw (.int .i64 ((j + 1 : Nat) : Int)) wr := by
  have hj := (List.getElem?_eq_some_iff.1 hs).1
  have e : (M ++ [s]).map Ms.abs = M.map Ms.abs ++ [s.abs] := by simp
  refine ⟨hb, j + 1, M ++ [s], by omega, rfl, ?_, ?_, by simp; omega, ?_, hw, hbo⟩
  · have h := goods_step (L := L.map Ms.abs) (j := j) (s := s.abs) (by simp [hs])
    rw [← List.map_take, ← List.map_take] at h
    rw [h, e, hM, hg]; simp
  · rw [e, bytesOf7_snoc, List.length_append, msgL_len]
    show _ + (19 + s.body.length) ≤ _
    omega
  · rw [e, bytesOf7_snoc]
    exact ho

theorem bodies_w {w wr w3 : World} {A : Option Addr} {l : List UInt8} (h : At wr w.heap.size A l) (hr : Below w.heap.size w wr) (h3 : Below w.heap.size w w3) : At w3 w.heap.size A l := fun hl => by
  obtain ⟨b, off, hA, hlt, hc⟩ := h hl
  exact ⟨b, off, hA, hlt, fun j hj => (h3.cell (p := ⟨b, off + j, none⟩) hlt).trans ((hr.cell (p := ⟨b, off + j, none⟩) hlt).symm.trans (hc j hj))⟩
theorem put_cases {k : Int} {l : List UInt8} (h : l.length ≤ 400) :
    (putX k l = 1 ∧ goodB (k, l) = false) ∨ (putX k l = 0 ∧ ((putM k l).length : Int) < (leastN k : Int) ∧ goodB (k, l) = false) ∨
    (putX k l = 0 ∧ ¬ ((putM k l).length : Int) < (leastN k : Int) ∧ (k == 4) = true ∧ (19 : Int) < ((putM k l).length : Int) ∧ goodB (k, l) = false) ∨
    (putX k l = 0 ∧ ¬ ((putM k l).length : Int) < (leastN k : Int) ∧ (k == 4) = true ∧ ¬ (19 : Int) < ((putM k l).length : Int) ∧ goodB (k, l) = true ∧ putM k l = msgL k.toNat l) ∨
    (putX k l = 0 ∧ ¬ ((putM k l).length : Int) < (leastN k : Int) ∧ (k == 4) = false ∧ goodB (k, l) = true ∧ putM k l = msgL k.toNat l) := by
  by_cases h0 : leastN k = 0
  · left
    unfold putX goodB
    rw [if_pos h0]
    exact ⟨rfl, decide_eq_false (fun h => h.1 h0)⟩
  · right
    have eX : putX k l = 0 := by unfold putX; rw [if_neg h0, if_neg (by omega)]
    have eM : putM k l = msgL k.toNat l := by unfold putM; rw [if_neg h0, if_neg (by omega)]
    rw [eX, eM, msgL_len]
    by_cases h1 : 19 + l.length < leastN k
    · left
      exact ⟨rfl, by omega, decide_eq_false (fun h => by have := h.2.2.1; dsimp only at this; omega)⟩
    · right
      by_cases h4 : k = 4
      · by_cases h5 : 0 < l.length
        · left
          exact ⟨rfl, by omega, by simp [h4], by omega, decide_eq_false (fun h => h.2.2.2 ⟨h4, h5⟩)⟩
        · right; left
          exact ⟨rfl, by omega, by simp [h4], by omega, decide_eq_true ⟨h0, by dsimp only; omega, by dsimp only; omega, fun h => h5 h.2⟩, rfl⟩
      · right; right
        exact ⟨rfl, by omega, by simp [h4], decide_eq_true ⟨h0, by dsimp only; omega, by dsimp only; omega, fun h => h4 h.1⟩, rfl⟩

set_option maxHeartbeats 12800000 in
set_option maxRecDepth 100000 in
theorem walk_few (A : Option Addr) (c : Nat) (L : List Ms) (w : World) (hc : L.length ≤ c) (hm : c ≤ maxLen) (h : MsIn w w.heap.size A L) (hr : ∀ s ∈ L, s.body.length ≤ s.cap ∧ s.cap ≤ maxLen ∧ -9223372036854775808 ≤ s.kind ∧ s.kind ≤ 9223372036854775807) (ht : TabL w)
    (hl : L.length ≤ 8) :
    Calls Tryd.prog 6 #[.slice A L.length c] w fun e w' => e = .returned (.bool true) ∧ Below w.heap.size w w' := by
  have hlI : ¬ (8 : Int) < (L.length : Int) := by omega
  have HT := Lib.hid (fun W (hB : Below w.heap.size w W) => ht.below hB ht.lt)
  have HIN := Lib.hid (fun W (hB : Below w.heap.size w W) => h.below hB (Nat.le_refl _))
  have HR := Lib.hid hr
  have QAW := Lib.hid (fun W (hB : Below w.heap.size w W) => awake7_any W (ht.below hB ht.lt))
  clear ht h hr
  go_enter Tryd.func6, Tryd.ntmps6
  go_wp2_with fail
  go_loopw [3, 4, 5] (fun va vw i wr => B1Rel w L va vw i wr) (fun _ _ i _ => L.length - (intOf i).toNat)
  case atStart => exact ⟨Below.refl _ _, 0, [], by omega, rfl, by simp [goods], by simp [bytesOf7], by simp, by simpa [bytesOf7] using Own.nil w w.heap.size 5, OwnM.nil _ _, fun s hs => by cases hs⟩
  case round =>
    obtain ⟨hbr, j, M, hj, rfl, hM, hbl, hml, hoa, how, hbo⟩ := hrel
    have HBR := Lib.hid hbr; have HM := Lib.hid hM; have HBL := Lib.hid hbl; have HML := Lib.hid hml; have HOA := Lib.hid hoa; have HOW := Lib.hid how; have HBO := Lib.hid hbo
    obtain ⟨Aa, ca, rfl, fa, ga⟩ := hoa.form
    have HFA := Lib.hid fa; have HGA := Lib.hid ga
    obtain ⟨Aw, cw, rfl, fw, gw⟩ := how.form
    clear hbr hM hbl hml hoa how hbo fa ga fw gw
    by_cases hlt : j < L.length
    · obtain ⟨s, hs⟩ : ∃ s, L[j]? = some s := ⟨_, List.getElem?_eq_getElem hlt⟩
      obtain ⟨b, off, hA, hb, k1, k2, hy⟩ := (HIN.out w (Below.refl _ _)).at hs
      obtain ⟨hsc, hsm, hk1, hk2⟩ := HR.out s (List.mem_of_getElem? hs)
      have HS := Lib.hid hs
      obtain ⟨sk, sa, sc, sb⟩ := s
      dsimp only at k1 k2 hy hsc hsm hk1 hk2
      have hSS := Lib.hid (fun (w' : World) (hB : Below w.heap.size w w') => And.intro ((hB.cell (p := ⟨b, off + j * 2, none⟩) hb).trans k1) ((hB.cell (p := ⟨b, off + j * 2 + 1, none⟩) hb).trans k2))
      have HY := Lib.hid (fun (W : World) (hB : Below w.heap.size w W) => At.below hy hB (Nat.le_refl _))
      have hbw0 := HBR.out
      by_cases hb4 : sb.length ≤ 400
      · have hb4I : ¬ (400 : Int) < (sb.length : Int) := by omega
        have qp := fun (W : World) (hB : Below w.heap.size w W) => (Put7_any sk sa sc sb W (At.bytes (HY.out W hB) hB.size) (by omega) (HT.out _ hB)).mono (fun e w' hv => FramePuts.put_one hv)
        have ql := fun (W : World) (hB : Below w.heap.size w W) => Least_any sk W (HT.out _ hB)
        have pc := put_cases (k := sk) hb4
        obtain ⟨P, hP⟩ : ∃ P, P = putM sk sb := ⟨_, rfl⟩
        obtain ⟨X, hX⟩ : ∃ X, X = putX sk sb := ⟨_, rfl⟩
        obtain ⟨N, hN⟩ : ∃ N, N = leastN sk := ⟨_, rfl⟩
        simp only [← hP, ← hX] at qp
        simp only [← hN] at ql
        rw [← hP, ← hX, ← hN] at pc
        have hNl : N ≤ 29 := by rw [hN]; exact leastN_le sk
        have QP := Lib.hid qp; have QL := Lib.hid ql
        have hbc := (Below.refl wr.heap.size wr).drew
        have HB4 := Lib.hid hb4
        subst hA
        clear qp ql hy hs hsc hsm hP hX hN k1 k2
        rcases pc with ⟨rfl, hg0⟩ | ⟨rfl, hp1, hg0⟩ | ⟨rfl, hp1, hp2, hp3, hg0⟩ | ⟨rfl, hp1, hp2, hp3, hg0, hp4⟩ | ⟨rfl, hp1, hp2, hg0, hp4⟩
        · have Hg := Lib.hid hg0; clear hg0
          obtain ⟨kw1, kw2⟩ := hSS.out _ hbw0
          go_wp2_with fail
          go_region_held3 (fun w' => w'.cell? ⟨b, off + j * 2, none⟩ = some (.int .i64 sk) ∧ w'.cell? ⟨b, off + j * 2 + 1, none⟩ = some (.slice sa sb.length sc)) (exact hSS.out _ (hbw0.trans (hbc.mono hbw0.size))) ((go_at_call 9; refine (QP.out _ (hbw0.trans (hbc.mono hbw0.size))).mono ?_; rintro e wx ⟨hg, A1, c1, rfl, hy1⟩; replace hbc := hbc.trans (hg.mono hbc.size); have HY1 := Lib.hid hy1; clear hg hy1))
          have hbw := hbw0.trans (hbc.mono hbw0.size)
          obtain ⟨kk1, kk2⟩ := hSS.out _ hbw
          have HBW := Lib.hid hbw; have HBC := Lib.hid hbc; clear hbw hbc hbw0 kw1 kw2
          go_wp2_with fail
          go_roundw
          case rel => exact rel_skip HBW.out HS.out HM.out HBL.out HML.out (HOA.out.below HBC.out) (HOW.out.below HBC.out) (HBO.out.below HBC.out HBR.out.size) Hg.out
          case measure => simp [intOf]; omega
        · have Hg := Lib.hid hg0; clear hg0
          obtain ⟨kw1, kw2⟩ := hSS.out _ hbw0
          go_wp2_with fail
          go_region_held3 (fun w' => w'.cell? ⟨b, off + j * 2, none⟩ = some (.int .i64 sk) ∧ w'.cell? ⟨b, off + j * 2 + 1, none⟩ = some (.slice sa sb.length sc)) (exact hSS.out _ (hbw0.trans (hbc.mono hbw0.size))) ((go_at_call 9; refine (QP.out _ (hbw0.trans (hbc.mono hbw0.size))).mono ?_; rintro e wx ⟨hg, A1, c1, rfl, hy1⟩; replace hbc := hbc.trans (hg.mono hbc.size); have HY1 := Lib.hid hy1; clear hg hy1))
          have hbw := hbw0.trans (hbc.mono hbw0.size)
          obtain ⟨kk1, kk2⟩ := hSS.out _ hbw
          have HBW := Lib.hid hbw; have HBC := Lib.hid hbc; clear hbw hbc hbw0 kw1 kw2
          go_wp2_with fail
          refine (QL.out _ HBW.out).mono ?_
          rintro e wy ⟨rfl, rfl⟩
          go_wp2_with fail
          go_roundw
          case rel => exact rel_skip HBW.out HS.out HM.out HBL.out HML.out (HOA.out.below HBC.out) (HOW.out.below HBC.out) (HBO.out.below HBC.out HBR.out.size) Hg.out
          case measure => simp [intOf]; omega
        · have Hg := Lib.hid hg0; clear hg0
          obtain ⟨kw1, kw2⟩ := hSS.out _ hbw0
          go_wp2_with fail
          go_region_held3 (fun w' => w'.cell? ⟨b, off + j * 2, none⟩ = some (.int .i64 sk) ∧ w'.cell? ⟨b, off + j * 2 + 1, none⟩ = some (.slice sa sb.length sc)) (exact hSS.out _ (hbw0.trans (hbc.mono hbw0.size))) ((go_at_call 9; refine (QP.out _ (hbw0.trans (hbc.mono hbw0.size))).mono ?_; rintro e wx ⟨hg, A1, c1, rfl, hy1⟩; replace hbc := hbc.trans (hg.mono hbc.size); have HY1 := Lib.hid hy1; clear hg hy1))
          have hbw := hbw0.trans (hbc.mono hbw0.size)
          obtain ⟨kk1, kk2⟩ := hSS.out _ hbw
          have HBW := Lib.hid hbw; have HBC := Lib.hid hbc; clear hbw hbc hbw0 kw1 kw2
          go_wp2_with fail
          refine (QL.out _ HBW.out).mono ?_
          rintro e wy ⟨rfl, rfl⟩
          go_wp2_with fail
          go_roundw
          case rel => exact rel_skip HBW.out HS.out HM.out HBL.out HML.out (HOA.out.below HBC.out) (HOW.out.below HBC.out) (HBO.out.below HBC.out HBR.out.size) Hg.out
          case measure => simp [intOf]; omega
        · have Hg := Lib.hid hg0; have HP4 := Lib.hid hp4; clear hg0 hp4
          obtain ⟨kw1, kw2⟩ := hSS.out _ hbw0
          go_wp2_with fail
          go_region_held3 (fun w' => w'.cell? ⟨b, off + j * 2, none⟩ = some (.int .i64 sk) ∧ w'.cell? ⟨b, off + j * 2 + 1, none⟩ = some (.slice sa sb.length sc)) (exact hSS.out _ (hbw0.trans (hbc.mono hbw0.size))) ((go_at_call 9; refine (QP.out _ (hbw0.trans (hbc.mono hbw0.size))).mono ?_; rintro e wx ⟨hg, A1, c1, rfl, hy1⟩; replace hbc := hbc.trans (hg.mono hbc.size); have HY1 := Lib.hid hy1; clear hg hy1))
          have hbw := hbw0.trans (hbc.mono hbw0.size)
          obtain ⟨kk1, kk2⟩ := hSS.out _ hbw
          have HBW := Lib.hid hbw; have HBC := Lib.hid hbc; clear hbw hbc hbw0 kw1 kw2
          go_wp2_with fail
          refine (QL.out _ HBW.out).mono ?_
          rintro e wy ⟨rfl, rfl⟩
          have hPl : P.length = 19 + sb.length := by rw [HP4.out, msgL_len]
          have HOA1 := Lib.hid (HOA.out.below HBC.out)
          have HOW1 := Lib.hid (HOW.out.below HBC.out)
          have HSZ := Lib.hid (show (bytesOf7 (M.map Ms.abs)).length + P.length ≤ 140737488355328 by have := HBL.out; have := HB4.out; omega)
          have HSZ2 := Lib.hid (show (M.length + 1) * 32 ≤ 140737488355328 by have := HML.out; omega)
          clear hPl kk1 kk2
          go_wp2_with (at_builtin; refine wpList_append_bytes isBytes rfl (.tmp 72) (.tmp 73) rfl w _ _ rfl HOA1.out A1 P _ c1 rfl rfl HY1.out HSZ.out HBW.out ?_)
          intro va' w2 hoa2 hg2 hb2
          obtain ⟨Aa2, ca2, rfl, fa2, ga2⟩ := hoa2.form
          have HOA2 := Lib.hid hoa2
          have HOW2 := Lib.hid (HOW1.out.besideOwn HOA1.out hg2)
          have HBW2 := Lib.hid hb2
          obtain ⟨kk1, kk2⟩ := hSS.out _ hb2
          clear hoa2 hg2 hb2 fa2 ga2
          go_wp2_with (at_builtin; refine wpList_app_one isMsg rfl (.tmp 75) (.tmp 80) rfl w _ M.length (flatM M) rfl w2 (Ms.two ⟨sk, sa, sc, sb⟩) rfl HOW2.out rfl rfl (twoM_one _) HSZ2.out HBW2.out ?_)
          intro vw' w3 how3 hg3 hb3
          obtain ⟨Aw3, cw3, rfl, fw3, gw3⟩ := (OwnM.push how3).form
          have HW3 := Lib.hid how3
          have HO3 := Lib.hid (show Own w3 w.heap.size 5 (.slice Aa2 ((bytesOf7 (M.map Ms.abs)).length + P.length) ca2) (bytesOf7 (M.map Ms.abs) ++ msgL sk.toNat sb) from by have h := HOA2.out.besideM HOW2.out hg3; rw [List.length_append] at h; rw [← HP4.out]; exact h)
          have HB3 := Lib.hid hb3
          have HBO3 := Lib.hid (show BodiesAt w3 w.heap.size (M ++ [⟨sk, sa, sc, sb⟩]) from fun s hs => by
            rcases List.mem_append.1 hs with h1 | h1
            · exact bodies_w (HBO.out s h1) HBR.out hb3
            · rw [List.mem_singleton.1 h1]; exact HY.out _ hb3)
          clear how3 hg3 hb3 fw3 gw3
          go_wp2_with fail
          go_roundw
          case rel => exact rel_more HB3.out HS.out HM.out HBL.out HML.out HB4.out HO3.out (OwnM.push HW3.out) HBO3.out Hg.out
          case measure => simp [intOf]; omega
        · have Hg := Lib.hid hg0; have HP4 := Lib.hid hp4; clear hg0 hp4
          obtain ⟨kw1, kw2⟩ := hSS.out _ hbw0
          go_wp2_with fail
          go_region_held3 (fun w' => w'.cell? ⟨b, off + j * 2, none⟩ = some (.int .i64 sk) ∧ w'.cell? ⟨b, off + j * 2 + 1, none⟩ = some (.slice sa sb.length sc)) (exact hSS.out _ (hbw0.trans (hbc.mono hbw0.size))) ((go_at_call 9; refine (QP.out _ (hbw0.trans (hbc.mono hbw0.size))).mono ?_; rintro e wx ⟨hg, A1, c1, rfl, hy1⟩; replace hbc := hbc.trans (hg.mono hbc.size); have HY1 := Lib.hid hy1; clear hg hy1))
          have hbw := hbw0.trans (hbc.mono hbw0.size)
          obtain ⟨kk1, kk2⟩ := hSS.out _ hbw
          have HBW := Lib.hid hbw; have HBC := Lib.hid hbc; clear hbw hbc hbw0 kw1 kw2
          go_wp2_with fail
          refine (QL.out _ HBW.out).mono ?_
          rintro e wy ⟨rfl, rfl⟩
          have hPl : P.length = 19 + sb.length := by rw [HP4.out, msgL_len]
          have HOA1 := Lib.hid (HOA.out.below HBC.out)
          have HOW1 := Lib.hid (HOW.out.below HBC.out)
          have HSZ := Lib.hid (show (bytesOf7 (M.map Ms.abs)).length + P.length ≤ 140737488355328 by have := HBL.out; have := HB4.out; omega)
          have HSZ2 := Lib.hid (show (M.length + 1) * 32 ≤ 140737488355328 by have := HML.out; omega)
          clear hPl kk1 kk2
          go_wp2_with (at_builtin; refine wpList_append_bytes isBytes rfl (.tmp 72) (.tmp 73) rfl w _ _ rfl HOA1.out A1 P _ c1 rfl rfl HY1.out HSZ.out HBW.out ?_)
          intro va' w2 hoa2 hg2 hb2
          obtain ⟨Aa2, ca2, rfl, fa2, ga2⟩ := hoa2.form
          have HOA2 := Lib.hid hoa2
          have HOW2 := Lib.hid (HOW1.out.besideOwn HOA1.out hg2)
          have HBW2 := Lib.hid hb2
          obtain ⟨kk1, kk2⟩ := hSS.out _ hb2
          clear hoa2 hg2 hb2 fa2 ga2
          go_wp2_with (at_builtin; refine wpList_app_one isMsg rfl (.tmp 75) (.tmp 80) rfl w _ M.length (flatM M) rfl w2 (Ms.two ⟨sk, sa, sc, sb⟩) rfl HOW2.out rfl rfl (twoM_one _) HSZ2.out HBW2.out ?_)
          intro vw' w3 how3 hg3 hb3
          obtain ⟨Aw3, cw3, rfl, fw3, gw3⟩ := (OwnM.push how3).form
          have HW3 := Lib.hid how3
          have HO3 := Lib.hid (show Own w3 w.heap.size 5 (.slice Aa2 ((bytesOf7 (M.map Ms.abs)).length + P.length) ca2) (bytesOf7 (M.map Ms.abs) ++ msgL sk.toNat sb) from by have h := HOA2.out.besideM HOW2.out hg3; rw [List.length_append] at h; rw [← HP4.out]; exact h)
          have HB3 := Lib.hid hb3
          have HBO3 := Lib.hid (show BodiesAt w3 w.heap.size (M ++ [⟨sk, sa, sc, sb⟩]) from fun s hs => by
            rcases List.mem_append.1 hs with h1 | h1
            · exact bodies_w (HBO.out s h1) HBR.out hb3
            · rw [List.mem_singleton.1 h1]; exact HY.out _ hb3)
          clear how3 hg3 hb3 fw3 gw3
          go_wp2_with fail
          go_roundw
          case rel => exact rel_more HB3.out HS.out HM.out HBL.out HML.out HB4.out HO3.out (OwnM.push HW3.out) HBO3.out Hg.out
          case measure => simp [intOf]; omega
      · have hb4I : (400 : Int) < (sb.length : Int) := by omega
        have kk2 := (hSS.out _ hbw0).2
        subst hA
        clear hy hs hsc hsm k1 k2
        go_wp2_with fail
        refine (QAW.out _ hbw0).mono ?_
        rintro e w7 ⟨rfl, hb7⟩
        go_wp2_with fail
        go_ret
        exact ⟨rfl, HBR.out.trans (hb7.mono HBR.out.size)⟩
    · obtain rfl : j = L.length := by omega
      have eM : M.map Ms.abs = goods (L.map Ms.abs) := by have h := HM.out; rw [List.take_length] at h; exact h
      have HG := Lib.hid (show allF ((bytesOf7 (M.map Ms.abs)).length + 1) (bytesOf7 (M.map Ms.abs)) = (M.map Ms.abs, ((0, 0, []), 0)) from by rw [eM]; exact allF_goods _)
      have hBl : (bytesOf7 (M.map Ms.abs)).length ≤ 3352 := by have := HBL.out; omega
      have hca := HFA.out
      have hcm : ca ≤ 9223372036854775807 := by have := HGA.out; unfold maxLen at this; omega
      have hML : M.length ≤ 8 := by have := HML.out; omega
      have hfd : ∀ (w : World) (A : Option Addr) (c : Nat), (Instr.field 33 (.agg #[.int .i64 0, .int .i64 0, .slice A 0 c]) 0).run Tryd.prog w = .ok (.int .i64 0) w := fun _ _ _ => by kernel_rfl
      clear eM
      go_wp2_with fail
      refine (StreamNew_any wr).mono ?_
      rintro e w0 ⟨rfl, rfl⟩
      go_wp2_with fail
      go_loopw [9, 10] (fun a i w2 => ∃ an p : Nat, an ≤ M.length ∧ p ≤ (bytesOf7 (M.map Ms.abs)).length ∧ a = .int .i64 (an : Int) ∧ i = .int .i64 (p : Int) ∧ B2 wr (M.map Ms.abs) an p w2) (fun _ i _ => (bytesOf7 (M.map Ms.abs)).length - (intOf i).toNat)
      case atStart => exact ⟨0, 0, Nat.zero_le _, Nat.zero_le _, rfl, rfl, B2.start _ _⟩
      case round =>
        obtain ⟨an, p, han, hp, rfl, rfl, hB2⟩ := hrel
        have HB := Lib.hid hB2
        clear hB2
        by_cases hlp : p < (bytesOf7 (M.map Ms.abs)).length
        · have hcp : ¬ ca = p := by omega
          have QF := Lib.hid (fun c => feed_back (c := c) (A := Aa.map (·.add p)) HB.out hlp (by omega) (by
            have h := At.drop (show At _ _ Aa (bytesOf7 (M.map Ms.abs)) from HOA.out.bytes.below HB.out.1) (k := p) (c := ca) hca
            rw [if_neg hcp] at h
            exact At.take h 1))
          go_wp2_with fail
          refine (QF.out _).mono ?_
          rintro e w3 ⟨rfl, hF2⟩
          have QN := Lib.hid (look_back hF2 HG.out (by omega) (HT.out _ (HBR.out.trans (hF2.1.mono HBR.out.size))))
          clear hF2 QF
          go_wp2_with fail
          refine QN.out.mono ?_
          rintro e w4 (⟨s, A8, c8, hs, rfl, hy8, hb8⟩ | ⟨kd, A9, n9, c9, rfl, hb9⟩)
          · obtain ⟨t, ht, hts⟩ : ∃ t, M[an]? = some t ∧ t.abs = s := by
              rw [List.getElem?_map] at hs
              cases h : M[an]? with
              | none => rw [h] at hs; cases hs
              | some t => rw [h] at hs; exact ⟨t, rfl, Option.some.inj hs⟩
            have hlt := (List.getElem?_eq_some_iff.1 ht).1
            have hnI : ¬ (M.length : Int) ≤ (an : Int) := by omega
            obtain ⟨g1, hA1, hg1, k1, k2⟩ := OwnM.at (HOW.out.below hb8.1) ht
            have hy9 := At.bytes ((HBO.out t (List.mem_of_getElem? ht)).below hb8.1 HBR.out.size) (Nat.le_trans HBR.out.size hb8.1.size)
            obtain ⟨tk, ta, tc, tb⟩ := t
            simp only [Ms.abs] at hts
            subst hts
            subst hA1
            dsimp only at hy8 hy9 k1 k2
            dsimp only
            have QS := Lib.hid (show Calls Tryd.prog 11 #[.slice A8 tb.length c8, .slice ta tb.length tc] w4 fun e w'' => e = .returned (.bool true) ∧ w4 = w'' from
              (Same_any A8 ta tb.length tb.length c8 tc tb tb rfl rfl w4 hy8 hy9).mono fun e w'' h => ⟨by rw [h.1]; simp, h.2⟩)
            have HB8 := Lib.hid hb8
            clear hs ht hy8 hy9 hb8 QN
            go_wp2_with fail
            refine QS.out.mono ?_
            rintro e w5 ⟨rfl, rfl⟩
            go_wp2_with fail
            go_roundw
            case rel => exact ⟨an + 1, p + 1, by omega, by omega, by go_num, by go_num, HB8.out⟩
            case measure => simp [intOf]; omega
          · have HB9 := Lib.hid hb9
            clear hb9 QN
            go_wp2_with fail
            go_roundw
            case rel => exact ⟨an, p + 1, han, by omega, rfl, by go_num, HB9.out⟩
            case measure => simp [intOf]; omega
        · obtain rfl : p = (bytesOf7 (M.map Ms.abs)).length := by omega
          obtain ⟨hb5, ha5, vs, hst⟩ := B2.fin HB.out HG.out
          obtain rfl : an = M.length := by simpa using ha5
          obtain ⟨Av, cv, rfl, _, _, _⟩ := hst.2.form
          have QL := Lib.hid (StreamLeft_any _ 0 cv Av _ (hst.1.cell 0))
          have QX := Lib.hid ((FaultOk_any _ _ [] _ hst).mono (fun e w' h => (show Below _ _ _ ∧ ∃ A c, e = .returned (.agg #[.int .i64 0, .int .i64 0, .slice A 0 c]) from ⟨h.1, by obtain ⟨_, A, c, h2, _⟩ := h; exact ⟨A, c, h2⟩⟩)))
          have HB5 := Lib.hid (HBR.out.trans (hb5.mono HBR.out.size))
          clear hb5 ha5 hst HB
          go_wp2_with fail
          refine QL.out.mono ?_
          rintro e w6 ⟨rfl, rfl⟩
          go_wp2_with fail
          refine QX.out.mono ?_
          rintro e w6 ⟨hb6, A6, c6, rfl⟩
          have HB6 := Lib.hid (HB5.out.trans (hb6.mono HB5.out.size)); clear hb6
          go_wp2_with fail
          refine (QAW.out _ HB6.out).mono ?_
          rintro e w7 ⟨rfl, hb7⟩
          go_wp2_with fail
          go_ret
          exact ⟨rfl, HB6.out.trans (hb7.mono HB6.out.size)⟩

theorem walk (A : Option Addr) (c : Nat) (L : List Ms) (w : World) (hc : L.length ≤ c) (hm : c ≤ maxLen) (h : MsIn w w.heap.size A L) (hr : ∀ s ∈ L, s.body.length ≤ s.cap ∧ s.cap ≤ maxLen ∧ -9223372036854775808 ≤ s.kind ∧ s.kind ≤ 9223372036854775807) (ht : TabL w) :
    Calls Tryd.prog 6 #[.slice A L.length c] w fun e w' => e = .returned (.bool true) ∧ Below w.heap.size w w' := by
  by_cases hl : L.length ≤ 8
  · exact walk_few A c L w hc hm h hr ht hl
  · have hlI : (8 : Int) < (L.length : Int) := by omega
    have QA := Lib.hid (awake7_any w ht)
    clear h ht hl hr
    go_enter Tryd.func6, Tryd.ntmps6
    go_wp2_with fail
    refine QA.out.mono ?_
    rintro e w2 ⟨rfl, hb2⟩
    go_wp2_with fail
    go_ret
    exact ⟨rfl, hb2⟩
end Go.Proofs.YtjhmkapafhgofaaDoor.FrameBack

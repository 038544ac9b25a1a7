/-
  Texts of this seat, put together: UBack5W.
-/
import Derived.Test.YtbfbnoonegdlgaaGreatDoorPuts5WMg
import Derived.Test.YtbfbnoonegdlgaaGreatDoorMg28
import Derived.Test.YtbfbnoonegdlgaaGreatDoorMg25
import Derived.Test.YtbfbnoonegdlgaaGreatDoorMg15
/-
  P5.4: an update that may be, put wide, is read as it was by an inner reader: the walk.
-/
namespace Go.Proofs.YtbfbnoonegdlgaaGreatDoor
set_option linter.unusedVariables false
set_option linter.unusedSimpArgs false
open Go.RowKit

theorem putF_zero {u : Uv} {d : List UInt8} {E : Int} (hn : u.news ≠ []) (h : (putF u d E).2 = 0) : E = 0 ∧ pxsOk u.gone = true ∧ pxsOk u.news = true ∧ putF u d E = (updB (pxB u.gone) d (pxB u.news), 0) := by
  obtain ⟨a1, a2, a3⟩ := putF_all u d E
  by_cases hs : (sayF u d E).2 = 0
  · have ho := say_ok hs
    have e : sayF u d E = (d, E) := by unfold sayF; rw [ho.1, ho.2, if_pos (by rfl), if_neg hn]
    rw [e] at hs a2 a3
    dsimp only at hs
    by_cases hf : fitsB u d
    · exact ⟨hs, ho.1, ho.2, by have := a2 hs hf; rw [this, hs]⟩
    · have := a3 hs hf
      rw [this] at h
      cases h
  · rw [a1 hs] at h
    exact absurd h hs
theorem uback_ends {E : Int} (hE : E = 0 ∨ E = 1 ∨ E = 4) (h : E ≠ 0) : E = 1 ∨ E = 4 := by omega
set_option maxRecDepth 100000 in
set_option maxHeartbeats 25600000 in
theorem UpdateBack.walk (u : Uv) (W : World) (ht : TabK W) (hu : u.In W W.heap.size) (ha : AvArg W u.attrs) (hwt : Wt reachBytes u.attrs.path) :
    Calls Tryz.prog 4 #[.agg u.row.toArray] W fun e w' => e = .returned (.bool true) ∧ Below W.heap.size W w' := by
  have hb1 := (Below.refl W.heap.size W).alloc (Nat.le_refl _) (.cells u.row.toArray 30)
  have kA := Blk.new W 30 u.row
  obtain ⟨W0, hW0⟩ : ∃ W0, W0 = W.alloc (.cells u.row.toArray 30) := ⟨_, rfl⟩
  rw [← hW0] at hb1 kA
  have HW0 := Lib.hid hW0; have HB1 := Lib.hid hb1
  have HQ := fun (w : World) (h : Below W0.heap.size W0 w) => hb1.trans (h.mono hb1.size)
  have HUV := Lib.hid (fun (w : World) (h : Below W0.heap.size W0 w) => uv_blk (kA.below h kA.lt))
  have HIN := Lib.hid (fun (w : World) (h : Below W0.heap.size W0 w) => (hu.below (HQ w h) (Nat.le_refl _)).lift (HQ w h).size)
  have HTK := Lib.hid (fun (w : World) (h : Below W0.heap.size W0 w) => ht.below (HQ w h) ht.lt)
  have QW := Lib.hid (fun (w : World) (h : Below W0.heap.size W0 w) => awake5_any w (HTK.out w h))
  have QFA := Lib.hid (fun (w : World) (h : Below W0.heap.size W0 w) => Few5_any u 1000 w (HIN.out w h) (by decide))
  have HPT := Lib.hid (fun (h1 : u.attrs.path.length ≤ 10000) (h2 : totN u.attrs.path ≤ 1152921504606846976) (h3 : u.attrs.raws.length ≤ 1000) (hok : u.attrs.okB = false) (W' : World) (q : Below W.heap.size W W') =>
    And.intro ((PutA_no u.attrs true W' (ht.below q ht.lt) ((ha.inn.below q (Nat.le_refl _)).lift q.size) hok h1 h2 h3).mono fun e w' h => rete_no h) ((RefPut4_no u.attrs true W' ((ha.inn.below q (Nat.le_refl _)).lift q.size) hok h1 h2 h3).mono fun e w' h => rete_no h))
  obtain ⟨N, hN⟩ := Int.eq_ofNat_of_zero_le ha.next.1
  have hNb : N < 4294967296 := by have := ha.next.2; omega
  have HBK := Lib.hid (fun (hok : u.attrs.okB = true) (hnb : nextB N = true) => back_all5 u.attrs W ht ha hok N hN hnb)
  have HCN := Lib.hid (fun (w : World) (h : Below W0.heap.size W0 w) => show w.cell? ⟨W.heap.size, 3, none⟩ = some (.int .u32 (N : Int)) by rw [← hN]; exact (kA.below h kA.lt).cell 3)
  have HCP := Lib.hid (fun (w : World) (h : Below W0.heap.size W0 w) => show w.cell? ⟨W.heap.size, 5, none⟩ = some (.int .i64 u.attrs.pref) from (kA.below h kA.lt).cell 5)
  have HCW := Lib.hid (fun (w : World) (h : Below W0.heap.size W0 w) => show w.cell? ⟨W.heap.size, 12, none⟩ = some (.slice u.newsA u.news.length u.newsC) from (kA.below h kA.lt).cell 12)
  have HNB := Lib.hid hNb; have HGF := Lib.hid (And.intro hu.goneF hu.newsF)
  have HBW := Lib.hid HQ
  clear hb1 kA hW0 ha ht hu HQ hN hNb
  go_enter Tryz.func4, Tryz.ntmps4
  go_wp2_with (first
    | (refine wpList_boxU _ rfl (.tmp 0) rfl u rfl ?_)
    | (rw [← HW0.out]; refine wpList_loadU _ rfl (.tmp 1) rfl W.heap.size u rfl (HUV.out _ (Below.refl _ _)) ?_))
  refine (QFA.out _ (Below.refl _ _)).mono ?_
  rintro e w1 ⟨qa, rfl, hb1, hfa⟩
  have HA := Lib.hid hb1
  have cn := HCW.out _ hb1; have cp := HCP.out _ hb1; have cx := HCN.out _ hb1
  clear hb1
  cases qa with
  | false =>
    clear hfa
    go_wp2_with fail
    refine (QW.out _ HA.out).mono ?_
    rintro e w2 ⟨rfl, hb2⟩
    have HB2 := Lib.hid (below_two6 HB1.out ((below_two6 HA.out hb2)))
    clear hb2
    go_wp2_with fail
    go_ret
    exact ⟨rfl, HB2.out⟩
  | true =>
    obtain ⟨⟨_, _, b, hbe, hf, _⟩, hg, hn⟩ := hfa rfl
    obtain rfl : b = true := by simpa using hbe.symm
    obtain ⟨hf1, hf2, hf3, hf4⟩ := hf rfl
    have h2 : u.attrs.path.length ≤ 12 ∧ fewN u.attrs.path ≤ 300 := of_decide_eq_true hf1
    have htt := few_tot_le hf1 (fun s hs => Nat.le_trans (hwt s hs) (by unfold reachBytes; decide))
    have HNO := Lib.hid (HPT.out (by omega) (by omega) (by omega))
    have HPL := Lib.hid (show u.attrs.path.length ≤ 1000000000 ∧ u.attrs.raws.length ≤ 1000000000 by omega)
    have HGN := Lib.hid (And.intro hg hn)
    clear hf1 hf2 hf3 hf4 h2 htt hfa hwt hbe hf HPT hg hn
    by_cases hz : u.news.length = 0
    · have hzI : ((u.news.length : Int) == 0) = true := by simp [hz]
      clear hz
      go_wp2_with fail
      refine (QW.out _ HA.out).mono ?_
      rintro e w2 ⟨rfl, hb2⟩
      have HB2 := Lib.hid (below_two6 HB1.out ((below_two6 HA.out hb2)))
      clear hb2
      go_wp2_with fail
      go_ret
      exact ⟨rfl, HB2.out⟩
    · have hzI : ((u.news.length : Int) == 0) = false := by rw [beq_eq_false_iff_ne]; omega
      have HNN := Lib.hid (show u.news ≠ [] from fun e => hz (by rw [e]; rfl))
      clear hz
      by_cases hp : u.attrs.pref < 0
      · go_wp2_with fail
        refine (QW.out _ HA.out).mono ?_
        rintro e w2 ⟨rfl, hb2⟩
        have HB2 := Lib.hid (below_two6 HB1.out ((below_two6 HA.out hb2)))
        clear hb2
        go_wp2_with fail
        go_ret
        exact ⟨rfl, HB2.out⟩
      · have HPZ := Lib.hid (show 0 ≤ u.attrs.pref by omega)
        have QN := Lib.hid (RefNext_any N w1 HNB.out)
        cases hnx : nextB N with
        | false =>
          rw [hnx] at QN
          clear hnx
          go_wp2_with fail
          refine QN.out.mono ?_
          rintro e w2 ⟨rfl, rfl⟩
          go_wp2_with fail
          refine (QW.out _ HA.out).mono ?_
          rintro e w2 ⟨rfl, hb2⟩
          have HB2 := Lib.hid (below_two6 HB1.out ((below_two6 HA.out hb2)))
          clear hb2
          go_wp2_with fail
          go_ret
          exact ⟨rfl, HB2.out⟩
        | true =>
          rw [hnx] at QN
          -- both Puts
          obtain ⟨r, hr, hre, hrz, Q1, Q2⟩ : ∃ r : List UInt8 × Int, (r.1.length ≤ 1000000) ∧ (r.2 = 0 ∨ r.2 = 1 ∨ r.2 = 4) ∧ Hid (r.2 = 0 → ∃ Sf : Rs, ∃ d : List UInt8, r.1 = updB (pxB u.gone) d (pxB u.news) ∧ r.1.length ≤ 100000 ∧ pxsOk u.gone = true ∧ pxsOk u.news = true ∧ d.length ≤ 5000 ∧ RunK (fun _ => true) true d rs0 Sf ∧ (1 ∈ Sf.kinds ∧ 2 ∈ Sf.kinds ∧ 3 ∈ Sf.kinds) ∧ (0 ≤ u.attrs.pref → 5 ∈ Sf.kinds) ∧ (∀ x : Av, x.org = (Sf.org : Int) → x.path.map Sg.abs = Sf.path → x.next = (Sf.next : Int) → x.med = Sf.med → x.pref = Sf.pref → x.atomic = Sf.atomic → x.has = Sf.has → x.aas = (Sf.aas : Int) → x.aad = (Sf.aad : Int) → x.comms = Sf.comms → x.raws.map Rw.abs = Sf.raws → x.same u.attrs = true ∧ x.path.length = u.attrs.path.length ∧ x.raws.length = u.attrs.raws.length)) ∧
              Hid (∀ (w : World), Below W0.heap.size W0 w → Calls Tryz.prog 8 #[.agg u.row.toArray, .bool true] w (RetE w r.1 r.2)) ∧ Hid (∀ (w : World), Below W0.heap.size W0 w → Calls Tryz.prog 9 #[.agg u.row.toArray, .bool true] w (RetE w r.1 r.2)) := by
            have hlen : u.gone.length ≤ 100000 ∧ u.news.length ≤ 100000 := by have := HGN.out; omega
            have hgl := pxB_len u.gone
            have hnl := pxB_len u.news
            have hgn := HGN.out
            cases hok : u.attrs.okB with
            | true =>
              obtain ⟨d2, Sf, hputs, hrun, hl2, hk3, hk5, hsame⟩ := HBK.out hok hnx
              have hrl : (updB (pxB u.gone) d2 (pxB u.news)).length ≤ 100000 := by rw [updB_len5]; omega
              refine ⟨putF u d2 0, ?_, putF_e (.inl rfl), Lib.hid (fun h0 => ?_), Lib.hid (fun w h => UPut_any u true w (HIN.out w h) hlen d2 0 (by omega) (fun W' q' => (hputs W' ((HBW.out w h).trans (q'.mono (HBW.out w h).size))).1.mono fun e w' h => rete_of_put h)),
                Lib.hid (fun w h => RefUPut_any u true w (HIN.out w h) hlen d2 0 (.inl rfl) (by omega) (fun W' q' => (hputs W' ((HBW.out w h).trans (q'.mono (HBW.out w h).size))).2.mono fun e w' h => rete_of_put h))⟩
              · by_cases h0 : (putF u d2 0).2 = 0
                · rw [(putF_zero HNN.out h0).2.2.2]; exact Nat.le_trans hrl (by decide)
                · have hall := putF_all u d2 0
                  by_cases hs : (sayF u d2 0).2 = 0
                  · by_cases hf : fitsB u (sayF u d2 0).1
                    · rw [hall.2.1 hs hf] at h0; exact absurd rfl h0
                    · rw [hall.2.2 hs hf]; simp
                  · rw [hall.1 hs]; simp
              · obtain ⟨_, p1, p2, p3⟩ := putF_zero HNN.out h0
                exact ⟨Sf, d2, by rw [p3], by rw [p3]; exact hrl, p1, p2, hl2, hrun, hk3, hk5, hsame⟩
            | false =>
              have hno : ∀ W', Below W.heap.size W W' → Calls Tryz.prog 44 #[.agg u.attrs.row.toArray, .bool true] W' (RetE W' [] 1) ∧ Calls Tryz.prog 23 #[.agg u.attrs.row.toArray, .bool true] W' (RetE W' [] 1) := HNO.out hok
              have hs : (sayF u [] 1).2 ≠ 0 := by
                unfold sayF
                split
                · rw [if_neg HNN.out]; decide
                · decide
              have hpf := (putF_all u [] 1).1 hs
              refine ⟨putF u [] 1, by rw [hpf]; simp, putF_e (.inr rfl), Lib.hid (fun h0 => absurd h0 (by rw [hpf]; exact hs)), Lib.hid (fun w h => UPut_any u true w (HIN.out w h) hlen [] 1 (by simp) (fun W' q' => (hno W' ((HBW.out w h).trans (q'.mono (HBW.out w h).size))).1)),
                Lib.hid (fun w h => RefUPut_any u true w (HIN.out w h) hlen [] 1 (.inr rfl) (by simp) (fun W' q' => (hno W' ((HBW.out w h).trans (q'.mono (HBW.out w h).size))).2))⟩
          clear hnx
          obtain ⟨rd, re⟩ := r
          dsimp only at hr hre hrz Q1 Q2
          have HRL := Lib.hid hr
          clear hr
          go_wp2_with fail
          refine QN.out.mono ?_
          rintro e w2 ⟨rfl, rfl⟩
          go_wp2_with (refine wpList_loadU _ rfl (.tmp 1) rfl W.heap.size u rfl (HUV.out _ HA.out) ?_)
          refine (Q1.out _ HA.out).mono ?_
          rintro e w2 ⟨A1, c1, rfl, f1, f2, ho1, hb2⟩
          have HB := Lib.hid (below_two6 HA.out hb2)
          have HO1 := Lib.hid ho1; have HF1 := Lib.hid (And.intro f1 f2)
          clear f1 f2 ho1 hb2 QN cn cp cx
          go_wp2_with (refine wpList_loadU _ rfl (.tmp 1) rfl W.heap.size u rfl (HUV.out _ HB.out) ?_)
          refine (Q2.out _ HB.out).mono ?_
          rintro e w3 ⟨A2, c2, rfl, f1, f2, ho2, hb3⟩
          have HC := Lib.hid (below_two6 HB.out hb3)
          have HO1b := Lib.hid (row_below HO1.out hb3)
          clear f1 f2 ho2 hb3 Q1 Q2
          by_cases h0 : re = 0
          · subst h0
            obtain ⟨Sf, d, hrd, hrl, hp1, hp2, hdl, hrun, hk3, hk5, hsame⟩ := hrz.out rfl
            obtain ⟨kn, hkr⟩ := hrun
            have hkl := kinds_len kn d rs0 Sf hkr
            have hkl2 : Sf.kinds.length ≤ 1000000 := by have : rs0.kinds.length = 0 := rfl; omega
            have hgn := HGN.out
            have hgl := pxB_len u.gone
            have q := URead_news A1 c1 rd d u.gone u.news Sf true w3 (Own.bytes HO1b.out) HF1.out.1 HF1.out.2 hrd hp1 HGF.out.1 hp2 HGF.out.2 hrl (by omega) (by omega) (by omega) (by omega)
              (fun Wx B dd hq hy h1 h2 => ReadA_rows (fun _ => true) B dd d Wx (HTK.out Wx (HC.out.trans (hq.mono HC.out.size))) hy h1 h2 (by omega) Sf ⟨kn, hkr⟩ (steps_wide _)) HNN.out rfl ⟨hkl2, hk3, fun _ => hk5 HPZ.out⟩
            have QR := Lib.hid q
            have HSM := Lib.hid hsame
            clear q hsame hk3 hk5 hkr hkl hkl2 hp1 hp2 hrd hrl hdl hgn hgl hrz hre
            go_wp2_with fail
            refine QR.out.mono ?_
            rintro e w4 ⟨x, rfl, hin, hb4, e1, e2, e3⟩
            obtain ⟨y1, y2, y3, y4, y5, y6, y7, y8, y9, y10, y11⟩ := e3
            obtain ⟨s1, s2, s3⟩ := HSM.out x.attrs y1 y2 y3 y4 y5 y6 y7 y8 y9 y10 y11
            have HD4 := Lib.hid (below_two6 HC.out hb4)
            obtain ⟨W5, hW5⟩ : ∃ W5, W5 = (w4.alloc (.cells x.row.toArray 30)).alloc (.cells #[.int .i64 0, .int .i64 0, .slice none 0 0] 43) := ⟨_, rfl⟩
            have hb5 : Below w4.heap.size w4 W5 := by rw [hW5]; exact ((Below.refl _ _).alloc (Nat.le_refl _) _).alloc (by simp) _
            have kx : Blk W5 w4.heap.size 30 x.row := by
              rw [hW5]
              exact (Blk.new w4 _ _).below ((Below.refl _ _).alloc (Nat.le_refl _) _) (by simp)
            have kf : Blk W5 (w4.heap.size + 1) 43 [.int .i64 0, .int .i64 0, .slice none 0 0] := by
              have := Blk.new (w4.alloc (.cells x.row.toArray 30)) 43 [.int .i64 0, .int .i64 0, .slice none 0 0]
              rw [hW5]
              simpa using this
            have f0 : W5.cell? ⟨w4.heap.size + 1, 0, none⟩ = some (.int .i64 0) := kf.cell 0
            have HE5 := Lib.hid (below_two6 HD4.out hb5)
            have HXV := Lib.hid (uv_blk kx)
            have hin5 : x.In W5 W5.heap.size := (hin.below hb5 (Nat.le_refl _)).lift hb5.size
            have hpl := HPL.out
            have hgn := HGN.out
            have QS := Lib.hid (RefUSame_yes x u W5 hin5 (HIN.out _ HE5.out) e1 e2 s1 (by omega) (by omega) (by rw [e1]; omega) (by rw [e2]; omega))
            have HUV5 := Lib.hid (HUV.out _ HE5.out)
            obtain ⟨x2, hx2⟩ : ∃ x2, x2 = x := ⟨_, rfl⟩
            rw [← hx2] at QS HXV
            obtain ⟨gA, gC, gone, ⟨org, pa, pc, path, next, med, pref, atomic, has, aas, aad, ca, cc, comms, ra, rc, raws⟩, nA, nC, news⟩ := x
            have HW5 := Lib.hid (show W5 = (w4.alloc (.cells #[.slice gA gone.length gC, .int .i64 org, .slice pa path.length pc, .int .u32 next, .int .i64 med, .int .i64 pref, .bool atomic, .bool has, .int .u32 aas, .int .u32 aad, .slice ca comms.length cc, .slice ra raws.length rc, .slice nA news.length nC] 30)).alloc (.cells #[.int .i64 0, .int .i64 0, .slice none 0 0] 43) from hW5)
            rw [HW5.out] at f0
            clear hin hb4 e1 e2 y1 y2 y3 y4 y5 y6 y7 y8 y9 y10 y11 s1 s2 s3 hb5 kx kf hin5 hpl hgn hW5 hx2 QR HSM
            unfold Uv.row Av.row fault0
            dsimp only
            go_wp2_with (first
              | (rw [← HW5.out]; refine wpList_loadGU _ (by rfl) (.tmp 7) rfl w4.heap.size x2 rfl HXV.out ?_)
              | (refine wpList_loadGU _ (by rfl) (.tmp 1) rfl W.heap.size u rfl HUV5.out ?_))
            refine QS.out.mono ?_
            rintro e w6 ⟨rfl, hb6⟩
            have HE6 := Lib.hid (below_two6 HE5.out hb6)
            clear hb6
            go_wp2_with fail
            refine (QW.out _ HE6.out).mono ?_
            rintro e w7 ⟨rfl, hb7⟩
            have HE7 := Lib.hid (below_two6 HB1.out ((below_two6 HE6.out hb7)))
            clear hb7
            go_wp2_with fail
            go_ret
            exact ⟨rfl, HE7.out⟩
          · have hre2 := uback_ends hre h0
            clear hre hrz
            rcases hre2 with rfl | rfl
            all_goals
              clear h0
              go_wp2_with fail
              refine (QW.out _ HC.out).mono ?_
              rintro e w4 ⟨rfl, hb4⟩
              have HD4 := Lib.hid (below_two6 HB1.out ((below_two6 HC.out hb4)))
              clear hb4
              go_wp2_with fail
              go_ret
              exact ⟨rfl, HD4.out⟩
end Go.Proofs.YtbfbnoonegdlgaaGreatDoor

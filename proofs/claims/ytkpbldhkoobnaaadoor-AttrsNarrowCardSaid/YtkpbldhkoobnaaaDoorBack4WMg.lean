/-
  Texts of this seat, put together: Back4W.
-/
import Derived.Test.YtkpbldhkoobnaaaDoorMg23
import Derived.Test.YtkpbldhkoobnaaaDoorMg8
import Derived.Test.YtkpbldhkoobnaaaDoorRefSame4Mg
import Derived.Test.YtkpbldhkoobnaaaDoorRefRight4Mg
import Derived.Test.YtkpbldhkoobnaaaDoorMg15
/-
  P4.4: right attributes whose next one may be, put wide, are read as they were: the walk.
-/
namespace Go.Proofs.YtkpbldhkoobnaaaDoor
set_option linter.unusedVariables false
set_option linter.unusedSimpArgs false
open Go.RowKit

theorem okB_all {a : Av} (h : a.okB = true) : 0 ≤ a.org ∧ a.org ≤ 2 ∧ rightB a.path = true ∧ a.path.length ≤ 8 ∧ totN a.path ≤ 64 ∧ (-1 ≤ a.med ∧ a.med ≤ 4294967295) ∧ (-1 ≤ a.pref ∧ a.pref ≤ 4294967295) ∧ (a.has = false → a.aas = 0 ∧ a.aad = 0) ∧ a.comms.length ≤ 32 ∧ rawsF (-1) (a.raws.map Rw.abs) = true ∧ a.raws.length ≤ 8 := by
  have h0 := h
  unfold Av.okB at h0
  unfold Av.okB rightB saidB at h
  simp only [Bool.and_eq_true, decide_eq_true_eq] at h h0
  obtain ⟨⟨⟨⟨⟨⟨⟨h1, h2⟩, h3, _, h4⟩, h5, h6⟩, h7, h8⟩, hh⟩, h9⟩, h10, h11⟩ := h
  obtain ⟨⟨⟨⟨⟨⟨_, hr⟩, _⟩, _⟩, _⟩, _⟩, _⟩ := h0
  refine ⟨h1, h2, hr, h3, h4, ⟨h5, h6⟩, ⟨h7, h8⟩, fun e => ?_, h9, h10, h11⟩
  rw [e] at hh
  simpa using hh
theorem raws_small : ∀ (L : List Rw) (b : Int), rawsF b (L.map Rw.abs) = true → ∀ s ∈ L, s.data.length ≤ 64
  | [], _, _, s, hs => by cases hs
  | x :: L, b, h, s, hs => by
    simp only [List.map_cons, rawsF, rawOk, Rw.abs, Bool.and_eq_true, decide_eq_true_eq] at h
    obtain ⟨⟨_, h4⟩, h5⟩ := h
    rcases List.mem_cons.1 hs with rfl | hs
    · exact h4
    · exact raws_small L x.ty h5 s hs
theorem u32_wrap_of (n : Int) (h : -1 ≤ n ∧ n ≤ 4294967295) : ∃ m : Nat, IntKind.u32.wrap n = (m : Int) ∧ m < 4294967296 ∧ (0 ≤ n → n = (m : Int)) := by
  refine ⟨(IntKind.u32.wrap n).toNat, ?_, ?_, ?_⟩
  · rw [IntKind.wrap_u32]; omega
  · rw [IntKind.wrap_u32]; omega
  · rw [IntKind.wrap_u32]; omega
theorem putA_small (org next sa ad : Nat) (path : List Sg) (med pref : Int) (mm mp : Nat) (atomic has : Bool) (comms : List Nat) (raws : List Rw) (h3 : path.length ≤ 8) (h4 : totN path ≤ 64) (h5 : comms.length ≤ 32) (h6 : raws.length ≤ 8) (h7 : ∀ s ∈ raws, s.data.length ≤ 64) (wide : Bool) :
    (putA org next sa ad path med pref mm mp atomic has comms raws wide).length ≤ 100000 := by
  have p1 := putB_len wide path
  have p2 := putB_len true path
  have q1 := numsB_len true [next]
  have q2 := numsB_len true [mm]
  have q3 := numsB_len true [mp]
  have q4 := numsB_len true comms
  have q5 := aggrB_len wide sa ad
  have q6 := aggrB_len true sa ad
  have q7 := rawsB_len raws h7
  have o1 := oneB_len true 64 1 [UInt8.ofNat org]
  have o2 := oneB_len true 64 2 (putB wide path)
  have o3 := oneB_len true 64 3 (numsB true [next])
  have o4 := oneB_len (decide (0 ≤ med)) 128 4 (numsB true [mm])
  have o5 := oneB_len (decide (0 ≤ pref)) 64 5 (numsB true [mp])
  have o6 := oneB_len atomic 64 6 []
  have o7 := oneB_len has 192 7 (aggrB wide sa ad)
  have o8 := oneB_len (decide (0 < comms.length)) 192 8 (numsB true comms)
  have o9 := oneB_len (!wide && bigs (flatN path)) 192 17 (putB true path)
  have o10 := oneB_len (!wide && bigB sa) 192 18 (aggrB true sa ad)
  unfold putA
  simp only [List.length_append, List.length_cons, List.length_nil] at *
  omega
/-- Attributes that may be, put wide: what is read of it is the same. -/
theorem back_all (a : Av) (w : World) (ht : TabK w) (ha : AvArg w a) (hok : a.okB = true) (N : Nat) (hN : a.next = (N : Int)) (hnb : nextB N = true) :
    ∃ (d : List UInt8) (Sf : Rs), (∀ W, Below w.heap.size w W → Calls Tryd.prog 20 #[.agg a.row.toArray, .bool true] W (RetPut W d)) ∧ RunK (fun _ => true) true d rs0 Sf ∧ d.length ≤ 100000 ∧
      ∀ x : Av, x.org = (Sf.org : Int) → x.path.map Sg.abs = Sf.path → x.next = (Sf.next : Int) → x.med = Sf.med → x.pref = Sf.pref → x.atomic = Sf.atomic → x.has = Sf.has → x.aas = (Sf.aas : Int) → x.aad = (Sf.aad : Int) → x.comms = Sf.comms → x.raws.map Rw.abs = Sf.raws → x.same a = true ∧ x.path.length = a.path.length ∧ x.raws.length = a.raws.length := by
  obtain ⟨h1, h2, hr, h3, h4, h5, h6, hha, h7, h8, h9⟩ := okB_all hok
  have hre := raws_small a.raws (-1) h8
  obtain ⟨hin, hcm, hfit, _, hnx, haa, had, _, _, _⟩ := ha
  obtain ⟨org, pa, pc, path, next, med, pref, atomic, has, aas, aad, ca, cc, comms, ra, rc, raws⟩ := a
  dsimp only at h1 h2 hr h3 h4 h5 h6 hha h7 h8 h9 hre hcm hfit hnx haa had hN
  obtain ⟨O, rfl⟩ := Int.eq_ofNat_of_zero_le h1
  obtain ⟨SA, rfl⟩ := Int.eq_ofNat_of_zero_le haa.1
  obtain ⟨AD, rfl⟩ := Int.eq_ofNat_of_zero_le had.1
  subst hN
  obtain ⟨mm, hwm, hmm, hm2⟩ := u32_wrap_of med h5
  obtain ⟨mp, hwp, hmp, hp2⟩ := u32_wrap_of pref h6
  obtain ⟨ks, n, hrun⟩ := back4 O N SA AD path med pref mm mp atomic has comms raws true (by omega) hr (fun s hs => (hfit s hs).1) hnb (by omega) h5.1 hm2 hmm h6.1 hp2 hmp (fun e => by have := hha e; omega) (by omega) (by omega) h7 hcm h8 h9
  refine ⟨_, _, fun W q => PutA_ok O N SA AD pa pc path med pref atomic has ca cc comms ra rc raws mm mp true W (ht.below q ht.lt) ((hin.below q (Nat.le_refl _)).lift q.size) hok (by omega) (by omega) (by omega) (by omega) hwm hmm hwp hmp (by omega) (by omega) (by omega) hcm (by omega) hre, ⟨n, Runs.all n _ _ _ hrun⟩, putA_small _ _ _ _ _ _ _ _ _ _ _ _ _ h3 h4 h7 h9 hre true, ?_⟩
  intro x e1 e2 e3 e4 e5 e6 e7 e8 e9 e10 e11
  have hpath : path.map (narS true) = path.map Sg.abs := List.map_congr_left fun s _ => by
    unfold narS Sg.abs
    rw [show s.nums.map (nar true) = s.nums from by rw [show nar true = id from funext nar_wide]; exact List.map_id _]
  dsimp only at e1 e2 e3 e4 e5 e6 e7 e8 e9 e10 e11
  rw [hpath] at e2
  rw [nar_wide] at e8
  refine ⟨?_, by have := congrArg List.length e2; simpa using this, by have := congrArg List.length e11; simpa using this⟩
  unfold Av.same sameP sameRs
  dsimp only
  rw [e1, e3, e4, e5, e6, e7, e8, e9, e10, decide_eq_true e2, decide_eq_true e11]
  simp [sameZ]
theorem below_two7 {w w1 w2 : World} (h : Below w.heap.size w w1) (k : Below w1.heap.size w1 w2) : Below w.heap.size w w2 := h.trans (k.mono h.size)
set_option maxRecDepth 100000 in
set_option maxHeartbeats 25600000 in
theorem AttrsBack.walk (a : Av) (W : World) (ht : TabK W) (ha : AvArg W a) (hwt : Wt reachBytes a.path) :
    Calls Tryd.prog 6 #[.agg a.row.toArray] W fun e w' => e = .returned (.bool true) ∧ Below W.heap.size W w' := by
  have hb1 := (Below.refl W.heap.size W).alloc (Nat.le_refl _) (.cells a.row.toArray 27)
  have kA := Blk.new W 27 a.row
  obtain ⟨W0, hW0⟩ : ∃ W0, W0 = W.alloc (.cells a.row.toArray 27) := ⟨_, rfl⟩
  rw [← hW0] at hb1 kA
  have HW0 := Lib.hid hW0; have HB1 := Lib.hid hb1
  have HCV := Lib.hid (fun (w : World) (h : Below W0.heap.size W0 w) => av_blk (kA.below h kA.lt))
  have HIN := Lib.hid (fun (w : World) (h : Below W0.heap.size W0 w) => (ha.inn.below (hb1.trans (h.mono hb1.size)) (Nat.le_refl _)).lift (hb1.trans (h.mono hb1.size)).size)
  have HTK := Lib.hid (fun (w : World) (h : Below W0.heap.size W0 w) => ht.below (hb1.trans (h.mono hb1.size)) ht.lt)
  have QW := Lib.hid (fun (w : World) (h : Below W0.heap.size W0 w) => awake4_any w (HTK.out w h))
  have QFA := Lib.hid (fun (w : World) (h : Below W0.heap.size W0 w) => Few4_any a w (HIN.out w h))
  obtain ⟨N, hN⟩ := Int.eq_ofNat_of_zero_le ha.next.1
  have hNb : N < 4294967296 := by have := ha.next.2; omega
  have HBK := Lib.hid (fun (hok : a.okB = true) (hnb : nextB N = true) => back_all a W ht ha hok N hN hnb)
  have HC2 := Lib.hid (fun (w : World) (h : Below W0.heap.size W0 w) => show w.cell? ⟨W.heap.size, 2, none⟩ = some (.int .u32 (N : Int)) by rw [← hN]; exact (kA.below h kA.lt).cell 2)
  have HNB := Lib.hid hNb
  clear hb1 kA hW0 ha ht hN hNb
  go_enter Tryd.func6, Tryd.ntmps6
  go_wp2_with (first
    | (refine wpList_boxA _ rfl (.tmp 0) rfl a rfl ?_)
    | (rw [← HW0.out]; refine wpList_loadA _ rfl (.tmp 1) rfl W.heap.size 0 a rfl (HCV.out _ (Below.refl _ _)) ?_))
  refine (QFA.out _ (Below.refl _ _)).mono ?_
  rintro e w1 ⟨qa, rfl, hfa, hb1⟩
  have HA := Lib.hid hb1
  clear hb1
  cases qa with
  | false =>
    clear hfa
    go_wp2_with fail
    refine (QW.out _ HA.out).mono ?_
    rintro e w2 ⟨rfl, hb2⟩
    have HB2 := Lib.hid (below_two7 HB1.out ((below_two7 HA.out hb2)))
    clear hb2
    go_wp2_with fail
    go_ret
    exact ⟨rfl, HB2.out⟩
  | true =>
    obtain ⟨hf1, hf2, hf3, hf4⟩ := hfa rfl
    have h2 : a.path.length ≤ 12 ∧ fewN a.path ≤ 300 := of_decide_eq_true hf1
    have htt := few_tot_le hf1 (fun s hs => Nat.le_trans (hwt s hs) (by unfold reachBytes; decide))
    have Q2 := Lib.hid (fun (w : World) (h : Below W0.heap.size W0 w) => RefRight4_any a w (HIN.out w h) (by omega) (by omega) (by omega))
    have HPL := Lib.hid (show a.path.length ≤ 1000000000 ∧ a.raws.length ≤ 1000000000 by omega)
    clear hf1 hf2 hf3 hf4 h2 htt hfa hwt
    cases hok : a.okB with
    | false =>
      rw [hok] at Q2
      clear hok
      go_wp2_with (refine wpList_loadG _ (by rfl) (.tmp 1) rfl W.heap.size 0 a rfl (HCV.out _ HA.out) ?_)
      refine (Q2.out _ HA.out).mono ?_
      rintro e w2 ⟨rfl, hb2⟩
      have HB := Lib.hid (below_two7 HA.out hb2)
      clear hb2
      go_wp2_with fail
      refine (QW.out _ HB.out).mono ?_
      rintro e w3 ⟨rfl, hb3⟩
      have HB3 := Lib.hid (below_two7 HB1.out ((below_two7 HB.out hb3)))
      clear hb3
      go_wp2_with fail
      go_ret
      exact ⟨rfl, HB3.out⟩
    | true =>
      rw [hok] at Q2
      have HOK := Lib.hid hok
      clear hok
      have QN := Lib.hid (fun (w : World) => RefNext_any N w HNB.out)
      go_wp2_with (refine wpList_loadG _ (by rfl) (.tmp 1) rfl W.heap.size 0 a rfl (HCV.out _ HA.out) ?_)
      refine (Q2.out _ HA.out).mono ?_
      rintro e w2 ⟨rfl, hb2⟩
      have HB := Lib.hid (below_two7 HA.out hb2)
      have c2 := HC2.out w2 HB.out
      clear hb2
      cases hnb : nextB N with
      | false =>
        rw [hnb] at QN
        clear hnb
        go_wp2_with fail
        refine (QN.out _).mono ?_
        rintro e w3 ⟨rfl, rfl⟩
        go_wp2_with fail
        refine (QW.out _ HB.out).mono ?_
        rintro e w3 ⟨rfl, hb3⟩
        have HB3 := Lib.hid (below_two7 HB1.out ((below_two7 HB.out hb3)))
        clear hb3
        go_wp2_with fail
        go_ret
        exact ⟨rfl, HB3.out⟩
      | true =>
        rw [hnb] at QN
        obtain ⟨d, Sf, hput, hrun, hdl, hsm⟩ := HBK.out HOK.out hnb
        have QP := Lib.hid (fun (w : World) (h : Below W0.heap.size W0 w) => hput w (below_two7 HB1.out h))
        have HRUN := Lib.hid (And.intro hrun hdl); have HSM := Lib.hid hsm
        clear hput hrun hdl hsm hnb HBK
        go_wp2_with fail
        refine (QN.out _).mono ?_
        rintro e w3 ⟨rfl, rfl⟩
        clear c2 QN
        go_wp2_with (refine wpList_loadA _ rfl (.tmp 1) rfl W.heap.size 0 a rfl (HCV.out _ HB.out) ?_)
        refine (QP.out _ HB.out).mono ?_
        rintro e w3 ⟨A3, c3, rfl, f1, f2, ho, hb3⟩
        have HB3 := Lib.hid (below_two7 HB.out hb3)
        have QR := Lib.hid (ReadA_wide (fun _ => true) A3 c3 d w3 (HTK.out w3 HB3.out) ho.bytes f1 f2 (by have := HRUN.out.2; omega) Sf HRUN.out.1 (steps_wide _))
        clear f1 f2 ho hb3 QP
        go_wp2_with fail
        refine QR.out.mono ?_
        rintro e w4 ⟨x, kA, kc, rfl, hin, hb4, e1, e2, e3, e4, e5, e6, e7, e8, e9, e10, e11⟩
        obtain ⟨hsm, hl1, hl2⟩ := HSM.out x e1 e2 e3 e4 e5 e6 e7 e8 e9 e10 e11
        clear e1 e2 e3 e4 e5 e6 e7 e8 e9 e10 e11 QR
        obtain ⟨W5, hW5⟩ : ∃ W5, W5 = (w4.alloc (.cells x.row.toArray 27)).alloc (.cells #[.int .i64 0, .int .i64 0, .slice none 0 0] 46) := ⟨_, rfl⟩
        have hb5 : Below w4.heap.size w4 W5 := by rw [hW5]; exact ((Below.refl _ _).alloc (Nat.le_refl _) _).alloc (by simp) _
        have kx : Blk W5 w4.heap.size 27 x.row := by
          rw [hW5]
          exact (Blk.new w4 _ _).below ((Below.refl _ _).alloc (Nat.le_refl _) _) (by simp)
        have kf : Blk W5 (w4.heap.size + 1) 46 [.int .i64 0, .int .i64 0, .slice none 0 0] := by
          have := Blk.new (w4.alloc (.cells x.row.toArray 27)) 46 [.int .i64 0, .int .i64 0, .slice none 0 0]
          rw [hW5]
          simpa using this
        have hb05 := below_two7 HB3.out (below_two7 hb4 hb5)
        have qs := RefSame4_any x a W5 ((hin.below hb5 (Nat.le_refl _)).lift hb5.size) (HIN.out W5 hb05) (by rw [hl1]; exact HPL.out.1) (by rw [hl2]; exact HPL.out.2)
        rw [hsm] at qs
        have HB5 := Lib.hid hb05
        have f0 : W5.cell? ⟨w4.heap.size + 1, 0, none⟩ = some (.int .i64 0) := kf.cell 0
        have hcv5 := HCV.out W5 hb05
        obtain ⟨org, pa, pc, path, next, med, pref, atomic, has, aas, aad, ca, cc, comms, ra, rc, raws⟩ := x
        have QS := Lib.hid (show Calls Tryd.prog 16 #[.agg #[.int .i64 org, .slice pa path.length pc, .int .u32 next, .int .i64 med, .int .i64 pref, .bool atomic, .bool has, .int .u32 aas, .int .u32 aad, .slice ca comms.length cc, .slice ra raws.length rc], .agg a.row.toArray] W5 fun e w' => e = .returned (.bool true) ∧ Below W5.heap.size W5 w' from qs)
        have HW5' := (show W5 = (w4.alloc (.cells #[.int .i64 org, .slice pa path.length pc, .int .u32 next, .int .i64 med, .int .i64 pref, .bool atomic, .bool has, .int .u32 aas, .int .u32 aad, .slice ca comms.length cc, .slice ra raws.length rc] 27)).alloc (.cells #[.int .i64 0, .int .i64 0, .slice none 0 0] 46) from hW5)
        clear hW5
        have hW5 := HW5'
        clear HW5'
        unfold Av.row at kx
        dsimp only at kx
        have cx := cells11 kx
        have HCV5 := Lib.hid hcv5
        unfold Av.row fault0
        dsimp only
        clear hin hb4 hb5 kx kf hb05 qs hsm hl1 hl2 hcv5
        subst hW5
        go_wp2_with (refine wpList_loadG _ (by rfl) (.tmp 1) rfl W.heap.size 0 a rfl HCV5.out ?_)
        refine QS.out.mono ?_
        rintro e w6 ⟨rfl, hb6⟩
        have HB6 := Lib.hid (below_two7 HB5.out hb6)
        clear hb6 cx f0 HB5 QS HCV5
        go_wp2_with fail
        refine (QW.out _ HB6.out).mono ?_
        rintro e w7 ⟨rfl, hb7⟩
        have HB7 := Lib.hid (below_two7 HB1.out (below_two7 HB6.out hb7))
        clear hb7
        go_wp2_with fail
        go_ret
        exact ⟨rfl, HB7.out⟩
end Go.Proofs.YtkpbldhkoobnaaaDoor

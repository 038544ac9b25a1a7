/-
  Texts of this seat, put together: Nar4W.
-/
import Derived.Deep.RegionHeld3
import Derived.Test.YtkpbldhkoobnaaaDoorMg30
import Derived.Test.YtkpbldhkoobnaaaDoorMg25
import Derived.Test.YtkpbldhkoobnaaaDoorMg1
/-
  P4.4: right attributes whose next one may be, put narrow, are read with a path that counts as long, and as they were where no number is lost: the walk (written by gen04r.py).
-/
namespace Go.Proofs.YtkpbldhkoobnaaaDoor
set_option linter.unusedVariables false
set_option linter.unusedSimpArgs false
open Go.RowKit

theorem below_drew_of {w w' : World} {B : Nat} (h : Below B w w') : Below w'.heap.size w' w'.drew := (Below.refl _ _).drew
/-- How many numbers are wide. -/
def bigN (z : List Nat) : Nat := (z.filter fun x => decide (65535 < x)).length
theorem bigN_le (z : List Nat) : bigN z ≤ z.length := List.length_filter_le _ _
theorem bigN_step {z : List Nat} {j : Nat} (h : j < z.length) : bigN (z.take (j + 1)) = bigN (z.take j) + if 65535 < z.getD j 0 then 1 else 0 := by
  rw [take32_step h]
  unfold bigN
  rw [List.filter_append, List.length_append, List.filter_cons, List.filter_nil]
  by_cases q : 65535 < z.getD j 0
  · rw [if_pos q, decide_eq_true q]; rfl
  · rw [if_neg q, decide_eq_false q]; rfl
theorem bigN_bigs (z : List Nat) : (bigN z = 0 → bigs z = false) ∧ (bigN z ≠ 0 → bigs z = true) := by
  unfold bigN bigs
  have e : bigB = fun x => decide (65535 < x) := rfl
  rw [e]
  constructor
  · intro h
    rw [List.length_eq_zero_iff, List.filter_eq_nil_iff] at h
    rw [List.any_eq_false]
    exact h
  · intro h
    cases hb : z.any fun x => decide (65535 < x) with
    | true => rfl
    | false =>
      rw [List.any_eq_false] at hb
      exact absurd (by rw [List.length_eq_zero_iff, List.filter_eq_nil_iff]; exact hb) h
set_option maxRecDepth 100000 in
set_option maxHeartbeats 25600000 in
theorem AttrsNarrow.walk (a : Av) (W : World) (ht : TabK W) (ha : AvArg W a) (hwt : Wt reachBytes a.path) :
    Calls Tryd.prog 7 #[.agg a.row.toArray] W fun e w' => e = .returned (.bool true) ∧ Below W.heap.size W w' := by
  have hb1 := (Below.refl W.heap.size W).alloc (Nat.le_refl _) (.cells a.row.toArray 27)
  have kA := Blk.new W 27 a.row
  obtain ⟨W0, hW0⟩ : ∃ W0, W0 = W.alloc (.cells a.row.toArray 27) := ⟨_, rfl⟩
  rw [← hW0] at hb1 kA
  have HW0 := Lib.hid hW0; have HB1 := Lib.hid hb1
  have HCV := Lib.hid (fun (w : World) (h : Below W0.heap.size W0 w) => av_blk (kA.below h kA.lt))
  have HIN := Lib.hid (fun (w : World) (h : Below W0.heap.size W0 w) => (ha.inn.below (hb1.trans (h.mono hb1.size)) (Nat.le_refl _)).lift (hb1.trans (h.mono hb1.size)).size)
  have HTK := Lib.hid (fun (w : World) (h : Below W0.heap.size W0 w) => ht.below (hb1.trans (h.mono hb1.size)) ht.lt)
  have QW := Lib.hid (fun (w : World) (h : Below W0.heap.size W0 w) => awake4_any w (HTK.out w h))
  have QFA := Lib.hid (fun (w : World) (h : Below W0.heap.size W0 w) => Few4_any a w (HIN.out w h))
  obtain ⟨N, hN⟩ := Int.eq_ofNat_of_zero_le ha.next.1
  have hNb : N < 4294967296 := by have := ha.next.2; omega
  have HBK := Lib.hid (fun (hok : a.okB = true) (hnb : nextB N = true) => nar_all a W ht ha hok N hN hnb)
  have HC2 := Lib.hid (fun (w : World) (h : Below W0.heap.size W0 w) => show w.cell? ⟨W.heap.size, 2, none⟩ = some (.int .u32 (N : Int)) by rw [← hN]; exact (kA.below h kA.lt).cell 2)
  have HA1 := Lib.hid (fun (w : World) (h : Below W0.heap.size W0 w) => show w.cell? ⟨W.heap.size, 1, none⟩ = some (.slice a.pathA a.path.length a.pathC) from (kA.below h kA.lt).cell 1)
  have HA6 := Lib.hid (fun (w : World) (h : Below W0.heap.size W0 w) => show w.cell? ⟨W.heap.size, 6, none⟩ = some (.bool a.has) from (kA.below h kA.lt).cell 6)
  obtain ⟨SA, hSA⟩ := Int.eq_ofNat_of_zero_le ha.aas.1
  have HA7 := Lib.hid (fun (w : World) (h : Below W0.heap.size W0 w) => show w.cell? ⟨W.heap.size, 7, none⟩ = some (.int .u32 (SA : Int)) by rw [← hSA]; exact (kA.below h kA.lt).cell 7)
  have HSA := Lib.hid (And.intro hSA (show SA < 4294967296 by have := ha.aas.2; omega))
  clear hSA
  have HNB := Lib.hid hNb
  clear hb1 kA hW0 ha ht hN hNb
  go_enter Tryd.func7, Tryd.ntmps7
  go_wp2_with (first
    | (refine wpList_boxA _ rfl (.tmp 0) rfl a rfl ?_)
    | (rw [← HW0.out]; refine wpList_loadA _ rfl (.tmp 1) rfl W.heap.size 0 a rfl (HCV.out _ (Below.refl _ _)) ?_))
  refine (QFA.out _ (Below.refl _ _)).mono ?_
  rintro e w1 ⟨qa, rfl, hfa, hb1⟩
  have HA := Lib.hid hb1
  clear hb1
  cases qa with
  | false =>
    clear hfa
    go_wp2_with fail
    refine (QW.out _ HA.out).mono ?_
    rintro e w2 ⟨rfl, hb2⟩
    have HB2 := Lib.hid (below_two7 HB1.out ((below_two7 HA.out hb2)))
    clear hb2
    go_wp2_with fail
    go_ret
    exact ⟨rfl, HB2.out⟩
  | true =>
    obtain ⟨hf1, hf2, hf3, hf4⟩ := hfa rfl
    have h2 : a.path.length ≤ 12 ∧ fewN a.path ≤ 300 := of_decide_eq_true hf1
    have htt := few_tot_le hf1 (fun s hs => Nat.le_trans (hwt s hs) (by unfold reachBytes; decide))
    have Q2 := Lib.hid (fun (w : World) (h : Below W0.heap.size W0 w) => RefRight4_any a w (HIN.out w h) (by omega) (by omega) (by omega))
    have HPL := Lib.hid (show a.path.length ≤ 1000000000 ∧ a.raws.length ≤ 1000000000 by omega)
    clear hf1 hf2 hf3 hf4 h2 htt hfa hwt
    cases hok : a.okB with
    | false =>
      rw [hok] at Q2
      clear hok
      go_wp2_with (refine wpList_loadG _ (by rfl) (.tmp 1) rfl W.heap.size 0 a rfl (HCV.out _ HA.out) ?_)
      refine (Q2.out _ HA.out).mono ?_
      rintro e w2 ⟨rfl, hb2⟩
      have HB := Lib.hid (below_two7 HA.out hb2)
      clear hb2
      go_wp2_with fail
      refine (QW.out _ HB.out).mono ?_
      rintro e w3 ⟨rfl, hb3⟩
      have HB3 := Lib.hid (below_two7 HB1.out ((below_two7 HB.out hb3)))
      clear hb3
      go_wp2_with fail
      go_ret
      exact ⟨rfl, HB3.out⟩
    | true =>
      rw [hok] at Q2
      have HOK := Lib.hid hok
      clear hok
      have QN := Lib.hid (fun (w : World) => RefNext_any N w HNB.out)
      go_wp2_with (refine wpList_loadG _ (by rfl) (.tmp 1) rfl W.heap.size 0 a rfl (HCV.out _ HA.out) ?_)
      refine (Q2.out _ HA.out).mono ?_
      rintro e w2 ⟨rfl, hb2⟩
      have HB := Lib.hid (below_two7 HA.out hb2)
      have c2 := HC2.out w2 HB.out
      clear hb2
      cases hnb : nextB N with
      | false =>
        rw [hnb] at QN
        clear hnb
        go_wp2_with fail
        refine (QN.out _).mono ?_
        rintro e w3 ⟨rfl, rfl⟩
        go_wp2_with fail
        refine (QW.out _ HB.out).mono ?_
        rintro e w3 ⟨rfl, hb3⟩
        have HB3 := Lib.hid (below_two7 HB1.out ((below_two7 HB.out hb3)))
        clear hb3
        go_wp2_with fail
        go_ret
        exact ⟨rfl, HB3.out⟩
      | true =>
        rw [hnb] at QN
        obtain ⟨d, Sf, hput, hrun, hdl, hpb, F, hF, hsm⟩ := HBK.out HOK.out hnb
        have QP := Lib.hid (fun (w : World) (h : Below W0.heap.size W0 w) => hput w (below_two7 HB1.out h))
        have HRUN := Lib.hid (And.intro hrun (And.intro hdl hpb)); have HSM := Lib.hid hsm; have HF := Lib.hid hF
        clear hput hrun hdl hsm hnb HBK hF hpb
        go_wp2_with fail
        refine (QN.out _).mono ?_
        rintro e w3 ⟨rfl, rfl⟩
        clear c2 QN
        go_wp2_with (refine wpList_loadA _ rfl (.tmp 1) rfl W.heap.size 0 a rfl (HCV.out _ HB.out) ?_)
        refine (QP.out _ HB.out).mono ?_
        rintro e w3 ⟨A3, c3, rfl, f1, f2, ho, hb3⟩
        have HB3 := Lib.hid (below_two7 HB.out hb3)
        have QR := Lib.hid (ReadA_nar (fun _ => true) A3 c3 d w3 (HTK.out w3 HB3.out) ho.bytes f1 f2 (by have := HRUN.out.2.1; omega) Sf HRUN.out.1 (steps_nar _) HRUN.out.2.2)
        rw [HF.out] at QR
        clear f1 f2 ho hb3 QP
        go_wp2_with fail
        refine QR.out.mono ?_
        rintro e w4 ⟨x, kA, kc, rfl, hin, hb4, e1, e2, e3, e4, e5, e6, e7, e8, e9, e10, e11⟩
        obtain ⟨hcn, hl1, hl3, hl2, hs1, hs2⟩ := HSM.out x e1 e2 e3 e4 e5 e6 e7 e8 e9 e10 e11
        clear e1 e2 e3 e4 e5 e6 e7 e8 e9 e10 e11 QR
        obtain ⟨_, _, _, hpl, hptot, _, _, hhas, _⟩ := okB_all HOK.out
        obtain ⟨y, hy⟩ : ∃ y : Av, x = y := ⟨_, rfl⟩
        obtain ⟨W5, hW5⟩ : ∃ W5, W5 = (w4.alloc (.cells x.row.toArray 27)).alloc (.cells #[.int .i64 0, .int .i64 0, .slice none 0 0] 46) := ⟨_, rfl⟩
        have HW5 := Lib.hid hW5
        have hb5 : Below w4.heap.size w4 W5 := by rw [hW5]; exact ((Below.refl _ _).alloc (Nat.le_refl _) _).alloc (by simp) _
        have kx : Blk W5 w4.heap.size 27 x.row := by
          rw [hW5]
          exact (Blk.new w4 _ _).below ((Below.refl _ _).alloc (Nat.le_refl _) _) (by simp)
        have kf : Blk W5 (w4.heap.size + 1) 46 [.int .i64 0, .int .i64 0, .slice none 0 0] := by
          have := Blk.new (w4.alloc (.cells x.row.toArray 27)) 46 [.int .i64 0, .int .i64 0, .slice none 0 0]
          rw [hW5]
          simpa using this
        clear hW5
        rw [hy] at kx hin hcn hl1 hl2 hl3 hs1 hs2
        have hb05 := below_two7 HB3.out (below_two7 hb4 hb5)
        have HB5 := Lib.hid hb05
        have HX1 := Lib.hid (fun (w : World) (h : Below W5.heap.size W5 w) => show w.cell? ⟨w4.heap.size, 1, none⟩ = some (.slice y.pathA y.path.length y.pathC) from (kx.below h kx.lt).cell 1)
        have HXV := Lib.hid (fun (w : World) (h : Below W5.heap.size W5 w) => av_blk (kx.below h kx.lt))
        have HF0 := Lib.hid (fun (w : World) (h : Below W5.heap.size W5 w) => show w.cell? ⟨w4.heap.size + 1, 0, none⟩ = some (.int .i64 0) from (kf.below h kf.lt).cell 0)
        have hYI : ∀ (w : World), Below W5.heap.size W5 w → y.In w w.heap.size := fun w h => ((hin.below hb5 (Nat.le_refl _)).lift hb5.size |>.below h (Nat.le_refl _)).lift h.size
        have QCX := Lib.hid (fun (w : World) (h : Below W5.heap.size W5 w) => show Calls Tryd.prog 24 #[.slice y.pathA y.path.length y.pathC] w fun e w' => e = .returned (.int .i64 ((cntN a.path : Nat) : Int)) ∧ w = w' by rw [← hcn]; exact RefCount_any y.pathA y.pathC y.path w (hYI w h).path (hYI w h).pathC.1 (hYI w h).pathC.2 (by rw [hl1, hl3]; omega))
        have QCA := Lib.hid (fun (w : World) (h : Below W0.heap.size W0 w) => RefCount_any a.pathA a.pathC a.path w (HIN.out w h).path (HIN.out w h).pathC.1 (HIN.out w h).pathC.2 (by omega))
        have QFL := Lib.hid (fun (w : World) (h : Below W0.heap.size W0 w) => RefFlat_any a.pathA a.pathC a.path w (HIN.out w h).path (by omega) (by omega))
        have QS := Lib.hid (fun (w : World) (h : Below W5.heap.size W5 w) => RefSame4_any y a w (hYI w h) (HIN.out w (below_two7 hb05 h)) (by rw [hl1]; exact HPL.out.1) (by rw [hl2]; exact HPL.out.2))
        have HS12 := Lib.hid (And.intro hs1 hs2)
        have HHAS := Lib.hid hhas
        have HZL := Lib.hid (show (flatN a.path).length ≤ 64 by rw [flatN_len]; exact hptot)
        clear hin hb4 hb5 kx kf hcn hl1 hl2 hl3 hs1 hs2 hhas hpl hptot hYI hb05
        obtain ⟨org, pa, pc, path, next, med, pref, atomic, has, aas, aad, ca, cc, comms, ra, rc, raws⟩ := x
        clear hy
        have HW5' := HW5.out
        clear HW5
        unfold Av.row at HW5'
        dsimp only at HW5'
        have HW5 := Lib.hid HW5'
        clear HW5'
        unfold Av.row fault0
        dsimp only
        go_wp2_with fail
        rw [← HW5.out]
        have hbc := below_drew_of HB5.out
        refine wp_region_held_drew (S := fun w' => w'.cell? ⟨w4.heap.size, 1, none⟩ = some (.slice y.pathA y.path.length y.pathC) ∧ w'.cell? ⟨w4.heap.size + 1, 0, none⟩ = some (.int .i64 0) ∧ w'.cell? ⟨W.heap.size, 1, none⟩ = some (.slice a.pathA a.path.length a.pathC)) (by kernel_rfl) (⟨HX1.out _ hbc, HF0.out _ hbc, HA1.out _ (below_two7 HB5.out hbc)⟩) (fun hHeld => ?_)
        refine wpAnyH_take (i := 0) (v := ?_) rfl (by kernel_rfl) (by kernel_rfl) (by kernel_rfl) (fun _ _ _ h => h) (Or.inl ⟨by rfl, ?_⟩) (by assumption) ?_
        rotate_left
        · intro w hSw; (try dsimp only at hSw); go_simp; (try with_reducible rfl)
        try simp only [List.getElem_toArray, List.getElem_cons_zero, List.getElem_cons_succ, Act.put, List.setIfInBounds_toArray, List.set_cons_zero, List.set_cons_succ]
        refine wpAnyH_take (i := 1) (v := ?_) rfl (by kernel_rfl) (by kernel_rfl) (by kernel_rfl) (fun _ _ _ h => h) (Or.inl ⟨by rfl, ?_⟩) (by assumption) ?_
        rotate_left
        · intro w hSw; (try dsimp only at hSw); go_simp; (try with_reducible rfl)
        try simp only [List.getElem_toArray, List.getElem_cons_zero, List.getElem_cons_succ, Act.put, List.setIfInBounds_toArray, List.set_cons_zero, List.set_cons_succ]
        refine wpAnyH_take (i := 2) (v := ?_) rfl (by kernel_rfl) (by kernel_rfl) (by kernel_rfl) (fun _ _ _ h => h) (Or.inl ⟨by rfl, ?_⟩) (by assumption) ?_
        rotate_left
        · intro w hSw; (try dsimp only at hSw); go_simp; (try with_reducible rfl)
        try simp only [List.getElem_toArray, List.getElem_cons_zero, List.getElem_cons_succ, Act.put, List.setIfInBounds_toArray, List.set_cons_zero, List.set_cons_succ]
        refine wpAnyH_take (i := 3) (v := ?_) rfl (by kernel_rfl) (by kernel_rfl) (by kernel_rfl) (fun _ _ _ h => h) (Or.inl ⟨by rfl, ?_⟩) (by assumption) ?_
        rotate_left
        · intro w hSw; (try dsimp only at hSw); go_simp; (try with_reducible rfl)
        try simp only [List.getElem_toArray, List.getElem_cons_zero, List.getElem_cons_succ, Act.put, List.setIfInBounds_toArray, List.set_cons_zero, List.set_cons_succ]
        refine wpAnyH_take (i := 4) (v := ?_) rfl (by kernel_rfl) (by kernel_rfl) (by kernel_rfl) (fun _ _ _ h => h) (Or.inl ⟨by rfl, ?_⟩) (by assumption) ?_
        rotate_left
        · intro w hSw; (try dsimp only at hSw); go_simp; (try with_reducible rfl)
        try simp only [List.getElem_toArray, List.getElem_cons_zero, List.getElem_cons_succ, Act.put, List.setIfInBounds_toArray, List.set_cons_zero, List.set_cons_succ]
        refine wpAnyH_take (i := 5) (v := ?_) rfl (by kernel_rfl) (by kernel_rfl) (by kernel_rfl) (fun _ _ _ h => h) (Or.inl ⟨by rfl, ?_⟩) (by assumption) ?_
        rotate_left
        · intro w hSw; (try dsimp only at hSw); go_simp; (try with_reducible rfl)
        try simp only [List.getElem_toArray, List.getElem_cons_zero, List.getElem_cons_succ, Act.put, List.setIfInBounds_toArray, List.set_cons_zero, List.set_cons_succ]
        refine wpAnyH_take (i := 6) (v := ?_) rfl (by kernel_rfl) (by kernel_rfl) (by kernel_rfl) (fun _ _ _ h => h) (Or.inl ⟨by rfl, ?_⟩) (by assumption) ?_
        rotate_left
        · intro w hSw; (try dsimp only at hSw); go_simp; (try with_reducible rfl)
        try simp only [List.getElem_toArray, List.getElem_cons_zero, List.getElem_cons_succ, Act.put, List.setIfInBounds_toArray, List.set_cons_zero, List.set_cons_succ]
        refine wpAnyH_take (i := 7) (v := ?_) rfl (by kernel_rfl) (by kernel_rfl) (by kernel_rfl) (fun _ _ _ h => h) (Or.inl ⟨by rfl, ?_⟩) (by assumption) ?_
        rotate_left
        · intro w hSw; (try dsimp only at hSw); go_simp; (try with_reducible rfl)
        try simp only [List.getElem_toArray, List.getElem_cons_zero, List.getElem_cons_succ, Act.put, List.setIfInBounds_toArray, List.set_cons_zero, List.set_cons_succ]
        refine wpAnyH_take (i := 8) (v := ?_) rfl (by kernel_rfl) (by kernel_rfl) (by kernel_rfl) (fun _ _ _ h => h) (Or.inl ⟨by rfl, ?_⟩) (by assumption) ?_
        rotate_left
        · intro w hSw; (try dsimp only at hSw); go_simp; (try with_reducible rfl)
        try simp only [List.getElem_toArray, List.getElem_cons_zero, List.getElem_cons_succ, Act.put, List.setIfInBounds_toArray, List.set_cons_zero, List.set_cons_succ]
        refine wpAnyH_take (i := 9) (v := ?_) rfl (by kernel_rfl) (by kernel_rfl) (by kernel_rfl) (fun _ _ _ h => h) (Or.inl ⟨by rfl, ?_⟩) (by assumption) ?_
        rotate_left
        · intro w hSw; (try dsimp only at hSw); go_simp; (try with_reducible rfl)
        try simp only [List.getElem_toArray, List.getElem_cons_zero, List.getElem_cons_succ, Act.put, List.setIfInBounds_toArray, List.set_cons_zero, List.set_cons_succ]
        refine wpAnyH_take (i := 11) (v := ?_) rfl (by kernel_rfl) (by kernel_rfl) (by kernel_rfl) (fun _ _ _ h => h) (Or.inl ⟨by rfl, ?_⟩) (by assumption) ?_
        rotate_left
        · intro w hSw; (try dsimp only at hSw); go_simp; (try with_reducible rfl)
        try simp only [List.getElem_toArray, List.getElem_cons_zero, List.getElem_cons_succ, Act.put, List.setIfInBounds_toArray, List.set_cons_zero, List.set_cons_succ]
        refine wpAnyH_take (i := 12) (v := ?_) rfl (by kernel_rfl) (by kernel_rfl) (by kernel_rfl) (fun _ _ _ h => h) (Or.inl ⟨by rfl, ?_⟩) (by assumption) ?_
        rotate_left
        · intro w hSw; (try dsimp only at hSw); go_simp; (try with_reducible rfl)
        try simp only [List.getElem_toArray, List.getElem_cons_zero, List.getElem_cons_succ, Act.put, List.setIfInBounds_toArray, List.set_cons_zero, List.set_cons_succ]
        refine wpAnyH_ready (rs := [10]) (by kernel_rfl) (by simp) ?_
        refine AllReadyH.cons (o := _) rfl (fun K hK => ?_) AllReadyH.nil
        rw [if_pos (by rfl)]
        go_simp
        go_at_call 24
        refine (QCX.out _ hbc).mono ?_; rintro e wx ⟨rfl, rfl⟩
        go_wp2_with fail
        refine hK.out _ _ (⟨HX1.out _ hbc, HF0.out _ hbc, HA1.out _ (below_two7 HB5.out hbc)⟩) (fun hHeld2 => ?_)
        clear hK K hHeld
        have hHeld := hHeld2
        clear hHeld2
        try simp only [List.getElem_toArray, List.getElem_cons_zero, List.getElem_cons_succ, Act.put, List.setIfInBounds_toArray, List.set_cons_zero, List.set_cons_succ]
        refine wpAnyH_ready (rs := [13]) (by kernel_rfl) (by simp) ?_
        refine AllReadyH.cons (o := _) rfl (fun K hK => ?_) AllReadyH.nil
        rw [if_pos (by rfl)]
        go_simp
        go_at_call 24
        refine (QCA.out _ (below_two7 HB5.out hbc)).mono ?_; rintro e wx ⟨rfl, rfl⟩
        go_wp2_with fail
        refine hK.out _ _ (⟨HX1.out _ hbc, HF0.out _ hbc, HA1.out _ (below_two7 HB5.out hbc)⟩) (fun hHeld2 => ?_)
        clear hK K hHeld
        have hHeld := hHeld2
        clear hHeld2
        try simp only [List.getElem_toArray, List.getElem_cons_zero, List.getElem_cons_succ, Act.put, List.setIfInBounds_toArray, List.set_cons_zero, List.set_cons_succ]
        refine wpAnyH_take (i := 14) (v := ?_) rfl (by kernel_rfl) (by kernel_rfl) (by kernel_rfl) (fun _ _ _ h => h) (Or.inl ⟨by rfl, ?_⟩) (by assumption) ?_
        rotate_left
        · intro w hSw; (try dsimp only at hSw); go_simp; (first | (with_reducible rfl) | (simp))
        try simp only [List.getElem_toArray, List.getElem_cons_zero, List.getElem_cons_succ, Act.put, List.setIfInBounds_toArray, List.set_cons_zero, List.set_cons_succ]
        refine wpAnyH_take (i := 15) (v := ?_) rfl (by kernel_rfl) (by kernel_rfl) (by kernel_rfl) (fun _ _ _ h => h) (Or.inl ⟨by rfl, ?_⟩) (by assumption) ?_
        rotate_left
        · intro w hSw; (try dsimp only at hSw); go_simp; (try with_reducible rfl)
        try simp only [List.getElem_toArray, List.getElem_cons_zero, List.getElem_cons_succ, Act.put, List.setIfInBounds_toArray, List.set_cons_zero, List.set_cons_succ]
        refine wpAnyH_done (by kernel_rfl) ?_ _
        have c1 := HA1.out _ (below_two7 HB5.out hbc)
        go_wp2_with fail
        refine (QFL.out _ (below_two7 HB5.out hbc)).mono ?_
        rintro e w6 ⟨A6, c6, rfl, g1, g2, ho6, hb6⟩
        have hat := ho6.at
        have HB6 := Lib.hid (hbc.trans (hb6.mono hbc.size))
        have HBZ := Lib.hid (below_two7 HB5.out HB6.out)
        obtain ⟨z, hz⟩ : ∃ z, z = flatN a.path := ⟨_, rfl⟩
        rw [← hz] at HS12 HZL hat g1
        rw [← hz]
        have HAT := Lib.hid hat; have HG := Lib.hid (And.intro g1 g2)
        have HZ := Lib.hid hz
        clear c1 hat ho6 hb6 hbc g1 g2 hz
        go_wp2_with fail
        go_loop [9, 10] (fun n i => ∃ j : Nat, j ≤ z.length ∧ i = .int .i64 (j : Int) ∧ n = .int .i64 ((bigN (z.take j) : Nat) : Int)) (fun _ i => z.length - (intOf i).toNat)
        case atStart => exact ⟨0, Nat.zero_le _, rfl, by simp [bigN]⟩
        case round =>
          obtain ⟨j, hj, rfl, rfl⟩ := hrel
          have hzl := HZL.out
          have hbl := bigN_le (z.take j)
          have htl : (z.take j).length = j := by rw [List.length_take]; omega
          rw [htl] at hbl
          clear htl
          by_cases hlt : j < z.length
          · obtain ⟨b, off, hA, hb, k3⟩ := HAT.out.cell hlt
            have hst := bigN_step hlt
            obtain ⟨v, hv⟩ : ∃ v, v = z.getD j 0 := ⟨_, rfl⟩
            rw [← hv] at k3 hst
            subst hA
            clear hv
            by_cases hk : 65535 < v
            · rw [if_pos hk] at hst
              have HST := Lib.hid hst
              clear hst
              go_wp2_with fail
              go_round
              case rel => exact ⟨j + 1, by omega, by go_num, by rw [HST.out]; go_num⟩
              case measure => simp [intOf]; omega
            · rw [if_neg hk] at hst
              have HST := Lib.hid hst
              clear hst
              go_wp2_with fail
              go_round
              case rel => exact ⟨j + 1, by omega, by go_num, by rw [HST.out]; go_num⟩
              case measure => simp [intOf]; omega
          · obtain rfl : j = z.length := by omega
            rw [List.take_length] at hbl ⊢
            obtain ⟨m, hm⟩ : ∃ m, m = bigN z := ⟨_, rfl⟩
            have hbg := bigN_bigs z
            rw [← hm] at hbg hbl ⊢
            have HM := Lib.hid hbg
            have hsa := HSA.out.2
            have c7 := HA7.out _ HBZ.out
            have c6 := HA6.out _ HBZ.out
            clear hm hbg hj hlt
            by_cases hc : m = 0 ∧ SA ≤ 65535 ∧ SA ≠ 23456
            · obtain ⟨hm0, hc1, hc2⟩ := hc
              have hsame := HS12.out.1 (HM.out.1 hm0) (by rw [HSA.out.1]; omega) (by rw [HSA.out.1]; omega)
              have QS' := QS.out _ HB6.out
              rw [hsame] at QS'
              have QS2 := Lib.hid QS'
              clear QS' hsame
              subst hm0
              go_wp2_with (first | (refine wpList_loadA _ rfl (.tmp 5) rfl w4.heap.size 0 y rfl (HXV.out _ HB6.out) ?_) | (refine wpList_loadA _ rfl (.tmp 1) rfl W.heap.size 0 a rfl (HCV.out _ HBZ.out) ?_))
              refine QS2.out.mono ?_
              rintro e w7 ⟨rfl, hb7⟩
              have HB7 := Lib.hid (below_two7 HBZ.out hb7)
              clear hb7 c6 c7 QS2
              go_wp2_with fail
              refine (QW.out _ HB7.out).mono ?_
              rintro e w8 ⟨rfl, hb8⟩
              have HB8 := Lib.hid (below_two7 HB1.out (below_two7 HB7.out hb8))
              clear hb8
              go_wp2_with fail
              go_ret
              exact ⟨rfl, HB8.out⟩
            · cases hh : a.has with
              | true =>
                rw [hh] at c6
                clear hh
                by_cases hm0 : m = 0
                · subst hm0
                  by_cases hc1 : SA ≤ 65535
                  · obtain rfl : SA = 23456 := by omega
                    clear hc
                    go_wp2_with fail
                    refine (QW.out _ HBZ.out).mono ?_
                    rintro e w7 ⟨rfl, hb7⟩
                    have HB7 := Lib.hid (below_two7 HB1.out (below_two7 HBZ.out hb7))
                    clear hb7 c6 c7
                    go_wp2_with fail
                    go_ret
                    exact ⟨rfl, HB7.out⟩
                  · clear hc
                    go_wp2_with fail
                    refine (QW.out _ HBZ.out).mono ?_
                    rintro e w7 ⟨rfl, hb7⟩
                    have HB7 := Lib.hid (below_two7 HB1.out (below_two7 HBZ.out hb7))
                    clear hb7 c6 c7
                    go_wp2_with fail
                    go_ret
                    exact ⟨rfl, HB7.out⟩
                · clear hc
                  have hm1 : ((m : Int) == 0) = false := by simpa using hm0
                  go_wp2_with fail
                  refine (QW.out _ HBZ.out).mono ?_
                  rintro e w7 ⟨rfl, hb7⟩
                  have HB7 := Lib.hid (below_two7 HB1.out (below_two7 HBZ.out hb7))
                  clear hb7 c6 c7
                  go_wp2_with fail
                  go_ret
                  exact ⟨rfl, HB7.out⟩
              | false =>
                have hm0 : m ≠ 0 := by
                  intro e
                  have h0 := (HHAS.out hh).1
                  rw [HSA.out.1] at h0
                  omega
                have hsame := HS12.out.2 (HM.out.2 hm0) hh
                rw [hh] at c6
                have QS' := QS.out _ HB6.out
                rw [hsame] at QS'
                have QS2 := Lib.hid QS'
                have hm1 : ((m : Int) == 0) = false := by simpa using hm0
                clear QS' hsame hc hh
                go_wp2_with (first | (refine wpList_loadG _ (by rfl) (.tmp 5) rfl w4.heap.size 0 y rfl (HXV.out _ HB6.out) ?_) | (refine wpList_loadG _ (by rfl) (.tmp 1) rfl W.heap.size 0 a rfl (HCV.out _ HBZ.out) ?_))
                refine QS2.out.mono ?_
                rintro e w7 ⟨rfl, hb7⟩
                have HB7 := Lib.hid (below_two7 HBZ.out hb7)
                clear hb7 c6 c7 QS2
                go_wp2_with fail
                refine (QW.out _ HB7.out).mono ?_
                rintro e w8 ⟨rfl, hb8⟩
                have HB8 := Lib.hid (below_two7 HB1.out (below_two7 HB7.out hb8))
                clear hb8
                go_wp2_with fail
                go_ret
                exact ⟨rfl, HB8.out⟩
end Go.Proofs.YtkpbldhkoobnaaaDoor

/-
  Texts of this seat, put together: Right4W.
-/
import Derived.Deep.RegionHeld3
import Derived.Test.YtoccnpmjdgdhoaaDoorMg8
import Derived.Test.YtoccnpmjdgdhoaaDoorRefSame4Mg
import Derived.Test.YtoccnpmjdgdhoaaDoorRefRight4Mg
import Derived.Test.YtoccnpmjdgdhoaaDoorMg19
/-
  P4.1: whether any attributes may be, and what is known: the walk (written by gen04v.py).
-/
namespace Go.Proofs.YtoccnpmjdgdhoaaDoor
set_option linter.unusedVariables false
set_option linter.unusedSimpArgs false
open Go.RowKit

theorem below_two5 {w w1 w2 : World} (h : Below w.heap.size w w1) (k : Below w1.heap.size w1 w2) : Below w.heap.size w w2 := h.trans (k.mono h.size)
/-- Attributes of which nothing is said. -/
def exZ : Av := ⟨0, none, 0, [], 0, -1, -1, false, false, 0, 0, none, 0, [], none, 0, []⟩
theorem exZ_in (w : World) : exZ.In w w.heap.size := ⟨Segs.nil _ _ _, ⟨Nat.le_refl _, Nat.zero_le _⟩, At32.nil _ _ _, ⟨Nat.le_refl _, Nat.zero_le _⟩, RwIn.nil _ _ _, ⟨Nat.le_refl _, Nat.zero_le _⟩, fun s hs => by cases hs⟩
set_option maxRecDepth 100000 in
set_option maxHeartbeats 25600000 in
theorem AttrsRight.walk (a : Av) (k : Int) (n : Nat) (W : World) (ht : TabK W) (ha : AvArg W a) (hwt : Wt reachBytes a.path) (hk : (Lit.int .i64 k).wf = true) (hn : n < 4294967296) :
    Calls Tryd.prog 3 #[.agg a.row.toArray, .int .i64 k, .int .u32 (n : Int)] W fun e w' => e = .returned (.bool true) ∧ Below W.heap.size W w' := by
  have hb1 := (Below.refl W.heap.size W).alloc (Nat.le_refl _) (.cells a.row.toArray 27)
  have kA := Blk.new W 27 a.row
  obtain ⟨W0, hW0⟩ : ∃ W0, W0 = W.alloc (.cells a.row.toArray 27) := ⟨_, rfl⟩
  rw [← hW0] at hb1 kA
  have HW0 := Lib.hid hW0; have HB1 := Lib.hid hb1
  have HCV := Lib.hid (fun (w : World) (h : Below W0.heap.size W0 w) => av_blk (kA.below h kA.lt))
  have HIN := Lib.hid (fun (w : World) (h : Below W0.heap.size W0 w) => (ha.inn.below (hb1.trans (h.mono hb1.size)) (Nat.le_refl _)).lift (hb1.trans (h.mono hb1.size)).size)
  have HTK := Lib.hid (fun (w : World) (h : Below W0.heap.size W0 w) => ht.below (hb1.trans (h.mono hb1.size)) ht.lt)
  have QW := Lib.hid (fun (w : World) (h : Below W0.heap.size W0 w) => awake4_any w (HTK.out w h))
  have QFA := Lib.hid (fun (w : World) (h : Below W0.heap.size W0 w) => Few4_any a w (HIN.out w h))
  clear hb1 kA hW0 ha ht
  go_enter Tryd.func3, Tryd.ntmps3
  go_wp2_with (first
    | (refine wpList_boxA _ rfl (.tmp 0) rfl a rfl ?_)
    | (rw [← HW0.out]; refine wpList_loadA _ rfl (.tmp 3) rfl W.heap.size 0 a rfl (HCV.out _ (Below.refl _ _)) ?_))
  refine (QFA.out _ (Below.refl _ _)).mono ?_
  rintro e w1 ⟨qa, rfl, hfa, hb1⟩
  have HA := Lib.hid hb1
  clear hb1
  cases qa with
  | false =>
    clear hfa
    go_wp2_with fail
    refine (QW.out _ HA.out).mono ?_
    rintro e w2 ⟨rfl, hb2⟩
    have HB2 := Lib.hid (below_two5 HB1.out ((below_two5 HA.out hb2)))
    clear hb2
    go_wp2_with fail
    go_ret
    exact ⟨rfl, HB2.out⟩
  | true =>
    obtain ⟨hf1, hf2, hf3, hf4⟩ := hfa rfl
    have h2 : a.path.length ≤ 12 ∧ fewN a.path ≤ 300 := of_decide_eq_true hf1
    have htt := few_tot_le hf1 (fun s hs => Nat.le_trans (hwt s hs) (by unfold reachBytes; decide))
    have Q1 := Lib.hid (fun (w : World) (h : Below W0.heap.size W0 w) => Right_attrs a w (HTK.out w h) (HIN.out w h) (by omega) (by omega) (by omega))
    have Q2 := Lib.hid (fun (w : World) (h : Below W0.heap.size W0 w) => RefRight4_any a w (HIN.out w h) (by omega) (by omega) (by omega))
    have Q3 := Lib.hid (fun (w : World) (h : Below W0.heap.size W0 w) => Known_any k w (HTK.out w h))
    have Q4 := Lib.hid (fun (w : World) (h : Below W0.heap.size W0 w) => (RefFlags_any k w).mono fun e w' (q : _ ∧ w = w') => show e = .returned (.int .i64 (flagsF k)) ∧ Below w.heap.size w w' from ⟨q.1, by rw [← q.2]; exact Below.refl _ _⟩)
    have Q5 := Lib.hid (fun (w : World) (h : Below W0.heap.size W0 w) => (Next_any n w hn).mono fun e w' (q : _ ∧ w = w') => show e = .returned (.bool (nextB n)) ∧ Below w.heap.size w w' from ⟨q.1, by rw [← q.2]; exact Below.refl _ _⟩)
    have Q6 := Lib.hid (fun (w : World) (h : Below W0.heap.size W0 w) => (RefNext_any n w hn).mono fun e w' (q : _ ∧ w = w') => show e = .returned (.bool (nextB n)) ∧ Below w.heap.size w w' from ⟨q.1, by rw [← q.2]; exact Below.refl _ _⟩)
    have Q7 := Lib.hid (fun (w : World) (h : Below W0.heap.size W0 w) => show Calls Tryd.prog 17 #[] w fun e w' => e = .returned (.agg #[.int .i64 0, .slice none 0 0, .int .u32 0, .int .i64 (-1), .int .i64 (-1), .bool false, .bool false, .int .u32 0, .int .u32 0, .slice none 0 0, .slice none 0 0]) ∧ Below w.heap.size w w' from Zero_any w)
    have Q8 := Lib.hid (fun (w : World) (h : Below W0.heap.size W0 w) => show Calls Tryd.prog 18 #[] w fun e w' => e = .returned (.agg #[.int .i64 0, .slice none 0 0, .int .u32 0, .int .i64 (-1), .int .i64 (-1), .bool false, .bool false, .int .u32 0, .int .u32 0, .slice none 0 0, .slice none 0 0]) ∧ Below w.heap.size w w' from RefZero_any w)
    have Q9 := Lib.hid (fun (w : World) (h : Below W0.heap.size W0 w) => show Calls Tryd.prog 16 #[.agg #[.int .i64 0, .slice none 0 0, .int .u32 0, .int .i64 (-1), .int .i64 (-1), .bool false, .bool false, .int .u32 0, .int .u32 0, .slice none 0 0, .slice none 0 0], .agg #[.int .i64 0, .slice none 0 0, .int .u32 0, .int .i64 (-1), .int .i64 (-1), .bool false, .bool false, .int .u32 0, .int .u32 0, .slice none 0 0, .slice none 0 0]] w fun e w' => e = .returned (.bool true) ∧ Below w.heap.size w w' from RefSame4_any exZ exZ w (exZ_in w) (exZ_in w) (by decide) (by decide))
    have HS := Lib.hid (fun (w : World) (h : Below W0.heap.size W0 w) => show AvAt w W.heap.size 0 a ∧ True from ⟨HCV.out w h, trivial⟩)
    have hz : (flagsF k != 0) = knownB k := (known_flags k).symm
    obtain ⟨V, hV⟩ : ∃ V, V = a.okB := ⟨_, rfl⟩
    obtain ⟨N, hN⟩ : ∃ N, N = nextB n := ⟨_, rfl⟩
    obtain ⟨K, hK⟩ : ∃ K, K = knownB k := ⟨_, rfl⟩
    obtain ⟨F, hF⟩ : ∃ F, F = flagsF k := ⟨_, rfl⟩
    rw [← hV] at Q1 Q2
    rw [← hN] at Q5 Q6
    rw [← hK] at Q3 hz
    rw [← hF] at Q4 hz
    have hE := HA.out
    clear hV hN hK hF hf1 hf2 hf3 hf4 h2 htt hfa hwt HCV hk hn
    all_goals
      go_wp2_with fail
      have hD_ := Below.drew hE
      refine wp_region_held_drew (S := fun w' => AvAt w' W.heap.size 0 a ∧ True) (by kernel_rfl) (HS.out _ hD_) (fun hHeld => ?_)
      refine wpAnyH_take (i := 0) (v := a.agg) rfl (by kernel_rfl) (by kernel_rfl) (by kernel_rfl) (fun _ _ _ h => h) (Or.inl ⟨by rfl, ?_⟩) (by assumption) ?_
      · intro w hSw; exact load_execA _ rfl rfl hSw.1
      try simp only [List.getElem_toArray, List.getElem_cons_zero, List.getElem_cons_succ, Act.put, List.setIfInBounds_toArray, List.set_cons_zero, List.set_cons_succ]
      refine wpAnyH_take (i := 2) (v := a.agg) rfl (by kernel_rfl) (by kernel_rfl) (by kernel_rfl) (fun _ _ _ h => h) (Or.inl ⟨by rfl, ?_⟩) (by assumption) ?_
      · intro w hSw; exact load_execA _ rfl rfl hSw.1
      try simp only [List.getElem_toArray, List.getElem_cons_zero, List.getElem_cons_succ, Act.put, List.setIfInBounds_toArray, List.set_cons_zero, List.set_cons_succ]
      refine wpAnyH_ready (rs := [1]) (by kernel_rfl) (by simp) ?_
      refine AllReadyH.cons (o := _) rfl (fun K hK => ?_) AllReadyH.nil
      rw [if_pos (by rfl)]
      go_simp
      go_at_call 10
      refine (Q1.out _ hD_).mono ?_
      rintro e wa ⟨rfl, hg⟩
      have hA_ := below_two5 hD_ hg
      clear hg
      go_wp2_with fail
      refine hK.out _ _ (HS.out _ hA_) (fun hHeld2 => ?_)
      clear hK K hHeld
      have hHeld := hHeld2
      clear hHeld2
      try simp only [List.getElem_toArray, List.getElem_cons_zero, List.getElem_cons_succ, Act.put, List.setIfInBounds_toArray, List.set_cons_zero, List.set_cons_succ]
      refine wpAnyH_ready (rs := [3]) (by kernel_rfl) (by simp) ?_
      refine AllReadyH.cons (o := _) rfl (fun K hK => ?_) AllReadyH.nil
      rw [if_pos (by rfl)]
      go_simp
      go_at_call 11
      refine (Q2.out _ hA_).mono ?_
      rintro e wb ⟨rfl, hg⟩
      have hB_ := below_two5 hA_ hg
      clear hg
      go_wp2_with fail
      refine hK.out _ _ (HS.out _ hB_) (fun hHeld2 => ?_)
      clear hK K hHeld
      have hHeld := hHeld2
      clear hHeld2
      try simp only [List.getElem_toArray, List.getElem_cons_zero, List.getElem_cons_succ, Act.put, List.setIfInBounds_toArray, List.set_cons_zero, List.set_cons_succ]
      refine wpAnyH_take (i := 4) (v := ?_) rfl (by kernel_rfl) (by kernel_rfl) (by kernel_rfl) (fun _ _ _ h => h) (Or.inl ⟨by rfl, ?_⟩) (by assumption) ?_
      rotate_left
      · intro w hSw; (try dsimp only at hSw); obtain ⟨hS1, hS2⟩ := hSw; go_simp; (try with_reducible rfl)
      try simp only [List.getElem_toArray, List.getElem_cons_zero, List.getElem_cons_succ, Act.put, List.setIfInBounds_toArray, List.set_cons_zero, List.set_cons_succ]
      refine wpAnyH_take (i := 5) (v := ?_) rfl (by kernel_rfl) (by kernel_rfl) (by kernel_rfl) (fun _ _ _ h => h) (Or.inl ⟨by rfl, ?_⟩) (by assumption) ?_
      rotate_left
      · intro w hSw; (try dsimp only at hSw); obtain ⟨hS1, hS2⟩ := hSw; go_simp; (try with_reducible rfl)
      try simp only [List.getElem_toArray, List.getElem_cons_zero, List.getElem_cons_succ, Act.put, List.setIfInBounds_toArray, List.set_cons_zero, List.set_cons_succ]
      refine wpAnyH_take (i := 6) (v := ?_) rfl (by kernel_rfl) (by kernel_rfl) (by kernel_rfl) (fun _ _ _ h => h) (Or.inl ⟨by rfl, ?_⟩) (by assumption) ?_
      rotate_left
      · intro w hSw; (try dsimp only at hSw); obtain ⟨hS1, hS2⟩ := hSw; go_simp; (try with_reducible rfl)
      try simp only [List.getElem_toArray, List.getElem_cons_zero, List.getElem_cons_succ, Act.put, List.setIfInBounds_toArray, List.set_cons_zero, List.set_cons_succ]
      refine wpAnyH_take (i := 8) (v := ?_) rfl (by kernel_rfl) (by kernel_rfl) (by kernel_rfl) (fun _ _ _ h => h) (Or.inl ⟨by rfl, ?_⟩) (by assumption) ?_
      rotate_left
      · intro w hSw; (try dsimp only at hSw); obtain ⟨hS1, hS2⟩ := hSw; go_simp; (try with_reducible rfl)
      try simp only [List.getElem_toArray, List.getElem_cons_zero, List.getElem_cons_succ, Act.put, List.setIfInBounds_toArray, List.set_cons_zero, List.set_cons_succ]
      refine wpAnyH_ready (rs := [7]) (by kernel_rfl) (by simp) ?_
      refine AllReadyH.cons (o := _) rfl (fun K hK => ?_) AllReadyH.nil
      rw [if_pos (by rfl)]
      go_simp
      go_at_call 12
      refine (Q3.out _ hB_).mono ?_
      rintro e wc ⟨rfl, hg⟩
      have hC_ := below_two5 hB_ hg
      clear hg
      go_wp2_with fail
      refine hK.out _ _ (HS.out _ hC_) (fun hHeld2 => ?_)
      clear hK K hHeld
      have hHeld := hHeld2
      clear hHeld2
      try simp only [List.getElem_toArray, List.getElem_cons_zero, List.getElem_cons_succ, Act.put, List.setIfInBounds_toArray, List.set_cons_zero, List.set_cons_succ]
      refine wpAnyH_ready (rs := [9]) (by kernel_rfl) (by simp) ?_
      refine AllReadyH.cons (o := _) rfl (fun K hK => ?_) AllReadyH.nil
      rw [if_pos (by rfl)]
      go_simp
      go_at_call 13
      refine (Q4.out _ hC_).mono ?_
      rintro e wd ⟨rfl, hg⟩
      have hE_ := below_two5 hC_ hg
      clear hg
      go_wp2_with fail
      refine hK.out _ _ (HS.out _ hE_) (fun hHeld2 => ?_)
      clear hK K hHeld
      have hHeld := hHeld2
      clear hHeld2
      try simp only [List.getElem_toArray, List.getElem_cons_zero, List.getElem_cons_succ, Act.put, List.setIfInBounds_toArray, List.set_cons_zero, List.set_cons_succ]
      refine wpAnyH_take (i := 10) (v := ?_) rfl (by kernel_rfl) (by kernel_rfl) (by kernel_rfl) (fun _ _ _ h => h) (Or.inl ⟨by rfl, ?_⟩) (by assumption) ?_
      rotate_left
      · intro w hSw; (try dsimp only at hSw); obtain ⟨hS1, hS2⟩ := hSw; go_simp; (try with_reducible rfl)
      try simp only [List.getElem_toArray, List.getElem_cons_zero, List.getElem_cons_succ, Act.put, List.setIfInBounds_toArray, List.set_cons_zero, List.set_cons_succ]
      refine wpAnyH_take (i := 11) (v := ?_) rfl (by kernel_rfl) (by kernel_rfl) (by kernel_rfl) (fun _ _ _ h => h) (Or.inl ⟨by rfl, ?_⟩) (by assumption) ?_
      rotate_left
      · intro w hSw; (try dsimp only at hSw); obtain ⟨hS1, hS2⟩ := hSw; go_simp; (try with_reducible rfl)
      try simp only [List.getElem_toArray, List.getElem_cons_zero, List.getElem_cons_succ, Act.put, List.setIfInBounds_toArray, List.set_cons_zero, List.set_cons_succ]
      refine wpAnyH_take (i := 12) (v := ?_) rfl (by kernel_rfl) (by kernel_rfl) (by kernel_rfl) (fun _ _ _ h => h) (Or.inl ⟨by rfl, ?_⟩) (by assumption) ?_
      rotate_left
      · intro w hSw; (try dsimp only at hSw); obtain ⟨hS1, hS2⟩ := hSw; go_simp; (try with_reducible rfl)
      try simp only [List.getElem_toArray, List.getElem_cons_zero, List.getElem_cons_succ, Act.put, List.setIfInBounds_toArray, List.set_cons_zero, List.set_cons_succ]
      refine wpAnyH_take (i := 13) (v := ?_) rfl (by kernel_rfl) (by kernel_rfl) (by kernel_rfl) (fun _ _ _ h => h) (Or.inl ⟨by rfl, ?_⟩) (by assumption) ?_
      rotate_left
      · intro w hSw; (try dsimp only at hSw); obtain ⟨hS1, hS2⟩ := hSw; go_simp; (try with_reducible rfl)
      try simp only [List.getElem_toArray, List.getElem_cons_zero, List.getElem_cons_succ, Act.put, List.setIfInBounds_toArray, List.set_cons_zero, List.set_cons_succ]
      refine wpAnyH_take (i := 14) (v := ?_) rfl (by kernel_rfl) (by kernel_rfl) (by kernel_rfl) (fun _ _ _ h => h) (Or.inl ⟨by rfl, ?_⟩) (by assumption) ?_
      rotate_left
      · intro w hSw; (try dsimp only at hSw); obtain ⟨hS1, hS2⟩ := hSw; go_simp; (try with_reducible rfl)
      try simp only [List.getElem_toArray, List.getElem_cons_zero, List.getElem_cons_succ, Act.put, List.setIfInBounds_toArray, List.set_cons_zero, List.set_cons_succ]
      refine wpAnyH_take (i := 16) (v := ?_) rfl (by kernel_rfl) (by kernel_rfl) (by kernel_rfl) (fun _ _ _ h => h) (Or.inl ⟨by rfl, ?_⟩) (by assumption) ?_
      rotate_left
      · intro w hSw; (try dsimp only at hSw); obtain ⟨hS1, hS2⟩ := hSw; go_simp; (try with_reducible rfl)
      try simp only [List.getElem_toArray, List.getElem_cons_zero, List.getElem_cons_succ, Act.put, List.setIfInBounds_toArray, List.set_cons_zero, List.set_cons_succ]
      refine wpAnyH_ready (rs := [15]) (by kernel_rfl) (by simp) ?_
      refine AllReadyH.cons (o := _) rfl (fun K hK => ?_) AllReadyH.nil
      rw [if_pos (by rfl)]
      go_simp
      go_at_call 14
      refine (Q5.out _ hE_).mono ?_
      rintro e we ⟨rfl, hg⟩
      have hF_ := below_two5 hE_ hg
      clear hg
      go_wp2_with fail
      refine hK.out _ _ (HS.out _ hF_) (fun hHeld2 => ?_)
      clear hK K hHeld
      have hHeld := hHeld2
      clear hHeld2
      try simp only [List.getElem_toArray, List.getElem_cons_zero, List.getElem_cons_succ, Act.put, List.setIfInBounds_toArray, List.set_cons_zero, List.set_cons_succ]
      refine wpAnyH_ready (rs := [17]) (by kernel_rfl) (by simp) ?_
      refine AllReadyH.cons (o := _) rfl (fun K hK => ?_) AllReadyH.nil
      rw [if_pos (by rfl)]
      go_simp
      go_at_call 15
      refine (Q6.out _ hF_).mono ?_
      rintro e wf ⟨rfl, hg⟩
      have hG_ := below_two5 hF_ hg
      clear hg
      go_wp2_with fail
      refine hK.out _ _ (HS.out _ hG_) (fun hHeld2 => ?_)
      clear hK K hHeld
      have hHeld := hHeld2
      clear hHeld2
      try simp only [List.getElem_toArray, List.getElem_cons_zero, List.getElem_cons_succ, Act.put, List.setIfInBounds_toArray, List.set_cons_zero, List.set_cons_succ]
      refine wpAnyH_take (i := 18) (v := ?_) rfl (by kernel_rfl) (by kernel_rfl) (by kernel_rfl) (fun _ _ _ h => h) (Or.inl ⟨by rfl, ?_⟩) (by assumption) ?_
      rotate_left
      · intro w hSw; (try dsimp only at hSw); obtain ⟨hS1, hS2⟩ := hSw; go_simp; (try with_reducible rfl)
      try simp only [List.getElem_toArray, List.getElem_cons_zero, List.getElem_cons_succ, Act.put, List.setIfInBounds_toArray, List.set_cons_zero, List.set_cons_succ]
      refine wpAnyH_take (i := 19) (v := ?_) rfl (by kernel_rfl) (by kernel_rfl) (by kernel_rfl) (fun _ _ _ h => h) (Or.inl ⟨by rfl, ?_⟩) (by assumption) ?_
      rotate_left
      · intro w hSw; (try dsimp only at hSw); obtain ⟨hS1, hS2⟩ := hSw; go_simp; (try with_reducible rfl)
      try simp only [List.getElem_toArray, List.getElem_cons_zero, List.getElem_cons_succ, Act.put, List.setIfInBounds_toArray, List.set_cons_zero, List.set_cons_succ]
      refine wpAnyH_take (i := 20) (v := ?_) rfl (by kernel_rfl) (by kernel_rfl) (by kernel_rfl) (fun _ _ _ h => h) (Or.inl ⟨by rfl, ?_⟩) (by assumption) ?_
      rotate_left
      · intro w hSw; (try dsimp only at hSw); obtain ⟨hS1, hS2⟩ := hSw; go_simp; (try with_reducible rfl)
      try simp only [List.getElem_toArray, List.getElem_cons_zero, List.getElem_cons_succ, Act.put, List.setIfInBounds_toArray, List.set_cons_zero, List.set_cons_succ]
      refine wpAnyH_ready (rs := [21]) (by kernel_rfl) (by simp) ?_
      refine AllReadyH.cons (o := _) rfl (fun K hK => ?_) AllReadyH.nil
      rw [if_pos (by rfl)]
      go_simp
      go_at_call 17
      refine (Q7.out _ hG_).mono ?_
      rintro e wg ⟨rfl, hg⟩
      have hH_ := below_two5 hG_ hg
      clear hg
      go_wp2_with fail
      refine hK.out _ _ (HS.out _ hH_) (fun hHeld2 => ?_)
      clear hK K hHeld
      have hHeld := hHeld2
      clear hHeld2
      try simp only [List.getElem_toArray, List.getElem_cons_zero, List.getElem_cons_succ, Act.put, List.setIfInBounds_toArray, List.set_cons_zero, List.set_cons_succ]
      refine wpAnyH_ready (rs := [22]) (by kernel_rfl) (by simp) ?_
      refine AllReadyH.cons (o := _) rfl (fun K hK => ?_) AllReadyH.nil
      rw [if_pos (by rfl)]
      go_simp
      go_at_call 18
      refine (Q8.out _ hH_).mono ?_
      rintro e wh ⟨rfl, hg⟩
      have hI_ := below_two5 hH_ hg
      clear hg
      go_wp2_with fail
      refine hK.out _ _ (HS.out _ hI_) (fun hHeld2 => ?_)
      clear hK K hHeld
      have hHeld := hHeld2
      clear hHeld2
      try simp only [List.getElem_toArray, List.getElem_cons_zero, List.getElem_cons_succ, Act.put, List.setIfInBounds_toArray, List.set_cons_zero, List.set_cons_succ]
      refine wpAnyH_ready (rs := [23]) (by kernel_rfl) (by simp) ?_
      refine AllReadyH.cons (o := _) rfl (fun K hK => ?_) AllReadyH.nil
      rw [if_pos (by rfl)]
      go_simp
      go_at_call 16
      refine (Q9.out _ hI_).mono ?_
      rintro e wi ⟨rfl, hg⟩
      have hJ_ := below_two5 hI_ hg
      clear hg
      go_wp2_with fail
      refine hK.out _ _ (HS.out _ hJ_) (fun hHeld2 => ?_)
      clear hK K hHeld
      have hHeld := hHeld2
      clear hHeld2
      try simp only [List.getElem_toArray, List.getElem_cons_zero, List.getElem_cons_succ, Act.put, List.setIfInBounds_toArray, List.set_cons_zero, List.set_cons_succ]
      refine wpAnyH_take (i := 24) (v := ?_) rfl (by kernel_rfl) (by kernel_rfl) (by kernel_rfl) (fun _ _ _ h => h) (Or.inl ⟨by rfl, ?_⟩) (by assumption) ?_
      rotate_left
      · intro w hSw; (try dsimp only at hSw); obtain ⟨hS1, hS2⟩ := hSw; go_simp; (try with_reducible rfl)
      try simp only [List.getElem_toArray, List.getElem_cons_zero, List.getElem_cons_succ, Act.put, List.setIfInBounds_toArray, List.set_cons_zero, List.set_cons_succ]
      refine wpAnyH_take (i := 25) (v := ?_) rfl (by kernel_rfl) (by kernel_rfl) (by kernel_rfl) (fun _ _ _ h => h) (Or.inl ⟨by rfl, ?_⟩) (by assumption) ?_
      rotate_left
      · intro w hSw; (try dsimp only at hSw); obtain ⟨hS1, hS2⟩ := hSw; go_simp; (try with_reducible rfl)
      try simp only [List.getElem_toArray, List.getElem_cons_zero, List.getElem_cons_succ, Act.put, List.setIfInBounds_toArray, List.set_cons_zero, List.set_cons_succ]
      refine wpAnyH_ready (rs := [26]) (by kernel_rfl) (by simp) ?_
      refine AllReadyH.cons (o := _) rfl (fun K hK => ?_) AllReadyH.nil
      rw [if_pos (by rfl)]
      go_simp
      go_at_call 9
      refine (QW.out _ hJ_).mono ?_
      rintro e wj ⟨rfl, hg⟩
      have hK_ := below_two5 hJ_ hg
      clear hg
      go_wp2_with fail
      refine hK.out _ _ (HS.out _ hK_) (fun hHeld2 => ?_)
      clear hK K hHeld
      have hHeld := hHeld2
      clear hHeld2
      try simp only [List.getElem_toArray, List.getElem_cons_zero, List.getElem_cons_succ, Act.put, List.setIfInBounds_toArray, List.set_cons_zero, List.set_cons_succ]
      refine wpAnyH_take (i := 27) (v := ?_) rfl (by kernel_rfl) (by kernel_rfl) (by kernel_rfl) (fun _ _ _ h => h) (Or.inl ⟨by rfl, ?_⟩) (by assumption) ?_
      rotate_left
      · intro w hSw; (try dsimp only at hSw); obtain ⟨hS1, hS2⟩ := hSw; go_simp; (try with_reducible rfl)
      try simp only [List.getElem_toArray, List.getElem_cons_zero, List.getElem_cons_succ, Act.put, List.setIfInBounds_toArray, List.set_cons_zero, List.set_cons_succ]
      refine wpAnyH_take (i := 28) (v := ?_) rfl (by kernel_rfl) (by kernel_rfl) (by kernel_rfl) (fun _ _ _ h => h) (Or.inl ⟨by rfl, ?_⟩) (by assumption) ?_
      rotate_left
      · intro w hSw; (try dsimp only at hSw); obtain ⟨hS1, hS2⟩ := hSw; go_simp; (try with_reducible rfl)
      try simp only [List.getElem_toArray, List.getElem_cons_zero, List.getElem_cons_succ, Act.put, List.setIfInBounds_toArray, List.set_cons_zero, List.set_cons_succ]
      clear hHeld hA_ hB_ hC_ hD_ hE_ hF_ hG_ hH_ hI_ hJ_
      refine wpAnyH_done (by kernel_rfl) ?_ _
      have hZ_ := HB1.out.trans (hK_.mono HB1.out.size)
      clear hK_ hE
      go_wp2_with fail
      go_ret
      exact ⟨rfl, hZ_⟩
end Go.Proofs.YtoccnpmjdgdhoaaDoor

/-
  Texts of this seat, put together: Same4W.
-/
import Derived.Deep.RegionHeld3
import Derived.Test.YtoccnpmjdgdhoaaDoorMg8
import Derived.Test.YtoccnpmjdgdhoaaDoorRefSame4Mg
import Derived.Test.YtoccnpmjdgdhoaaDoorMg19
/-
  P4.1: whether any two attributes are the same: the walk (written by gen04w.py).
-/
namespace Go.Proofs.YtoccnpmjdgdhoaaDoor
set_option linter.unusedVariables false
set_option linter.unusedSimpArgs false
open Go.RowKit

theorem below_two4 {w w1 w2 : World} (h : Below w.heap.size w w1) (k : Below w1.heap.size w1 w2) : Below w.heap.size w w2 := h.trans (k.mono h.size)
theorem Av.same_self (a : Av) : a.same a = true := by unfold Av.same sameP sameZ sameRs; simp
theorem Av.same_turn (a b : Av) : b.same a = a.same b := by
  have e : ∀ {α : Type} [DecidableEq α] (x y : α), decide (y = x) = decide (x = y) := fun x y => decide_eq_decide.2 eq_comm
  have z : ∀ (x y : Int), (y == x) = (x == y) := fun x y => by rw [Bool.eq_iff_iff]; simp only [beq_iff_eq]; exact eq_comm
  have zb : ∀ (x y : Bool), (y == x) = (x == y) := fun x y => by cases x <;> cases y <;> rfl
  unfold Av.same sameP sameZ sameRs
  rw [z a.org, z a.next, z a.med, z a.pref, zb a.atomic, zb a.has, z a.aas, z a.aad, e (a.path.map Sg.abs), e a.comms, e (a.raws.map Rw.abs)]
theorem few4_len {a : Av} (h : fewB a.path = true) : a.path.length ≤ 1000000000 := by
  have h2 : a.path.length ≤ 12 ∧ fewN a.path ≤ 300 := of_decide_eq_true h
  omega
set_option maxRecDepth 100000 in
set_option maxHeartbeats 25600000 in
theorem AttrsSame.walk (a b : Av) (W : World) (ht : TabK W) (ha : AvArg W a) (hb : AvArg W b) :
    Calls Tryd.prog 4 #[.agg a.row.toArray, .agg b.row.toArray] W fun e w' => e = .returned (.bool true) ∧ Below W.heap.size W w' := by
  have hb0 := (Below.refl W.heap.size W).alloc (Nat.le_refl _) (.cells a.row.toArray 27)
  have hb1 := hb0.alloc hb0.size (.cells b.row.toArray 27)
  have kA := (Blk.new W 27 a.row).below ((Below.refl _ _).alloc (Nat.le_refl _) (.cells b.row.toArray 27)) (by simp)
  have kB := Blk.new (W.alloc (.cells a.row.toArray 27)) 27 b.row
  have e1 : (W.alloc (.cells a.row.toArray 27)).heap.size = W.heap.size + 1 := by simp
  rw [e1] at kB
  obtain ⟨W0, hW0⟩ : ∃ W0, W0 = (W.alloc (.cells a.row.toArray 27)).alloc (.cells b.row.toArray 27) := ⟨_, rfl⟩
  rw [← hW0] at hb1 kA kB
  have HW0 := Lib.hid hW0; have HB1 := Lib.hid hb1
  have HCV := Lib.hid (fun (w : World) (h : Below W0.heap.size W0 w) => And.intro (av_blk (kA.below h kA.lt)) (av_blk (kB.below h kB.lt)))
  have HIN := Lib.hid (fun (w : World) (h : Below W0.heap.size W0 w) => And.intro ((ha.inn.below (hb1.trans (h.mono hb1.size)) (Nat.le_refl _)).lift (hb1.trans (h.mono hb1.size)).size) ((hb.inn.below (hb1.trans (h.mono hb1.size)) (Nat.le_refl _)).lift (hb1.trans (h.mono hb1.size)).size))
  have QW := Lib.hid (fun (w : World) (h : Below W0.heap.size W0 w) => awake4_any w (ht.below (hb1.trans (h.mono hb1.size)) ht.lt))
  have QFA := Lib.hid (fun (w : World) (h : Below W0.heap.size W0 w) => Few4_any a w (HIN.out w h).1)
  have QFB := Lib.hid (fun (w : World) (h : Below W0.heap.size W0 w) => Few4_any b w (HIN.out w h).2)
  clear hb0 hb1 kA kB e1 hW0 ha hb ht
  go_enter Tryd.func4, Tryd.ntmps4
  go_wp2_with (first
    | (refine wpList_boxA _ rfl (.tmp 0) rfl a rfl ?_)
    | (refine wpList_boxA _ rfl (.tmp 1) rfl b rfl ?_)
    | (rw [← HW0.out]; refine wpList_loadA _ rfl (.tmp 2) rfl W.heap.size 0 a rfl (HCV.out _ (Below.refl _ _)).1 ?_))
  refine (QFA.out _ (Below.refl _ _)).mono ?_
  rintro e w1 ⟨qa, rfl, hfa, hb1⟩
  have HA := Lib.hid hb1
  clear hb1
  cases qa with
  | false =>
    clear hfa
    go_wp2_with fail
    refine (QW.out _ HA.out).mono ?_
    rintro e w2 ⟨rfl, hb2⟩
    have HB2 := Lib.hid (below_two4 HB1.out ((below_two4 HA.out hb2)))
    clear hb2
    go_wp2_with fail
    go_ret
    exact ⟨rfl, HB2.out⟩
  | true =>
    have HFA := Lib.hid (hfa rfl)
    clear hfa
    go_wp2_with (refine wpList_loadG _ (by rfl) (.tmp 3) rfl (W.heap.size + 1) 0 b rfl (HCV.out _ HA.out).2 ?_)
    refine (QFB.out _ HA.out).mono ?_
    rintro e w2 ⟨qb, rfl, hfb, hb2⟩
    have HB := Lib.hid (below_two4 HA.out hb2)
    clear hb2
    cases qb with
    | false =>
      clear hfb
      go_wp2_with fail
      refine (QW.out _ HB.out).mono ?_
      rintro e w3 ⟨rfl, hb3⟩
      have HB2 := Lib.hid (below_two4 HB1.out ((below_two4 HB.out hb3)))
      clear hb3
      go_wp2_with fail
      go_ret
      exact ⟨rfl, HB2.out⟩
    | true =>
      have HFB := Lib.hid (hfb rfl)
      clear hfb
      have hpa := few4_len HFA.out.1
      have hpb := few4_len HFB.out.1
      have hra : a.raws.length ≤ 1000000000 := by have := HFA.out.2.2.1; omega
      have hrb : b.raws.length ≤ 1000000000 := by have := HFB.out.2.2.1; omega
      have QAB := Lib.hid (fun (w : World) (h : Below W0.heap.size W0 w) => Same_attrs a b w (HIN.out w h).1 (HIN.out w h).2 hpa hra)
      have QAA := Lib.hid (fun (w : World) (h : Below W0.heap.size W0 w) => Same_attrs a a w (HIN.out w h).1 (HIN.out w h).1 hpa hra)
      have QBA := Lib.hid (fun (w : World) (h : Below W0.heap.size W0 w) => Same_attrs b a w (HIN.out w h).2 (HIN.out w h).1 hpb hrb)
      have RAB := Lib.hid (fun (w : World) (h : Below W0.heap.size W0 w) => RefSame4_any a b w (HIN.out w h).1 (HIN.out w h).2 hpa hra)
      rw [Av.same_self] at QAA
      rw [Av.same_turn] at QBA
      have HS := Lib.hid (fun (w : World) (h : Below W0.heap.size W0 w) => show AvAt w W.heap.size 0 a ∧ AvAt w (W.heap.size + 1) 0 b from HCV.out w h)
      obtain ⟨V, hV⟩ : ∃ V, V = a.same b := ⟨_, rfl⟩
      rw [← hV] at QAB QBA RAB
      have hE := HB.out
      clear hV hpa hpb hra hrb HFA HFB HCV
      cases V
      all_goals
        go_wp2_with fail
        have hD_ := Below.drew hE
        refine wp_region_held_drew (S := fun w' => AvAt w' W.heap.size 0 a ∧ AvAt w' (W.heap.size + 1) 0 b) (by kernel_rfl) (HS.out _ hD_) (fun hHeld => ?_)
        refine wpAnyH_take (i := 0) (v := a.agg) rfl (by kernel_rfl) (by kernel_rfl) (by kernel_rfl) (fun _ _ _ h => h) (Or.inl ⟨by rfl, ?_⟩) (by assumption) ?_
        · intro w hSw; exact load_execA _ rfl rfl hSw.1
        try simp only [List.getElem_toArray, List.getElem_cons_zero, List.getElem_cons_succ, Act.put, List.setIfInBounds_toArray, List.set_cons_zero, List.set_cons_succ]
        refine wpAnyH_take (i := 1) (v := b.agg) rfl (by kernel_rfl) (by kernel_rfl) (by kernel_rfl) (fun _ _ _ h => h) (Or.inl ⟨by rfl, ?_⟩) (by assumption) ?_
        · intro w hSw; exact load_execA _ rfl rfl hSw.2
        try simp only [List.getElem_toArray, List.getElem_cons_zero, List.getElem_cons_succ, Act.put, List.setIfInBounds_toArray, List.set_cons_zero, List.set_cons_succ]
        refine wpAnyH_take (i := 3) (v := a.agg) rfl (by kernel_rfl) (by kernel_rfl) (by kernel_rfl) (fun _ _ _ h => h) (Or.inl ⟨by rfl, ?_⟩) (by assumption) ?_
        · intro w hSw; exact load_execA _ rfl rfl hSw.1
        try simp only [List.getElem_toArray, List.getElem_cons_zero, List.getElem_cons_succ, Act.put, List.setIfInBounds_toArray, List.set_cons_zero, List.set_cons_succ]
        refine wpAnyH_take (i := 4) (v := b.agg) rfl (by kernel_rfl) (by kernel_rfl) (by kernel_rfl) (fun _ _ _ h => h) (Or.inl ⟨by rfl, ?_⟩) (by assumption) ?_
        · intro w hSw; exact load_execA _ rfl rfl hSw.2
        try simp only [List.getElem_toArray, List.getElem_cons_zero, List.getElem_cons_succ, Act.put, List.setIfInBounds_toArray, List.set_cons_zero, List.set_cons_succ]
        refine wpAnyH_ready (rs := [2]) (by kernel_rfl) (by simp) ?_
        refine AllReadyH.cons (o := _) rfl (fun K hK => ?_) AllReadyH.nil
        rw [if_pos (by rfl)]
        go_simp
        go_at_call 19
        refine (QAB.out _ hD_).mono ?_
        rintro e wa ⟨rfl, hg⟩
        have hA_ := below_two4 hD_ hg
        clear hg
        go_wp2_with fail
        refine hK.out _ _ (HS.out _ hA_) (fun hHeld2 => ?_)
        clear hK K hHeld
        have hHeld := hHeld2
        clear hHeld2
        try simp only [List.getElem_toArray, List.getElem_cons_zero, List.getElem_cons_succ, Act.put, List.setIfInBounds_toArray, List.set_cons_zero, List.set_cons_succ]
        refine wpAnyH_ready (rs := [5]) (by kernel_rfl) (by simp) ?_
        refine AllReadyH.cons (o := _) rfl (fun K hK => ?_) AllReadyH.nil
        rw [if_pos (by rfl)]
        go_simp
        go_at_call 16
        refine (RAB.out _ hA_).mono ?_
        rintro e wb ⟨rfl, hg⟩
        have hB_ := below_two4 hA_ hg
        clear hg
        go_wp2_with fail
        refine hK.out _ _ (HS.out _ hB_) (fun hHeld2 => ?_)
        clear hK K hHeld
        have hHeld := hHeld2
        clear hHeld2
        try simp only [List.getElem_toArray, List.getElem_cons_zero, List.getElem_cons_succ, Act.put, List.setIfInBounds_toArray, List.set_cons_zero, List.set_cons_succ]
        refine wpAnyH_take (i := 6) (v := ?_) rfl (by kernel_rfl) (by kernel_rfl) (by kernel_rfl) (fun _ _ _ h => h) (Or.inl ⟨by rfl, ?_⟩) (by assumption) ?_
        rotate_left
        · intro w hSw; (try dsimp only at hSw); obtain ⟨hS1, hS2⟩ := hSw; go_simp; (try with_reducible rfl)
        try simp only [List.getElem_toArray, List.getElem_cons_zero, List.getElem_cons_succ, Act.put, List.setIfInBounds_toArray, List.set_cons_zero, List.set_cons_succ]
        refine wpAnyH_take (i := 7) (v := ?_) rfl (by kernel_rfl) (by kernel_rfl) (by kernel_rfl) (fun _ _ _ h => h) (Or.inl ⟨by rfl, ?_⟩) (by assumption) ?_
        rotate_left
        · intro w hSw; (try dsimp only at hSw); obtain ⟨hS1, hS2⟩ := hSw; go_simp; (try with_reducible rfl)
        try simp only [List.getElem_toArray, List.getElem_cons_zero, List.getElem_cons_succ, Act.put, List.setIfInBounds_toArray, List.set_cons_zero, List.set_cons_succ]
        refine wpAnyH_take (i := 8) (v := a.agg) rfl (by kernel_rfl) (by kernel_rfl) (by kernel_rfl) (fun _ _ _ h => h) (Or.inl ⟨by rfl, ?_⟩) (by assumption) ?_
        · intro w hSw; exact load_execA _ rfl rfl hSw.1
        try simp only [List.getElem_toArray, List.getElem_cons_zero, List.getElem_cons_succ, Act.put, List.setIfInBounds_toArray, List.set_cons_zero, List.set_cons_succ]
        refine wpAnyH_take (i := 9) (v := a.agg) rfl (by kernel_rfl) (by kernel_rfl) (by kernel_rfl) (fun _ _ _ h => h) (Or.inl ⟨by rfl, ?_⟩) (by assumption) ?_
        · intro w hSw; exact load_execA _ rfl rfl hSw.1
        try simp only [List.getElem_toArray, List.getElem_cons_zero, List.getElem_cons_succ, Act.put, List.setIfInBounds_toArray, List.set_cons_zero, List.set_cons_succ]
        refine wpAnyH_ready (rs := [10]) (by kernel_rfl) (by simp) ?_
        refine AllReadyH.cons (o := _) rfl (fun K hK => ?_) AllReadyH.nil
        rw [if_pos (by rfl)]
        go_simp
        go_at_call 19
        refine (QAA.out _ hB_).mono ?_
        rintro e wc ⟨rfl, hg⟩
        have hC_ := below_two4 hB_ hg
        clear hg
        go_wp2_with fail
        refine hK.out _ _ (HS.out _ hC_) (fun hHeld2 => ?_)
        clear hK K hHeld
        have hHeld := hHeld2
        clear hHeld2
        try simp only [List.getElem_toArray, List.getElem_cons_zero, List.getElem_cons_succ, Act.put, List.setIfInBounds_toArray, List.set_cons_zero, List.set_cons_succ]
        refine wpAnyH_take (i := 11) (v := ?_) rfl (by kernel_rfl) (by kernel_rfl) (by kernel_rfl) (fun _ _ _ h => h) (Or.inl ⟨by rfl, ?_⟩) (by assumption) ?_
        rotate_left
        · intro w hSw; (try dsimp only at hSw); obtain ⟨hS1, hS2⟩ := hSw; go_simp; (try with_reducible rfl)
        try simp only [List.getElem_toArray, List.getElem_cons_zero, List.getElem_cons_succ, Act.put, List.setIfInBounds_toArray, List.set_cons_zero, List.set_cons_succ]
        refine wpAnyH_take (i := 12) (v := ?_) rfl (by kernel_rfl) (by kernel_rfl) (by kernel_rfl) (fun _ _ _ h => h) (Or.inl ⟨by rfl, ?_⟩) (by assumption) ?_
        rotate_left
        · intro w hSw; (try dsimp only at hSw); obtain ⟨hS1, hS2⟩ := hSw; go_simp; (try with_reducible rfl)
        try simp only [List.getElem_toArray, List.getElem_cons_zero, List.getElem_cons_succ, Act.put, List.setIfInBounds_toArray, List.set_cons_zero, List.set_cons_succ]
        refine wpAnyH_take (i := 13) (v := b.agg) rfl (by kernel_rfl) (by kernel_rfl) (by kernel_rfl) (fun _ _ _ h => h) (Or.inl ⟨by rfl, ?_⟩) (by assumption) ?_
        · intro w hSw; exact load_execA _ rfl rfl hSw.2
        try simp only [List.getElem_toArray, List.getElem_cons_zero, List.getElem_cons_succ, Act.put, List.setIfInBounds_toArray, List.set_cons_zero, List.set_cons_succ]
        refine wpAnyH_take (i := 14) (v := a.agg) rfl (by kernel_rfl) (by kernel_rfl) (by kernel_rfl) (fun _ _ _ h => h) (Or.inl ⟨by rfl, ?_⟩) (by assumption) ?_
        · intro w hSw; exact load_execA _ rfl rfl hSw.1
        try simp only [List.getElem_toArray, List.getElem_cons_zero, List.getElem_cons_succ, Act.put, List.setIfInBounds_toArray, List.set_cons_zero, List.set_cons_succ]
        refine wpAnyH_take (i := 16) (v := a.agg) rfl (by kernel_rfl) (by kernel_rfl) (by kernel_rfl) (fun _ _ _ h => h) (Or.inl ⟨by rfl, ?_⟩) (by assumption) ?_
        · intro w hSw; exact load_execA _ rfl rfl hSw.1
        try simp only [List.getElem_toArray, List.getElem_cons_zero, List.getElem_cons_succ, Act.put, List.setIfInBounds_toArray, List.set_cons_zero, List.set_cons_succ]
        refine wpAnyH_take (i := 17) (v := b.agg) rfl (by kernel_rfl) (by kernel_rfl) (by kernel_rfl) (fun _ _ _ h => h) (Or.inl ⟨by rfl, ?_⟩) (by assumption) ?_
        · intro w hSw; exact load_execA _ rfl rfl hSw.2
        try simp only [List.getElem_toArray, List.getElem_cons_zero, List.getElem_cons_succ, Act.put, List.setIfInBounds_toArray, List.set_cons_zero, List.set_cons_succ]
        refine wpAnyH_ready (rs := [15]) (by kernel_rfl) (by simp) ?_
        refine AllReadyH.cons (o := _) rfl (fun K hK => ?_) AllReadyH.nil
        rw [if_pos (by rfl)]
        go_simp
        go_at_call 19
        refine (QBA.out _ hC_).mono ?_
        rintro e wd ⟨rfl, hg⟩
        have hE_ := below_two4 hC_ hg
        clear hg
        go_wp2_with fail
        refine hK.out _ _ (HS.out _ hE_) (fun hHeld2 => ?_)
        clear hK K hHeld
        have hHeld := hHeld2
        clear hHeld2
        try simp only [List.getElem_toArray, List.getElem_cons_zero, List.getElem_cons_succ, Act.put, List.setIfInBounds_toArray, List.set_cons_zero, List.set_cons_succ]
        refine wpAnyH_ready (rs := [18]) (by kernel_rfl) (by simp) ?_
        refine AllReadyH.cons (o := _) rfl (fun K hK => ?_) AllReadyH.nil
        rw [if_pos (by rfl)]
        go_simp
        go_at_call 16
        refine (RAB.out _ hE_).mono ?_
        rintro e we ⟨rfl, hg⟩
        have hF_ := below_two4 hE_ hg
        clear hg
        go_wp2_with fail
        refine hK.out _ _ (HS.out _ hF_) (fun hHeld2 => ?_)
        clear hK K hHeld
        have hHeld := hHeld2
        clear hHeld2
        try simp only [List.getElem_toArray, List.getElem_cons_zero, List.getElem_cons_succ, Act.put, List.setIfInBounds_toArray, List.set_cons_zero, List.set_cons_succ]
        refine wpAnyH_take (i := 19) (v := ?_) rfl (by kernel_rfl) (by kernel_rfl) (by kernel_rfl) (fun _ _ _ h => h) (Or.inl ⟨by rfl, ?_⟩) (by assumption) ?_
        rotate_left
        · intro w hSw; (try dsimp only at hSw); obtain ⟨hS1, hS2⟩ := hSw; go_simp; (try with_reducible rfl)
        try simp only [List.getElem_toArray, List.getElem_cons_zero, List.getElem_cons_succ, Act.put, List.setIfInBounds_toArray, List.set_cons_zero, List.set_cons_succ]
        refine wpAnyH_take (i := 20) (v := ?_) rfl (by kernel_rfl) (by kernel_rfl) (by kernel_rfl) (fun _ _ _ h => h) (Or.inl ⟨by rfl, ?_⟩) (by assumption) ?_
        rotate_left
        · intro w hSw; (try dsimp only at hSw); obtain ⟨hS1, hS2⟩ := hSw; go_simp; (try with_reducible rfl)
        try simp only [List.getElem_toArray, List.getElem_cons_zero, List.getElem_cons_succ, Act.put, List.setIfInBounds_toArray, List.set_cons_zero, List.set_cons_succ]
        refine wpAnyH_take (i := 21) (v := ?_) rfl (by kernel_rfl) (by kernel_rfl) (by kernel_rfl) (fun _ _ _ h => h) (Or.inl ⟨by rfl, ?_⟩) (by assumption) ?_
        rotate_left
        · intro w hSw; (try dsimp only at hSw); obtain ⟨hS1, hS2⟩ := hSw; go_simp; (try with_reducible rfl)
        try simp only [List.getElem_toArray, List.getElem_cons_zero, List.getElem_cons_succ, Act.put, List.setIfInBounds_toArray, List.set_cons_zero, List.set_cons_succ]
        refine wpAnyH_ready (rs := [22]) (by kernel_rfl) (by simp) ?_
        refine AllReadyH.cons (o := _) rfl (fun K hK => ?_) AllReadyH.nil
        rw [if_pos (by rfl)]
        go_simp
        go_at_call 9
        refine (QW.out _ hF_).mono ?_
        rintro e wf ⟨rfl, hg⟩
        have hG_ := below_two4 hF_ hg
        clear hg
        go_wp2_with fail
        refine hK.out _ _ (HS.out _ hG_) (fun hHeld2 => ?_)
        clear hK K hHeld
        have hHeld := hHeld2
        clear hHeld2
        try simp only [List.getElem_toArray, List.getElem_cons_zero, List.getElem_cons_succ, Act.put, List.setIfInBounds_toArray, List.set_cons_zero, List.set_cons_succ]
        refine wpAnyH_take (i := 23) (v := ?_) rfl (by kernel_rfl) (by kernel_rfl) (by kernel_rfl) (fun _ _ _ h => h) (Or.inl ⟨by rfl, ?_⟩) (by assumption) ?_
        rotate_left
        · intro w hSw; (try dsimp only at hSw); obtain ⟨hS1, hS2⟩ := hSw; go_simp; (try with_reducible rfl)
        try simp only [List.getElem_toArray, List.getElem_cons_zero, List.getElem_cons_succ, Act.put, List.setIfInBounds_toArray, List.set_cons_zero, List.set_cons_succ]
        refine wpAnyH_take (i := 24) (v := ?_) rfl (by kernel_rfl) (by kernel_rfl) (by kernel_rfl) (fun _ _ _ h => h) (Or.inl ⟨by rfl, ?_⟩) (by assumption) ?_
        rotate_left
        · intro w hSw; (try dsimp only at hSw); obtain ⟨hS1, hS2⟩ := hSw; go_simp; (try with_reducible rfl)
        try simp only [List.getElem_toArray, List.getElem_cons_zero, List.getElem_cons_succ, Act.put, List.setIfInBounds_toArray, List.set_cons_zero, List.set_cons_succ]
        clear hHeld hA_ hB_ hC_ hD_ hE_ hF_
        refine wpAnyH_done (by kernel_rfl) ?_ _
        have hZ_ := HB1.out.trans (hG_.mono HB1.out.size)
        clear hG_ hE
        go_wp2_with fail
        go_ret
        exact ⟨rfl, hZ_⟩
end Go.Proofs.YtoccnpmjdgdhoaaDoor

/-
  Texts of this seat, put together: NarF4, SayN4, Copied3, Text4, Has, RefFlat3.
-/
import Derived.Test.YtkpbldhkoobnaaaDoorMg15
import Derived.Test.YtkpbldhkoobnaaaDoorMg23
import Derived.Test.YtkpbldhkoobnaaaDoorMg1
/-
  What is put narrow is read with a path that counts as long: as Lean functions.
-/
namespace Go.Proofs.YtkpbldhkoobnaaaDoor
set_option linter.unusedVariables false
set_option linter.unusedSimpArgs false
open Go.RowKit

theorem nar_small {x : Nat} (h : ¬ 65535 < x) : nar false x = x := by unfold nar; rw [if_neg (by decide), if_neg h]
theorem bigs_each {z : List Nat} (h : bigs z = false) : ∀ x ∈ z, ¬ 65535 < x := by
  intro x hx hlt
  unfold bigs at h
  rw [List.any_eq_false] at h
  exact h x hx (decide_eq_true hlt)
theorem narS_small {path : List Sg} (h : bigs (flatN path) = false) : path.map (narS false) = path.map Sg.abs := by
  refine List.map_congr_left fun s hs => ?_
  unfold narS Sg.abs
  refine congrArg (Prod.mk _) ?_
  have : ∀ x ∈ s.nums, nar false x = x := fun x hx => nar_small (bigs_each h x (List.mem_flatMap.2 ⟨s, hs, hx⟩))
  calc s.nums.map (nar false) = s.nums.map id := List.map_congr_left this
    _ = s.nums := List.map_id _
theorem right_nar {path : List Sg} (wide : Bool) (h : rightB path = true) : rightA (path.map (narS wide)) = true := by
  unfold rightB at h
  unfold rightA totA
  simp only [Bool.and_eq_true, decide_eq_true_eq, List.all_eq_true, List.length_map] at h ⊢
  obtain ⟨h1, h2, h3⟩ := h
  refine ⟨h1, ?_, ?_⟩
  · intro x hx
    obtain ⟨s, hs, rfl⟩ := List.mem_map.1 hx
    have := h2 s hs
    unfold okS at this
    unfold okA narS
    simpa using this
  · have e : ((path.map (narS wide)).map fun s => s.2.length).sum = totN path := by
      unfold totN
      rw [List.map_map]
      refine congrArg List.sum (List.map_congr_left fun s _ => ?_)
      simp [narS]
    rw [e]; exact h3
theorem merge_same {path : List Sg} (h : rightB path = true) (hne : path ≠ []) : mergeL (path.map (narS false)) (path.map Sg.abs) = path.map Sg.abs := by
  have hc : cntA (path.map (narS false)) = cntA (path.map Sg.abs) := by rw [cnt_nar, cnt_abs]
  have hr : rightA (path.map Sg.abs) = true := by rw [← right_abs]; exact h
  unfold mergeL
  rw [if_neg]
  · rw [hc, Nat.sub_self, begL_zero, List.nil_append, if_pos hr]
  · rintro (q | q | q | q)
    · omega
    · exact hne (by simpa using q)
    · rw [right_nar false h] at q; cases q
    · rw [hr] at q; cases q
theorem totA_nar (path : List Sg) (wide : Bool) : totA (path.map (narS wide)) = totN path := by
  unfold totA totN
  rw [List.map_map]
  refine congrArg List.sum (List.map_congr_left fun s _ => ?_)
  simp [narS]
theorem merge_nil (a : List (Int × List Nat)) : mergeL a [] = a := by
  unfold mergeL
  rw [if_pos (.inr (.inl rfl))]
theorem bigs_ne {path : List Sg} (h : bigs (flatN path) = true) : path ≠ [] := by rintro rfl; cases h
/-- What narrow attributes are, read. -/
def narR (org next sa ad : Nat) (path : List Sg) (med pref : Int) (atomic has : Bool) (comms : List Nat) (raws : List Rw) (ks : List Nat) : Rs :=
  ⟨org, path.map (narS false), next, med, pref, atomic, has, nar false sa, ad, comms, raws.map Rw.abs, ks, if (!false && bigs (flatN path)) = true then path.map Sg.abs else [], if (!false && bigB sa) = true then aggrB true sa ad else []⟩
theorem widen_nar (org next sa ad : Nat) (path : List Sg) (med pref : Int) (atomic has : Bool) (comms : List Nat) (raws : List Rw) (ks : List Nat) (hr : rightB path = true) (hsa : sa < 4294967296) (had : ad < 4294967296) (hha : has = false → sa = 0 ∧ ad = 0) :
    ∃ P A D W G, widenF false (narR org next sa ad path med pref atomic has comms raws ks) = ⟨org, P, next, med, pref, atomic, has, A, D, comms, raws.map Rw.abs, ks, W, G⟩ ∧ (cntA P = cntN path ∧ P.length = path.length ∧ totA P = totN path) ∧
      (bigs (flatN path) = false → sa ≤ 65535 → sa ≠ 23456 → P = path.map Sg.abs ∧ A = sa ∧ D = ad) ∧
      (bigs (flatN path) = true → has = false → P = path.map Sg.abs ∧ A = sa ∧ D = ad) := by
  unfold narR
  by_cases h1 : has = true ∧ nar false sa ≠ 23456
  · refine ⟨_, _, _, _, _, if_pos (.inr h1), ⟨cnt_nar false path, by simp, totA_nar path false⟩, fun hb h2 h3 => ⟨narS_small hb, nar_small (by omega), rfl⟩, fun _ h => by rw [h1.1] at h; cases h⟩
  · have hm : mergeL (path.map (narS false)) (if (!false && bigs (flatN path)) = true then path.map Sg.abs else []) = if bigs (flatN path) = true then path.map Sg.abs else path.map (narS false) := by
      cases hb : bigs (flatN path) with
      | true => simp only [Bool.not_false, Bool.and_self, if_true]; exact merge_same hr (bigs_ne hb)
      | false => simp only [Bool.not_false, Bool.and_false, Bool.false_eq_true, if_false]; exact merge_nil _
    have hc : cntA (if bigs (flatN path) = true then path.map Sg.abs else path.map (narS false)) = cntN path ∧ (if bigs (flatN path) = true then path.map Sg.abs else path.map (narS false)).length = path.length ∧ totA (if bigs (flatN path) = true then path.map Sg.abs else path.map (narS false)) = totN path := by
      split
      · exact ⟨(cnt_abs path).symm, by simp, (tot_abs path).symm⟩
      · exact ⟨cnt_nar false path, by simp, totA_nar path false⟩
    by_cases h2 : has = true ∧ (if (!false && bigB sa) = true then aggrB true sa ad else []).length = 8
    · refine ⟨_, _, _, _, _, (if_neg (by rintro (q | q); cases q; exact h1 q)).trans (if_pos h2), ?_, fun hb h3 h4 => ?_, fun _ h => by rw [h2.1] at h; cases h⟩
      · rw [hm]; exact hc
      · exact absurd ⟨h2.1, by rw [nar_small (by omega)]; exact h4⟩ h1
    · refine ⟨_, _, _, _, _, (if_neg (by rintro (q | q); cases q; exact h1 q)).trans (if_neg h2), ?_, fun hb h3 h4 => ?_, fun hb h => ?_⟩
      · rw [hm]; exact hc
      · rw [hm, if_neg (by rw [hb]; decide)]
        exact ⟨narS_small hb, nar_small (by omega), rfl⟩
      · rw [hm, if_pos hb]
        obtain ⟨q1, q2⟩ := hha h
        exact ⟨rfl, by rw [q1]; exact nar_small (x := 0) (by omega), by rw [q2]⟩
end Go.Proofs.YtkpbldhkoobnaaaDoor

/-
  What an aggregator's attribute says in narrow numbers is taken in.
-/
namespace Go.Proofs.YtkpbldhkoobnaaaDoor
set_option linter.unusedVariables false
set_option linter.unusedSimpArgs false
open Go.RowKit

theorem rdTake_two (l : List UInt8) (hl : 2 ≤ l.length) : rdTake l false 2 = (l.take 2, l.drop 2, false) := by
  unfold rdTake
  rw [if_pos ⟨by omega, by omega⟩]
  rfl
set_option maxHeartbeats 3200000 in
theorem aggr6_any (A : Option Addr) (c : Nat) (l : List UInt8) (w : World) (h : Bytes w A l) (hc : l.length ≤ c) (hm : c ≤ maxLen) (hl : l.length = 6) :
    Calls Tryd.prog 84 #[.slice A l.length c, .bool false] w fun e w' => e = .returned (.tuple #[.int .u32 (num (l.take 2) : Int), .int .u32 (num (l.drop 2) : Int)]) ∧ Below w.heap.size w w' := by
  have QN := Lib.hid (New_any A l.length c l rfl w h hc hm)
  have HL := Lib.hid hl
  clear h hc hm hl
  go_enter Tryd.func84, Tryd.ntmps84
  go_wp2_with fail
  refine QN.out.mono ?_
  rintro e w1 ⟨rfl, hr1, hb1⟩
  have Q1 := Lib.hid (U16_any w.heap.size w.heap.size l false w1 hr1)
  rw [rdTake_two l (by have := HL.out; omega)] at Q1
  have HB1 := Lib.hid hb1
  clear hr1 hb1
  go_wp2_with fail
  refine Q1.out.mono ?_
  rintro e w2 ⟨rfl, hr2, hg2⟩
  have Q2 := Lib.hid (U32_any w.heap.size w.heap.size (l.drop 2) false w2 hr2)
  rw [rdTake_all (l.drop 2) 4 (by have := HL.out; simp; omega)] at Q2
  have HB2 := Lib.hid (HB1.out.grown hg2 HB1.out.size (fun k hk => by cases hk; exact Nat.le_refl _))
  have hx1 : num (l.take 2) ≤ 4294967295 := by have := num_lt 2 (l.take 2) (by rw [List.length_take]; have := HL.out; omega); omega
  obtain ⟨x, hx⟩ : ∃ x, x = num (l.take 2) := ⟨_, rfl⟩
  obtain ⟨y, hy⟩ : ∃ y, y = num (l.drop 2) := ⟨_, rfl⟩
  have HX := Lib.hid hx; have HY := Lib.hid hy
  simp only [← hy] at Q2
  rw [← hx] at hx1
  simp only [← hx]
  clear hr2 hg2 hx hy
  go_wp2_with fail
  refine Q2.out.mono ?_
  rintro e w3 ⟨rfl, hr3, hg3⟩
  have HB3 := Lib.hid (HB2.out.grown hg3 HB2.out.size (fun k hk => by cases hk; exact Nat.le_refl _))
  clear hr3 hg3
  go_wp2_with fail
  go_ret2
  exact ⟨by rw [← HX.out, ← HY.out]; rfl, HB3.out⟩
set_option maxHeartbeats 6400000 in
theorem say7n_any (gx B' : Nat) (vo vp vn vm vf va vh vs vd vc vr vk vw vg : Value) (f : Int) (A A2 : Option Addr) (c n2 c2 : Nat) (l : List UInt8) (w : World) (hx : Blk w gx 75 [.bool false, vo, vp, vn, vm, vf, va, vh, vs, vd, vc, vr, vk, vw, vg]) (ho : Own w B' 5 (.slice A l.length c) l) (hc : l.length ≤ c) (hm : c ≤ maxLen) (hv : l.length = 6) :
    Calls Tryd.prog 82 #[.pointer (some ⟨gx, 0, none⟩), .agg #[.int .i64 f, .int .i64 7, .slice A l.length c, .slice A2 n2 c2]] w (SayPost w gx [.bool false, vo, vp, vn, vm, vf, va, .bool true, .int .u32 (num (l.take 2) : Int), .int .u32 (num (l.drop 2) : Int), vc, vr, vk, vw, vg]) := by
  obtain ⟨W0, hW0⟩ : ∃ W0, W0 = (w.alloc (.cells #[.int .i64 f, .int .i64 7, .slice A l.length c, .slice A2 n2 c2] 80)).alloc (.cells #[.int .i64 0, .int .i64 0, .slice none 0 0] 46) := ⟨_, rfl⟩
  have hb1 : Below w.heap.size w W0 := by rw [hW0]; exact ((Below.refl _ _).alloc (Nat.le_refl _) _).alloc (by simp) _
  have kp : Blk W0 w.heap.size 80 [.int .i64 f, .int .i64 7, .slice A l.length c, .slice A2 n2 c2] := by
    rw [hW0]
    exact (Blk.new w _ _).below ((Below.refl _ _).alloc (Nat.le_refl _) _) (by simp)
  have p2 : W0.cell? ⟨w.heap.size, 2, none⟩ = some (.slice A l.length c) := kp.cell 2
  have QN := Lib.hid (New_any A l.length c l rfl W0 (ho.bytes.below hb1) hc hm)
  have HOW := Lib.hid (fun (w1 : World) (hb : Below W0.heap.size W0 w1) => Own.below (Own.below ho hb1) hb)
  have HST := Lib.hid (fun (w1 : World) (hr : Rd w1 W0.heap.size W0.heap.size l false) (hb : Below W0.heap.size W0 w1) => SaySt.start hx hW0 hr hb)
  have hz : W0.heap.size = w.heap.size + 2 := by rw [hW0]; simp
  have HZ := Lib.hid hz
  have hsx : ¬ w.heap.size = gx := by have := hx.lt; omega
  have HKP := Lib.hid (fun (w1 : World) (hb : Below W0.heap.size W0 w1) => kp.below hb kp.lt)
  have HW0 := Lib.hid hW0; have HV := Lib.hid hv; have HLT := Lib.hid hx.lt; have HCM := Lib.hid (And.intro hc hm)
  clear hb1 kp hW0 hz hx ho hc hm hv
  go_enter Tryd.func82, Tryd.ntmps82
  go_wp2_with (rw [← HW0.out])
  refine QN.out.mono ?_
  rintro e w1 ⟨rfl, hr1, hb1⟩
  have S1 := Lib.hid (HST.out w1 hr1 hb1)
  have kp1 := HKP.out w1 hb1
  have p1 : w1.cell? ⟨w.heap.size, 1, none⟩ = some (.int .i64 7) := kp1.cell 1
  rw [HZ.out]
  have p22 : w1.cell? ⟨w.heap.size, 2, none⟩ = some (.slice A l.length c) := kp1.cell 2
  have x0 : w1.cell? ⟨gx, 0, none⟩ = some (.bool false) := S1.out.blk.cell 0
  have x7 : w1.cell? ⟨gx, 7, none⟩ = some vh := S1.out.blk.cell 7
  have y7 := S1.out.blk.free 7
  obtain ⟨W1, hW1⟩ : ∃ W, W = w1.setCell ⟨gx, 7, none⟩ (.bool true) := ⟨_, rfl⟩
  have HO1 := Lib.hid (show Own W1 B' 5 (.slice A l.length c) l from by rw [hW1]; exact row_keep (HOW.out w1 hb1) S1.out.blk (by decide) (grown_setCell (grown_refl _ (some gx)) 7 (.bool true)))
  have SG := Lib.hid (show SayG w gx [.bool false, vo, vp, vn, vm, vf, va, .bool true, vs, vd, vc, vr, vk, vw, vg] W1 from by rw [hW1]; exact S1.out.g.set 7 (.bool true))
  have Q := Lib.hid (aggr6_any A c l W1.drew HO1.out.bytes.drew HCM.out.1 HCM.out.2 HV.out)
  have SG2 := Lib.hid (fun (W : World) (q : Below W1.drew.heap.size W1.drew W) => SG.out.later (below_undrew q))
  have HW1 := Lib.hid hW1
  obtain ⟨x, hx⟩ : ∃ x, x = num (l.take 2) := ⟨_, rfl⟩
  obtain ⟨y, hy⟩ : ∃ y, y = num (l.drop 2) := ⟨_, rfl⟩
  have HX := Lib.hid hx; have HY := Lib.hid hy
  rw [← hx, ← hy] at Q
  clear hr1 hb1 p2 QN HST HW0 HKP kp1 hW1 HOW hx hy
  go_wp2_with fail
  rw [HW1.out] at Q SG2
  go_region_law ((try go_simp); go_at_call 84; refine Q.out.mono ?_; rintro e w2 ⟨rfl, hb2⟩; have S2 := Lib.hid (SG2.out _ hb2); have x8 : w2.cell? ⟨gx, 8, none⟩ = some vs := S2.out.blk.cell 8; have y8 := S2.out.blk.free 8; have x9 : w2.cell? ⟨gx, 9, none⟩ = some vd := S2.out.blk.cell 9; have y9 := S2.out.blk.free 9; clear hb2)
  all_goals
    have S3 := Lib.hid ((S2.out.set 8 (.int .u32 (x : Int))).set 9 (.int .u32 (y : Int)))
    have kr := S3.out.res
    have c3 := cells3 kr
    have f3 := free3 kr
    have r3 := cells3 (kr.set3 (.int .i64 0) (.int .i64 0) (.slice none 0 0))
    have HE := Lib.hid S3.out.fin
    have hlt := HLT.out
    have hne1 : ¬ gx = w.heap.size + 1 := by omega
    have hne2 : ¬ w.heap.size + 1 = gx := by omega
    clear kr hlt
    go_wp2_with fail
    refine bodyPost_ret (v := fault0) (by simp [results, Tryd.results82, go_sem, fault0, r3]) rfl ?_
    rw [← HX.out, ← HY.out]
    exact ⟨rfl, HE.out⟩
set_option maxHeartbeats 1600000 in
theorem take7n_step (B gx f B' : Nat) (S T : Rs) (A A2 : Option Addr) (c n2 c2 : Nat) (l r : List UInt8) (b : Bool) (W : World) (h : RdI B gx false S W) (ht : TabK W) (ho : Own W B' 5 (.slice A l.length c) l) (hc : l.length ≤ c) (hm : c ≤ maxLen) (hl : l.length ≤ 1000000) (hs : stepF false S ⟨f, 7, l, r, b⟩ = some T) :
    Calls Tryd.prog 61 #[.pointer (some ⟨gx, 0, none⟩), .agg #[.int .i64 (f : Int), .int .i64 (7 : Int), .slice A l.length c, .slice A2 n2 c2]] W (TakePost4 B gx false S T W) := by
  obtain ⟨hk, ⟨hf, hn⟩, hT⟩ := inv7 hs
  subst hT
  have hn8 : l.length = 6 := by simpa using hn
  obtain ⟨pv, cv, rv, kv, wv, av, h1, h2⟩ := h
  refine take_known gx false _ f 192 7 192 6 8 0 A A2 c n2 c2 l W _ h1 ht rfl (by decide) rfl hf (fun W1 => by rw [hn8]; exact fits_narrow _ _ 8 _ 6 W1 rfl (by decide)) (fun W2 W3 q kr hg => rdI_fault q kr (by have := h1.lt; omega) hg) (fun W1 hb hz => ?_)
  refine (say7n_any gx B' _ _ _ _ _ _ _ _ _ _ _ _ _ _ (f : Int) A A2 c n2 c2 l W1 (h1.below hb h1.lt) (Own.below ho hb) hc hm hn8).mono fun e W2 hp => ?_
  obtain ⟨rfl, hb2, hg2⟩ := hp
  have h3 := rows_keep (h2.below hb) (h1.below hb h1.lt) hg2
  refine ⟨rfl, hg2, pv, cv, rv, kv, wv, av, ?_, ⟨h3.path, h3.comms, h3.raws, h3.kinds, h3.wpath, h3.aggr, h3.cnil⟩⟩
  rw [show l.length - 4 = 2 by omega]
  exact hb2
/-- All kinds, of narrow numbers. -/
theorem steps_nar (B : Nat) : Steps (fun _ => true) B false := by
  intro gx f k S T A A2 c n2 c2 B' v r b W _ hB hB2 hI ht ho hc hm hl hs h8
  have hy := ho.bytes
  by_cases hn : (lookN (k : Int)).isNone = true
  · exact takeU_step B gx f k B' false S T A A2 c n2 c2 v r b W hB hB2 hI ht ho hc hm hn hs
  · have hk : k = 1 ∨ k = 2 ∨ k = 3 ∨ k = 4 ∨ k = 5 ∨ k = 6 ∨ k = 7 ∨ k = 8 ∨ k = 17 ∨ k = 18 := by
      apply Decidable.byContradiction
      intro hno
      apply hn
      rw [look_none (k := (k : Int))]
      · rfl
      · intro i x hi hx e
        rcases (show i = 0 ∨ i = 1 ∨ i = 2 ∨ i = 3 ∨ i = 4 ∨ i = 5 ∨ i = 6 ∨ i = 7 ∨ i = 8 ∨ i = 9 by omega) with rfl | rfl | rfl | rfl | rfl | rfl | rfl | rfl | rfl | rfl <;> (simp [looksL] at hx; subst hx; simp at e; omega)
    rcases hk with rfl | rfl | rfl | rfl | rfl | rfl | rfl | rfl | rfl | rfl
    · exact (take1_step B gx f false S T A A2 c n2 c2 v r b W hI ht hy hc hm hl hs).mono fun e W' h => h.all hB hB2
    · exact (take2_step B gx f false S T A A2 c n2 c2 v r b W hI ht hy hc hm hl hs).mono fun e W' h => h.all hB hB2
    · exact (take3_step B gx f false S T A A2 c n2 c2 v r b W hI ht hy hc hm hl hs).mono fun e W' h => h.all hB hB2
    · exact (take4_step B gx f false S T A A2 c n2 c2 v r b W hI ht hy hc hm hl hs).mono fun e W' h => h.all hB hB2
    · exact (take5_step B gx f false S T A A2 c n2 c2 v r b W hI ht hy hc hm hl hs).mono fun e W' h => h.all hB hB2
    · exact (take6_step B gx f false S T A A2 c n2 c2 v r b W hI ht hy hc hm hl hs).mono fun e W' h => h.all hB hB2
    · exact (take7n_step B gx f B' S T A A2 c n2 c2 v r b W hI ht ho hc hm hl hs).mono fun e W' h => h.all hB hB2
    · exact (take8_step B gx f false S T A A2 c n2 c2 v r b W hI ht hy hc hm hl hs (h8 rfl)).mono fun e W' h => h.all hB hB2
    · exact (take17_step B gx f false S T A A2 c n2 c2 v r b W hI ht hy hc hm hl hs).mono fun e W' h => h.all hB hB2
    · exact (take18_step B gx f B' false S T A A2 c n2 c2 v r b W hI ht ho hc hm hl hs).mono fun e W' h => h.all hB hB2
end Go.Proofs.YtkpbldhkoobnaaaDoor

/-
  A path made anew, segment by segment.
-/
namespace Go.Proofs.YtkpbldhkoobnaaaDoor
set_option linter.unusedVariables false
set_option linter.unusedSimpArgs false
open Go.RowKit

/-- What the loop holds. -/
def CopyRel (w : World) (L : List Sg) (v i : Value) (wr : World) : Prop :=
  Below w.heap.size w wr ∧ ∃ (M : List Sg) (H j : Nat), j ≤ L.length ∧ i = .int .i64 (j : Int) ∧ OwnSegs wr w.heap.size H v M ∧ w.heap.size ≤ H ∧ H ≤ wr.heap.size ∧ Hid (M.map Sg.abs = (L.take j).map Sg.abs)
/-- What a call leaves that returns a path of its own, of which it may be told that it is so. -/
def RetOwn (w : World) (r : List (Int × List Nat)) (e : Ending) (w' : World) : Prop :=
  ∃ (M : List Sg) (H : Nat) (A : Option Addr) (c : Nat), e = .returned (.slice A M.length c) ∧ M.map Sg.abs = r ∧ OwnSegs w' w.heap.size H (.slice A M.length c) M ∧ H ≤ w'.heap.size ∧ Below w.heap.size w w'

set_option maxRecDepth 100000 in
set_option maxHeartbeats 6400000 in
theorem Copied_any (A : Option Addr) (c : Nat) (L : List Sg) (w : World) (h : Segs w w.heap.size A L) (ht : totN L ≤ 1000000000) (hL : L.length ≤ 2000000) :
    Calls Tryd.prog 98 #[.slice A L.length c, .func (.func 99) #[] #[]] w (RetOwn w (L.map Sg.abs)) := by
  have HL := Lib.hid h; clear h
  go_enter Tryd.func98, Tryd.ntmps98
  go_wp2_with fail
  go_loopw [5, 10] (fun v i wr => CopyRel w L v i wr) (fun _ i _ => L.length - (intOf i).toNat)
  case atStart => exact ⟨Below.refl _ _, [], w.heap.size, 0, by omega, rfl, OwnSegs.nil _ _ _, Nat.le_refl _, Nat.le_refl _, Lib.hid rfl⟩
  case round =>
    obtain ⟨hbr, M, H, j, hj, rfl, hown, hH, hH2, hab⟩ := hrel
    obtain ⟨wo, rfl⟩ : ∃ x : World, x = wr := ⟨wr, rfl⟩
    by_cases hlt : j < L.length
    · obtain ⟨s, hs⟩ : ∃ s, L[j]? = some s := ⟨_, List.getElem?_eq_getElem hlt⟩
      obtain ⟨b, off, rfl, hb, k1, k2, hok⟩ := (HL.out.below hbr (Nat.le_refl _)).at hs
      have HLT := Lib.hid hlt
      have hsl := nums_le hs
      have HFIT := Lib.hid (show Sg.Fit s from hok.2.2.2)
      have hml : M.length = j := by have := congrArg List.length hab.out; simp at this; omega
      have HML := Lib.hid hml
      have HAB := Lib.hid (show (L.take (j + 1)).map Sg.abs = M.map Sg.abs ++ [s.abs] by
        obtain ⟨hj9, e9⟩ := List.getElem?_eq_some_iff.1 hs
        rw [hab.out, List.take_succ_eq_append_getElem hj9, List.map_append, e9]
        rfl)
      have hbA := (Below.refl wo.heap.size wo).alloc (Nat.le_refl _) (.cells #[.int .i64 s.kind, .slice s.adr s.nums.length s.cap] 87)
      have hA1 : Sg.Ok (wo.alloc (.cells #[.int .i64 s.kind, .slice s.adr s.nums.length s.cap] 87)) (wo.alloc (.cells #[.int .i64 s.kind, .slice s.adr s.nums.length s.cap] 87)).heap.size s := (hok.below hbA hbr.size).lift (by simp; have := hbr.size; omega)
      have QO := Lib.hid (own_any s _ hA1 (by omega))
      have HS1 := Lib.hid (hown.below hbA)
      have HBR1 := Lib.hid (hbr.alloc hbr.size (.cells #[.int .i64 s.kind, .slice s.adr s.nums.length s.cap] 87))
      have cb := cells2 (Blk.new wo 87 [.int .i64 s.kind, .slice s.adr s.nums.length s.cap])
      have hjb : (j : Int) ≤ 2000000 := by omega
      have hi0 : (0 : Int) ≤ (j : Int) := by omega
      have hi1 : (j : Int) < (L.length : Int) := by omega
      clear hok hA1 hbA hown hab hs hlt hml
      go_wp2_with fail
      refine QO.out.mono ?_
      rintro e w2 ⟨A2, c2, rfl, f1, f2, ho2, hb2⟩
      have HS2 := Lib.hid (HS1.out.below hb2)
      have HO2 := Lib.hid (show Own32 w2 (wo.alloc (.cells #[.int .i64 s.kind, .slice s.adr s.nums.length s.cap] 87)).heap.size (Sg.sl ⟨s.kind, A2, c2, s.nums⟩) s.nums from ho2)
      have HBW := Lib.hid (HBR1.out.trans (hb2.mono HBR1.out.size))
      have HB2S := Lib.hid hb2.size
      clear ho2 hb2 cb k1 k2
      go_wp2_with (at_builtin; refine wpList_app_one' isSeg rfl (.tmp 14) (.tmp 18) rfl w.heap.size _ _ _ rfl w2 (Sg.two ⟨s.kind, A2, c2, s.nums⟩) rfl HS2.out.row rfl rfl (two_one _) (by have h1 := HML.out; have h2 := HLT.out; omega) HBW.out.size ?_)
      intro v3 w3 hown3 hg3
      have HP := Lib.hid (OwnSegs.push (s := ⟨s.kind, A2, c2, s.nums⟩) HS2.out HO2.out HBR1.out.size (fun x hx k hk => HS1.out.blocks x hx k hk) HFIT.out hown3 hg3)
      have HB3 := Lib.hid (HBW.out.grown hg3 HBW.out.size (fun k hk => (World.ownsRow.lt HS2.out.row k hk).1))
      have HH3 := Lib.hid (Nat.le_trans HB2S.out hg3.size)
      clear hown3 hg3
      go_wp2_with fail
      go_roundw
      case rel => exact ⟨HB3.out, _, _, j + 1, HLT.out, by go_num, HP.out, HBR1.out.size, HH3.out, Lib.hid (by rw [HAB.out, List.map_append]; rfl)⟩
      case measure => have hm := HLT.out; simp [intOf] at hm ⊢; try omega
    · obtain rfl : j = L.length := by omega
      have hab2 := hab.out
      rw [List.take_length] at hab2
      obtain ⟨A0, c0, rfl, g1, g2⟩ := hown.form
      have HR := Lib.hid (show RetOwn w (L.map Sg.abs) (.returned (.slice A0 M.length c0)) wo from ⟨M, H, A0, c0, rfl, hab2, hown, hH2, hbr⟩)
      clear hown hab hab2 g1 g2
      go_wp2_with fail
      go_ret
      exact HR.out
end Go.Proofs.YtkpbldhkoobnaaaDoor

/-
  How long a right path is (what attrs' seat needs of lib3's Text4).
-/
namespace Go.Proofs.YtkpbldhkoobnaaaDoor
theorem rightA_bounds {L : List Sg} (h : rightB L = true) : L.length ≤ 8 ∧ totN L ≤ 64 := by
  unfold rightB at h
  simp only [Bool.and_eq_true, decide_eq_true_eq] at h
  exact ⟨h.1, h.2.2⟩
end Go.Proofs.YtkpbldhkoobnaaaDoor

/-
  Whether a number is in a path.
-/
namespace Go.Proofs.YtkpbldhkoobnaaaDoor
set_option linter.unusedVariables false
set_option linter.unusedSimpArgs false
open Go.RowKit

/-- Is a number in a list? -/
def inB (z : List Nat) (v : Nat) : Bool := z.any fun x => x == v
theorem has_step {z : List Nat} {v j : Nat} (hj : j < z.length) (h : inB (z.take j) v = false) (hv : v ≠ z.getD j 0) : inB (z.take (j + 1)) v = false := by
  have e : z.getD j 0 = z[j] := by simp [List.getD, hj]
  rw [e] at hv
  unfold inB at h ⊢
  rw [List.take_succ_eq_append_getElem hj, List.any_append, h]
  simpa using fun e => hv e.symm
theorem has_now {z : List Nat} {v j : Nat} (hj : j < z.length) (hv : v = z.getD j 0) : inB z v = true := by
  have e : z.getD j 0 = z[j] := by simp [List.getD, hj]
  rw [e] at hv
  unfold inB
  rw [List.any_eq_true]
  exact ⟨z[j], List.getElem_mem hj, by simp [hv]⟩
/-- What a search leaves: the place where it found, or one below all. -/
def Found (b : Bool) (w : World) (e : Ending) (w' : World) : Prop := ∃ k : Int, e = .returned (.int .i64 k) ∧ -1 ≤ k ∧ k ≤ 1152921504606846976 ∧ decide (0 ≤ k) = b

/-- Is a number in a path? -/
def hasB (L : List Sg) (v : Nat) : Bool := L.any fun s => inB s.nums v
theorem hasB_step {L : List Sg} {v j : Nat} {s : Sg} (hs : L[j]? = some s) (h : hasB (L.take j) v = false) (hn : inB s.nums v = false) : hasB (L.take (j + 1)) v = false := by
  have hj := (List.getElem?_eq_some_iff.1 hs).1
  have e : L[j] = s := (List.getElem?_eq_some_iff.1 hs).2
  rw [List.take_succ_eq_append_getElem hj, e]
  unfold hasB at h ⊢
  rw [List.any_append, h]
  simpa using hn
theorem hasB_now {L : List Sg} {v j : Nat} {s : Sg} (hs : L[j]? = some s) (hn : inB s.nums v = true) : hasB L v = true := by
  unfold hasB
  rw [List.any_eq_true]
  exact ⟨s, List.mem_of_getElem? hs, hn⟩

end Go.Proofs.YtkpbldhkoobnaaaDoor

/-
  All numbers of a path, and whether one is there: by the document.
-/
namespace Go.Proofs.YtkpbldhkoobnaaaDoor
set_option linter.unusedVariables false
set_option linter.unusedSimpArgs false
open Go.RowKit

theorem take32_step {z : List Nat} {k : Nat} (h : k < z.length) : z.take (k + 1) = z.take k ++ [z.getD k 0] := by
  have e : z.getD k 0 = z[k] := by simp [List.getD, h]
  rw [List.take_succ_eq_append_getElem h, e]
def FlatRelB (w : World) (y z : List Nat) (v i : Value) (wr : World) : Prop :=
  Below w.heap.size w wr ∧ ∃ j : Nat, j ≤ z.length ∧ i = .int .i64 (j : Int) ∧ Own32 wr w.heap.size v (y ++ z.take j)

set_option maxHeartbeats 3200000 in
theorem RefFlat_any (A : Option Addr) (c : Nat) (L : List Sg) (w : World) (h : Segs w w.heap.size A L) (hl : L.length ≤ 1000000000) (ht : totN L ≤ 35184372088832) :
    Calls Tryd.prog 25 #[.slice A L.length c] w (Ret32 w (flatN L)) := by
  have HS := Lib.hid h; clear h
  go_enter Tryd.func25, Tryd.ntmps25
  go_wp2_with fail
  go_loopw [3, 4] (fun v i wr => FlatRel w L v i wr) (fun _ i _ => L.length - (intOf i).toNat)
  case atStart => exact ⟨Below.refl _ _, 0, Nat.zero_le _, rfl, Own32.nil _ _⟩
  case round =>
    obtain ⟨hbr, j, hj, rfl, hown⟩ := hrel
    by_cases hlt : j < L.length
    · obtain ⟨s, hs⟩ : ∃ s, L[j]? = some s := ⟨_, List.getElem?_eq_getElem hlt⟩
      have HST := Lib.hid (flatN_step hs)
      have HSZ := Lib.hid (show (flatN (L.take j)).length + s.nums.length ≤ 35184372088832 by
        have h1 : totN (L.take (j + 1)) = totN (L.take j) + s.nums.length := sum_take (f := fun s => s.nums.length) hs
        have h2 : totN (L.take (j + 1)) ≤ totN L := sum_take_le (fun s => s.nums.length) L (j + 1)
        rw [flatN_len]; omega)
      have hsn : s.nums.length ≤ 35184372088832 := by have := HSZ.out; omega
      have HSS := Lib.hid hs
      have HOW := Lib.hid hown; have HBR := Lib.hid hbr; have HJ := Lib.hid hlt
      clear hs hown hbr
      go_wp2_with fail
      go_loopw [3, 5] (fun v i wr => FlatRelB w (flatN (L.take j)) s.nums v i wr) (fun _ i _ => s.nums.length - (intOf i).toNat)
      case atStart => exact ⟨HBR.out, 0, Nat.zero_le _, rfl, by simpa using HOW.out⟩
      case round =>
        clear HOW HBR
        obtain ⟨hbr, k, hk, rfl, hown⟩ := hrel
        obtain ⟨b, off, rfl, hb, k1, k2, hok⟩ := (HS.out.below hbr (Nat.le_refl _)).at HSS.out
        have HBR := Lib.hid hbr
        by_cases hlt2 : k < s.nums.length
        · obtain ⟨b2, off2, hA2, hb2, k3⟩ := hok.2.2.1.cell hlt2
          have HTK := Lib.hid (take32_step hlt2)
          obtain ⟨x, hxe⟩ : ∃ x, x = s.nums.getD k 0 := ⟨_, rfl⟩
          rw [← hxe] at k3 HTK
          rw [hA2] at k2
          have HOW := Lib.hid hown; have HK := Lib.hid hlt2
          have HLN := Lib.hid (show ((flatN (L.take j) ++ s.nums.take k).length + 1) * 4 ≤ 140737488355328 by
            have h1 := HSZ.out
            rw [List.length_append, List.length_take]
            omega)
          clear hxe hok hown hbr hA2
          go_wp2_with (at_builtin; go_loud (refine wpList_app_one isU32 rfl (.tmp 22) (.tmp 31) rfl w _ _ (cells32 _) rfl wr [.int .u32 (x : Int)] rfl HOW.out rfl rfl (by simp [Value.oneCell']) HLN.out HBR.out ?_))
          intro v1 w1 hown1 hg1 hb1
          have O1 := Lib.hid (show Own32 w1 w.heap.size v1 (flatN (L.take j) ++ s.nums.take (k + 1)) from by
            rw [HTK.out, ← List.append_assoc]
            have e : ((flatN (L.take j) ++ s.nums.take k) ++ [x]).length = (flatN (L.take j)).length + k + 1 := by
              have := HK.out
              simp only [List.length_append, List.length_take, List.length_cons, List.length_nil]
              omega
            unfold Own32 cells32 at *
            rw [List.map_append, e]
            exact hown1)
          have HB1 := Lib.hid hb1
          clear hown1 hg1 hb1
          go_wp2_with fail
          go_roundw
          case rel => exact ⟨HB1.out, k + 1, HK.out, by go_num, O1.out⟩
          case measure => have := HK.out; simp [intOf]; omega
        · obtain rfl : k = s.nums.length := by omega
          rw [List.take_length] at hown
          have HOW := Lib.hid hown
          clear hown hbr hok
          go_wp2_with fail
          go_roundw
          case rel => exact ⟨HBR.out, j + 1, HJ.out, by go_num, by rw [HST.out]; exact HOW.out⟩
          case measure => have := HJ.out; simp [intOf]; omega
    · obtain rfl : j = L.length := by omega
      rw [List.take_length] at hown
      obtain ⟨A1, c1, rfl, f1, f2⟩ := hown.form
      have HAT := Lib.hid hown; have HBR := Lib.hid hbr
      clear hown hbr
      go_wp2_with fail
      go_ret
      exact ⟨_, _, rfl, f1, f2, HAT.out, HBR.out⟩

theorem hasB_flat (L : List Sg) (v : Nat) : inB (flatN L) v = hasB L v := by
  unfold inB flatN hasB inB
  rw [List.any_flatMap]

end Go.Proofs.YtkpbldhkoobnaaaDoor

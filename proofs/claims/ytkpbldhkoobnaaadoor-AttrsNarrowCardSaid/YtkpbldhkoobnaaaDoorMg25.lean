/-
  Texts of this seat, put together: NarF4, SayN4, Copied3, Text4, Has, Begin3, RefFlat3, Merge3, Widen4, ReadN4, NarP4, Nar4W.
-/
import Derived.Deep.RegionHeld3
import Derived.Test.YtkpbldhkoobnaaaDoorMg15
import Derived.Test.YtkpbldhkoobnaaaDoorMg23
import Derived.Test.YtkpbldhkoobnaaaDoorMg1
import Derived.Test.YtkpbldhkoobnaaaDoorReadB4Mg
import Derived.Test.YtkpbldhkoobnaaaDoorBack4WMg
/-
  What is put narrow is read with a path that counts as long: as Lean functions.
-/
namespace Go.Proofs.YtkpbldhkoobnaaaDoor
set_option linter.unusedVariables false
set_option linter.unusedSimpArgs false
open Go.RowKit

theorem nar_small {x : Nat} (h : ¬ 65535 < x) : nar false x = x := by unfold nar; rw [if_neg (by decide), if_neg h]
theorem bigs_each {z : List Nat} (h : bigs z = false) : ∀ x ∈ z, ¬ 65535 < x := by
  intro x hx hlt
  unfold bigs at h
  rw [List.any_eq_false] at h
  exact h x hx (decide_eq_true hlt)
theorem narS_small {path : List Sg} (h : bigs (flatN path) = false) : path.map (narS false) = path.map Sg.abs := by
  refine List.map_congr_left fun s hs => ?_
  unfold narS Sg.abs
  refine congrArg (Prod.mk _) ?_
  have : ∀ x ∈ s.nums, nar false x = x := fun x hx => nar_small (bigs_each h x (List.mem_flatMap.2 ⟨s, hs, hx⟩))
  calc s.nums.map (nar false) = s.nums.map id := List.map_congr_left this
    _ = s.nums := List.map_id _
theorem right_nar {path : List Sg} (wide : Bool) (h : rightB path = true) : rightA (path.map (narS wide)) = true := by
  unfold rightB at h
  unfold rightA totA
  simp only [Bool.and_eq_true, decide_eq_true_eq, List.all_eq_true, List.length_map] at h ⊢
  obtain ⟨h1, h2, h3⟩ := h
  refine ⟨h1, ?_, ?_⟩
  · intro x hx
    obtain ⟨s, hs, rfl⟩ := List.mem_map.1 hx
    have := h2 s hs
    unfold okS at this
    unfold okA narS
    simpa using this
  · have e : ((path.map (narS wide)).map fun s => s.2.length).sum = totN path := by
      unfold totN
      rw [List.map_map]
      refine congrArg List.sum (List.map_congr_left fun s _ => ?_)
      simp [narS]
    rw [e]; exact h3
theorem merge_same {path : List Sg} (h : rightB path = true) (hne : path ≠ []) : mergeL (path.map (narS false)) (path.map Sg.abs) = path.map Sg.abs := by
  have hc : cntA (path.map (narS false)) = cntA (path.map Sg.abs) := by rw [cnt_nar, cnt_abs]
  have hr : rightA (path.map Sg.abs) = true := by rw [← right_abs]; exact h
  unfold mergeL
  rw [if_neg]
  · rw [hc, Nat.sub_self, begL_zero, List.nil_append, if_pos hr]
  · rintro (q | q | q | q)
    · omega
    · exact hne (by simpa using q)
    · rw [right_nar false h] at q; cases q
    · rw [hr] at q; cases q
theorem totA_nar (path : List Sg) (wide : Bool) : totA (path.map (narS wide)) = totN path := by
  unfold totA totN
  rw [List.map_map]
  refine congrArg List.sum (List.map_congr_left fun s _ => ?_)
  simp [narS]
theorem merge_nil (a : List (Int × List Nat)) : mergeL a [] = a := by
  unfold mergeL
  rw [if_pos (.inr (.inl rfl))]
theorem bigs_ne {path : List Sg} (h : bigs (flatN path) = true) : path ≠ [] := by rintro rfl; cases h
/-- What narrow attributes are, read. -/
def narR (org next sa ad : Nat) (path : List Sg) (med pref : Int) (atomic has : Bool) (comms : List Nat) (raws : List Rw) (ks : List Nat) : Rs :=
  ⟨org, path.map (narS false), next, med, pref, atomic, has, nar false sa, ad, comms, raws.map Rw.abs, ks, if (!false && bigs (flatN path)) = true then path.map Sg.abs else [], if (!false && bigB sa) = true then aggrB true sa ad else []⟩
theorem widen_nar (org next sa ad : Nat) (path : List Sg) (med pref : Int) (atomic has : Bool) (comms : List Nat) (raws : List Rw) (ks : List Nat) (hr : rightB path = true) (hsa : sa < 4294967296) (had : ad < 4294967296) (hha : has = false → sa = 0 ∧ ad = 0) :
    ∃ P A D W G, widenF false (narR org next sa ad path med pref atomic has comms raws ks) = ⟨org, P, next, med, pref, atomic, has, A, D, comms, raws.map Rw.abs, ks, W, G⟩ ∧ (cntA P = cntN path ∧ P.length = path.length ∧ totA P = totN path) ∧
      (bigs (flatN path) = false → sa ≤ 65535 → sa ≠ 23456 → P = path.map Sg.abs ∧ A = sa ∧ D = ad) ∧
      (bigs (flatN path) = true → has = false → P = path.map Sg.abs ∧ A = sa ∧ D = ad) := by
  unfold narR
  by_cases h1 : has = true ∧ nar false sa ≠ 23456
  · refine ⟨_, _, _, _, _, if_pos (.inr h1), ⟨cnt_nar false path, by simp, totA_nar path false⟩, fun hb h2 h3 => ⟨narS_small hb, nar_small (by omega), rfl⟩, fun _ h => by rw [h1.1] at h; cases h⟩
  · have hm : mergeL (path.map (narS false)) (if (!false && bigs (flatN path)) = true then path.map Sg.abs else []) = if bigs (flatN path) = true then path.map Sg.abs else path.map (narS false) := by
      cases hb : bigs (flatN path) with
      | true => simp only [Bool.not_false, Bool.and_self, if_true]; exact merge_same hr (bigs_ne hb)
      | false => simp only [Bool.not_false, Bool.and_false, Bool.false_eq_true, if_false]; exact merge_nil _
    have hc : cntA (if bigs (flatN path) = true then path.map Sg.abs else path.map (narS false)) = cntN path ∧ (if bigs (flatN path) = true then path.map Sg.abs else path.map (narS false)).length = path.length ∧ totA (if bigs (flatN path) = true then path.map Sg.abs else path.map (narS false)) = totN path := by
      split
      · exact ⟨(cnt_abs path).symm, by simp, (tot_abs path).symm⟩
      · exact ⟨cnt_nar false path, by simp, totA_nar path false⟩
    by_cases h2 : has = true ∧ (if (!false && bigB sa) = true then aggrB true sa ad else []).length = 8
    · refine ⟨_, _, _, _, _, (if_neg (by rintro (q | q); cases q; exact h1 q)).trans (if_pos h2), ?_, fun hb h3 h4 => ?_, fun _ h => by rw [h2.1] at h; cases h⟩
      · rw [hm]; exact hc
      · exact absurd ⟨h2.1, by rw [nar_small (by omega)]; exact h4⟩ h1
    · refine ⟨_, _, _, _, _, (if_neg (by rintro (q | q); cases q; exact h1 q)).trans (if_neg h2), ?_, fun hb h3 h4 => ?_, fun hb h => ?_⟩
      · rw [hm]; exact hc
      · rw [hm, if_neg (by rw [hb]; decide)]
        exact ⟨narS_small hb, nar_small (by omega), rfl⟩
      · rw [hm, if_pos hb]
        obtain ⟨q1, q2⟩ := hha h
        exact ⟨rfl, by rw [q1]; exact nar_small (x := 0) (by omega), by rw [q2]⟩
end Go.Proofs.YtkpbldhkoobnaaaDoor

/-
  What an aggregator's attribute says in narrow numbers is taken in.
-/
namespace Go.Proofs.YtkpbldhkoobnaaaDoor
set_option linter.unusedVariables false
set_option linter.unusedSimpArgs false
open Go.RowKit

theorem rdTake_two (l : List UInt8) (hl : 2 ≤ l.length) : rdTake l false 2 = (l.take 2, l.drop 2, false) := by
  unfold rdTake
  rw [if_pos ⟨by omega, by omega⟩]
  rfl
set_option maxHeartbeats 3200000 in
theorem aggr6_any (A : Option Addr) (c : Nat) (l : List UInt8) (w : World) (h : Bytes w A l) (hc : l.length ≤ c) (hm : c ≤ maxLen) (hl : l.length = 6) :
    Calls Tryd.prog 84 #[.slice A l.length c, .bool false] w fun e w' => e = .returned (.tuple #[.int .u32 (num (l.take 2) : Int), .int .u32 (num (l.drop 2) : Int)]) ∧ Below w.heap.size w w' := by
  have QN := Lib.hid (New_any A l.length c l rfl w h hc hm)
  have HL := Lib.hid hl
  clear h hc hm hl
  go_enter Tryd.func84, Tryd.ntmps84
  go_wp2_with fail
  refine QN.out.mono ?_
  rintro e w1 ⟨rfl, hr1, hb1⟩
  have Q1 := Lib.hid (U16_any w.heap.size w.heap.size l false w1 hr1)
  rw [rdTake_two l (by have := HL.out; omega)] at Q1
  have HB1 := Lib.hid hb1
  clear hr1 hb1
  go_wp2_with fail
  refine Q1.out.mono ?_
  rintro e w2 ⟨rfl, hr2, hg2⟩
  have Q2 := Lib.hid (U32_any w.heap.size w.heap.size (l.drop 2) false w2 hr2)
  rw [rdTake_all (l.drop 2) 4 (by have := HL.out; simp; omega)] at Q2
  have HB2 := Lib.hid (HB1.out.grown hg2 HB1.out.size (fun k hk => by cases hk; exact Nat.le_refl _))
  have hx1 : num (l.take 2) ≤ 4294967295 := by have := num_lt 2 (l.take 2) (by rw [List.length_take]; have := HL.out; omega); omega
  obtain ⟨x, hx⟩ : ∃ x, x = num (l.take 2) := ⟨_, rfl⟩
  obtain ⟨y, hy⟩ : ∃ y, y = num (l.drop 2) := ⟨_, rfl⟩
  have HX := Lib.hid hx; have HY := Lib.hid hy
  simp only [← hy] at Q2
  rw [← hx] at hx1
  simp only [← hx]
  clear hr2 hg2 hx hy
  go_wp2_with fail
  refine Q2.out.mono ?_
  rintro e w3 ⟨rfl, hr3, hg3⟩
  have HB3 := Lib.hid (HB2.out.grown hg3 HB2.out.size (fun k hk => by cases hk; exact Nat.le_refl _))
  clear hr3 hg3
  go_wp2_with fail
  go_ret2
  exact ⟨by rw [← HX.out, ← HY.out]; rfl, HB3.out⟩
set_option maxHeartbeats 6400000 in
theorem say7n_any (gx B' : Nat) (vo vp vn vm vf va vh vs vd vc vr vk vw vg : Value) (f : Int) (A A2 : Option Addr) (c n2 c2 : Nat) (l : List UInt8) (w : World) (hx : Blk w gx 75 [.bool false, vo, vp, vn, vm, vf, va, vh, vs, vd, vc, vr, vk, vw, vg]) (ho : Own w B' 5 (.slice A l.length c) l) (hc : l.length ≤ c) (hm : c ≤ maxLen) (hv : l.length = 6) :
    Calls Tryd.prog 82 #[.pointer (some ⟨gx, 0, none⟩), .agg #[.int .i64 f, .int .i64 7, .slice A l.length c, .slice A2 n2 c2]] w (SayPost w gx [.bool false, vo, vp, vn, vm, vf, va, .bool true, .int .u32 (num (l.take 2) : Int), .int .u32 (num (l.drop 2) : Int), vc, vr, vk, vw, vg]) := by
  obtain ⟨W0, hW0⟩ : ∃ W0, W0 = (w.alloc (.cells #[.int .i64 f, .int .i64 7, .slice A l.length c, .slice A2 n2 c2] 80)).alloc (.cells #[.int .i64 0, .int .i64 0, .slice none 0 0] 46) := ⟨_, rfl⟩
  have hb1 : Below w.heap.size w W0 := by rw [hW0]; exact ((Below.refl _ _).alloc (Nat.le_refl _) _).alloc (by simp) _
  have kp : Blk W0 w.heap.size 80 [.int .i64 f, .int .i64 7, .slice A l.length c, .slice A2 n2 c2] := by
    rw [hW0]
    exact (Blk.new w _ _).below ((Below.refl _ _).alloc (Nat.le_refl _) _) (by simp)
  have p2 : W0.cell? ⟨w.heap.size, 2, none⟩ = some (.slice A l.length c) := kp.cell 2
  have QN := Lib.hid (New_any A l.length c l rfl W0 (ho.bytes.below hb1) hc hm)
  have HOW := Lib.hid (fun (w1 : World) (hb : Below W0.heap.size W0 w1) => Own.below (Own.below ho hb1) hb)
  have HST := Lib.hid (fun (w1 : World) (hr : Rd w1 W0.heap.size W0.heap.size l false) (hb : Below W0.heap.size W0 w1) => SaySt.start hx hW0 hr hb)
  have hz : W0.heap.size = w.heap.size + 2 := by rw [hW0]; simp
  have HZ := Lib.hid hz
  have hsx : ¬ w.heap.size = gx := by have := hx.lt; omega
  have HKP := Lib.hid (fun (w1 : World) (hb : Below W0.heap.size W0 w1) => kp.below hb kp.lt)
  have HW0 := Lib.hid hW0; have HV := Lib.hid hv; have HLT := Lib.hid hx.lt; have HCM := Lib.hid (And.intro hc hm)
  clear hb1 kp hW0 hz hx ho hc hm hv
  go_enter Tryd.func82, Tryd.ntmps82
  go_wp2_with (rw [← HW0.out])
  refine QN.out.mono ?_
  rintro e w1 ⟨rfl, hr1, hb1⟩
  have S1 := Lib.hid (HST.out w1 hr1 hb1)
  have kp1 := HKP.out w1 hb1
  have p1 : w1.cell? ⟨w.heap.size, 1, none⟩ = some (.int .i64 7) := kp1.cell 1
  rw [HZ.out]
  have p22 : w1.cell? ⟨w.heap.size, 2, none⟩ = some (.slice A l.length c) := kp1.cell 2
  have x0 : w1.cell? ⟨gx, 0, none⟩ = some (.bool false) := S1.out.blk.cell 0
  have x7 : w1.cell? ⟨gx, 7, none⟩ = some vh := S1.out.blk.cell 7
  have y7 := S1.out.blk.free 7
  obtain ⟨W1, hW1⟩ : ∃ W, W = w1.setCell ⟨gx, 7, none⟩ (.bool true) := ⟨_, rfl⟩
  have HO1 := Lib.hid (show Own W1 B' 5 (.slice A l.length c) l from by rw [hW1]; exact row_keep (HOW.out w1 hb1) S1.out.blk (by decide) (grown_setCell (grown_refl _ (some gx)) 7 (.bool true)))
  have SG := Lib.hid (show SayG w gx [.bool false, vo, vp, vn, vm, vf, va, .bool true, vs, vd, vc, vr, vk, vw, vg] W1 from by rw [hW1]; exact S1.out.g.set 7 (.bool true))
  have Q := Lib.hid (aggr6_any A c l W1.drew HO1.out.bytes.drew HCM.out.1 HCM.out.2 HV.out)
  have SG2 := Lib.hid (fun (W : World) (q : Below W1.drew.heap.size W1.drew W) => SG.out.later (below_undrew q))
  have HW1 := Lib.hid hW1
  obtain ⟨x, hx⟩ : ∃ x, x = num (l.take 2) := ⟨_, rfl⟩
  obtain ⟨y, hy⟩ : ∃ y, y = num (l.drop 2) := ⟨_, rfl⟩
  have HX := Lib.hid hx; have HY := Lib.hid hy
  rw [← hx, ← hy] at Q
  clear hr1 hb1 p2 QN HST HW0 HKP kp1 hW1 HOW hx hy
  go_wp2_with fail
  rw [HW1.out] at Q SG2
  go_region_law ((try go_simp); go_at_call 84; refine Q.out.mono ?_; rintro e w2 ⟨rfl, hb2⟩; have S2 := Lib.hid (SG2.out _ hb2); have x8 : w2.cell? ⟨gx, 8, none⟩ = some vs := S2.out.blk.cell 8; have y8 := S2.out.blk.free 8; have x9 : w2.cell? ⟨gx, 9, none⟩ = some vd := S2.out.blk.cell 9; have y9 := S2.out.blk.free 9; clear hb2)
  all_goals
    have S3 := Lib.hid ((S2.out.set 8 (.int .u32 (x : Int))).set 9 (.int .u32 (y : Int)))
    have kr := S3.out.res
    have c3 := cells3 kr
    have f3 := free3 kr
    have r3 := cells3 (kr.set3 (.int .i64 0) (.int .i64 0) (.slice none 0 0))
    have HE := Lib.hid S3.out.fin
    have hlt := HLT.out
    have hne1 : ¬ gx = w.heap.size + 1 := by omega
    have hne2 : ¬ w.heap.size + 1 = gx := by omega
    clear kr hlt
    go_wp2_with fail
    refine bodyPost_ret (v := fault0) (by simp [results, Tryd.results82, go_sem, fault0, r3]) rfl ?_
    rw [← HX.out, ← HY.out]
    exact ⟨rfl, HE.out⟩
set_option maxHeartbeats 1600000 in
theorem take7n_step (B gx f B' : Nat) (S T : Rs) (A A2 : Option Addr) (c n2 c2 : Nat) (l r : List UInt8) (b : Bool) (W : World) (h : RdI B gx false S W) (ht : TabK W) (ho : Own W B' 5 (.slice A l.length c) l) (hc : l.length ≤ c) (hm : c ≤ maxLen) (hl : l.length ≤ 1000000) (hs : stepF false S ⟨f, 7, l, r, b⟩ = some T) :
    Calls Tryd.prog 61 #[.pointer (some ⟨gx, 0, none⟩), .agg #[.int .i64 (f : Int), .int .i64 (7 : Int), .slice A l.length c, .slice A2 n2 c2]] W (TakePost4 B gx false S T W) := by
  obtain ⟨hk, ⟨hf, hn⟩, hT⟩ := inv7 hs
  subst hT
  have hn8 : l.length = 6 := by simpa using hn
  obtain ⟨pv, cv, rv, kv, wv, av, h1, h2⟩ := h
  refine take_known gx false _ f 192 7 192 6 8 0 A A2 c n2 c2 l W _ h1 ht rfl (by decide) rfl hf (fun W1 => by rw [hn8]; exact fits_narrow _ _ 8 _ 6 W1 rfl (by decide)) (fun W2 W3 q kr hg => rdI_fault q kr (by have := h1.lt; omega) hg) (fun W1 hb hz => ?_)
  refine (say7n_any gx B' _ _ _ _ _ _ _ _ _ _ _ _ _ _ (f : Int) A A2 c n2 c2 l W1 (h1.below hb h1.lt) (Own.below ho hb) hc hm hn8).mono fun e W2 hp => ?_
  obtain ⟨rfl, hb2, hg2⟩ := hp
  have h3 := rows_keep (h2.below hb) (h1.below hb h1.lt) hg2
  refine ⟨rfl, hg2, pv, cv, rv, kv, wv, av, ?_, ⟨h3.path, h3.comms, h3.raws, h3.kinds, h3.wpath, h3.aggr, h3.cnil⟩⟩
  rw [show l.length - 4 = 2 by omega]
  exact hb2
/-- All kinds, of narrow numbers. -/
theorem steps_nar (B : Nat) : Steps (fun _ => true) B false := by
  intro gx f k S T A A2 c n2 c2 B' v r b W _ hB hB2 hI ht ho hc hm hl hs h8
  have hy := ho.bytes
  by_cases hn : (lookN (k : Int)).isNone = true
  · exact takeU_step B gx f k B' false S T A A2 c n2 c2 v r b W hB hB2 hI ht ho hc hm hn hs
  · have hk : k = 1 ∨ k = 2 ∨ k = 3 ∨ k = 4 ∨ k = 5 ∨ k = 6 ∨ k = 7 ∨ k = 8 ∨ k = 17 ∨ k = 18 := by
      apply Decidable.byContradiction
      intro hno
      apply hn
      rw [look_none (k := (k : Int))]
      · rfl
      · intro i x hi hx e
        rcases (show i = 0 ∨ i = 1 ∨ i = 2 ∨ i = 3 ∨ i = 4 ∨ i = 5 ∨ i = 6 ∨ i = 7 ∨ i = 8 ∨ i = 9 by omega) with rfl | rfl | rfl | rfl | rfl | rfl | rfl | rfl | rfl | rfl <;> (simp [looksL] at hx; subst hx; simp at e; omega)
    rcases hk with rfl | rfl | rfl | rfl | rfl | rfl | rfl | rfl | rfl | rfl
    · exact (take1_step B gx f false S T A A2 c n2 c2 v r b W hI ht hy hc hm hl hs).mono fun e W' h => h.all hB hB2
    · exact (take2_step B gx f false S T A A2 c n2 c2 v r b W hI ht hy hc hm hl hs).mono fun e W' h => h.all hB hB2
    · exact (take3_step B gx f false S T A A2 c n2 c2 v r b W hI ht hy hc hm hl hs).mono fun e W' h => h.all hB hB2
    · exact (take4_step B gx f false S T A A2 c n2 c2 v r b W hI ht hy hc hm hl hs).mono fun e W' h => h.all hB hB2
    · exact (take5_step B gx f false S T A A2 c n2 c2 v r b W hI ht hy hc hm hl hs).mono fun e W' h => h.all hB hB2
    · exact (take6_step B gx f false S T A A2 c n2 c2 v r b W hI ht hy hc hm hl hs).mono fun e W' h => h.all hB hB2
    · exact (take7n_step B gx f B' S T A A2 c n2 c2 v r b W hI ht ho hc hm hl hs).mono fun e W' h => h.all hB hB2
    · exact (take8_step B gx f false S T A A2 c n2 c2 v r b W hI ht hy hc hm hl hs (h8 rfl)).mono fun e W' h => h.all hB hB2
    · exact (take17_step B gx f false S T A A2 c n2 c2 v r b W hI ht hy hc hm hl hs).mono fun e W' h => h.all hB hB2
    · exact (take18_step B gx f B' false S T A A2 c n2 c2 v r b W hI ht ho hc hm hl hs).mono fun e W' h => h.all hB hB2
end Go.Proofs.YtkpbldhkoobnaaaDoor

/-
  A path made anew, segment by segment.
-/
namespace Go.Proofs.YtkpbldhkoobnaaaDoor
set_option linter.unusedVariables false
set_option linter.unusedSimpArgs false
open Go.RowKit

/-- What the loop holds. -/
def CopyRel (w : World) (L : List Sg) (v i : Value) (wr : World) : Prop :=
  Below w.heap.size w wr ∧ ∃ (M : List Sg) (H j : Nat), j ≤ L.length ∧ i = .int .i64 (j : Int) ∧ OwnSegs wr w.heap.size H v M ∧ w.heap.size ≤ H ∧ H ≤ wr.heap.size ∧ Hid (M.map Sg.abs = (L.take j).map Sg.abs)
/-- What a call leaves that returns a path of its own, of which it may be told that it is so. -/
def RetOwn (w : World) (r : List (Int × List Nat)) (e : Ending) (w' : World) : Prop :=
  ∃ (M : List Sg) (H : Nat) (A : Option Addr) (c : Nat), e = .returned (.slice A M.length c) ∧ M.map Sg.abs = r ∧ OwnSegs w' w.heap.size H (.slice A M.length c) M ∧ H ≤ w'.heap.size ∧ Below w.heap.size w w'

set_option maxRecDepth 100000 in
set_option maxHeartbeats 6400000 in
theorem Copied_any (A : Option Addr) (c : Nat) (L : List Sg) (w : World) (h : Segs w w.heap.size A L) (ht : totN L ≤ 1000000000) (hL : L.length ≤ 2000000) :
    Calls Tryd.prog 98 #[.slice A L.length c, .func (.func 99) #[] #[]] w (RetOwn w (L.map Sg.abs)) := by
  have HL := Lib.hid h; clear h
  go_enter Tryd.func98, Tryd.ntmps98
  go_wp2_with fail
  go_loopw [5, 10] (fun v i wr => CopyRel w L v i wr) (fun _ i _ => L.length - (intOf i).toNat)
  case atStart => exact ⟨Below.refl _ _, [], w.heap.size, 0, by omega, rfl, OwnSegs.nil _ _ _, Nat.le_refl _, Nat.le_refl _, Lib.hid rfl⟩
  case round =>
    obtain ⟨hbr, M, H, j, hj, rfl, hown, hH, hH2, hab⟩ := hrel
    obtain ⟨wo, rfl⟩ : ∃ x : World, x = wr := ⟨wr, rfl⟩
    by_cases hlt : j < L.length
    · obtain ⟨s, hs⟩ : ∃ s, L[j]? = some s := ⟨_, List.getElem?_eq_getElem hlt⟩
      obtain ⟨b, off, rfl, hb, k1, k2, hok⟩ := (HL.out.below hbr (Nat.le_refl _)).at hs
      have HLT := Lib.hid hlt
      have hsl := nums_le hs
      have HFIT := Lib.hid (show Sg.Fit s from hok.2.2.2)
      have hml : M.length = j := by have := congrArg List.length hab.out; simp at this; omega
      have HML := Lib.hid hml
      have HAB := Lib.hid (show (L.take (j + 1)).map Sg.abs = M.map Sg.abs ++ [s.abs] by
        obtain ⟨hj9, e9⟩ := List.getElem?_eq_some_iff.1 hs
        rw [hab.out, List.take_succ_eq_append_getElem hj9, List.map_append, e9]
        rfl)
      have hbA := (Below.refl wo.heap.size wo).alloc (Nat.le_refl _) (.cells #[.int .i64 s.kind, .slice s.adr s.nums.length s.cap] 87)
      have hA1 : Sg.Ok (wo.alloc (.cells #[.int .i64 s.kind, .slice s.adr s.nums.length s.cap] 87)) (wo.alloc (.cells #[.int .i64 s.kind, .slice s.adr s.nums.length s.cap] 87)).heap.size s := (hok.below hbA hbr.size).lift (by simp; have := hbr.size; omega)
      have QO := Lib.hid (own_any s _ hA1 (by omega))
      have HS1 := Lib.hid (hown.below hbA)
      have HBR1 := Lib.hid (hbr.alloc hbr.size (.cells #[.int .i64 s.kind, .slice s.adr s.nums.length s.cap] 87))
      have cb := cells2 (Blk.new wo 87 [.int .i64 s.kind, .slice s.adr s.nums.length s.cap])
      have hjb : (j : Int) ≤ 2000000 := by omega
      have hi0 : (0 : Int) ≤ (j : Int) := by omega
      have hi1 : (j : Int) < (L.length : Int) := by omega
      clear hok hA1 hbA hown hab hs hlt hml
      go_wp2_with fail
      refine QO.out.mono ?_
      rintro e w2 ⟨A2, c2, rfl, f1, f2, ho2, hb2⟩
      have HS2 := Lib.hid (HS1.out.below hb2)
      have HO2 := Lib.hid (show Own32 w2 (wo.alloc (.cells #[.int .i64 s.kind, .slice s.adr s.nums.length s.cap] 87)).heap.size (Sg.sl ⟨s.kind, A2, c2, s.nums⟩) s.nums from ho2)
      have HBW := Lib.hid (HBR1.out.trans (hb2.mono HBR1.out.size))
      have HB2S := Lib.hid hb2.size
      clear ho2 hb2 cb k1 k2
      go_wp2_with (at_builtin; refine wpList_app_one' isSeg rfl (.tmp 14) (.tmp 18) rfl w.heap.size _ _ _ rfl w2 (Sg.two ⟨s.kind, A2, c2, s.nums⟩) rfl HS2.out.row rfl rfl (two_one _) (by have h1 := HML.out; have h2 := HLT.out; omega) HBW.out.size ?_)
      intro v3 w3 hown3 hg3
      have HP := Lib.hid (OwnSegs.push (s := ⟨s.kind, A2, c2, s.nums⟩) HS2.out HO2.out HBR1.out.size (fun x hx k hk => HS1.out.blocks x hx k hk) HFIT.out hown3 hg3)
      have HB3 := Lib.hid (HBW.out.grown hg3 HBW.out.size (fun k hk => (World.ownsRow.lt HS2.out.row k hk).1))
      have HH3 := Lib.hid (Nat.le_trans HB2S.out hg3.size)
      clear hown3 hg3
      go_wp2_with fail
      go_roundw
      case rel => exact ⟨HB3.out, _, _, j + 1, HLT.out, by go_num, HP.out, HBR1.out.size, HH3.out, Lib.hid (by rw [HAB.out, List.map_append]; rfl)⟩
      case measure => have hm := HLT.out; simp [intOf] at hm ⊢; try omega
    · obtain rfl : j = L.length := by omega
      have hab2 := hab.out
      rw [List.take_length] at hab2
      obtain ⟨A0, c0, rfl, g1, g2⟩ := hown.form
      have HR := Lib.hid (show RetOwn w (L.map Sg.abs) (.returned (.slice A0 M.length c0)) wo from ⟨M, H, A0, c0, rfl, hab2, hown, hH2, hbr⟩)
      clear hown hab hab2 g1 g2
      go_wp2_with fail
      go_ret
      exact HR.out
end Go.Proofs.YtkpbldhkoobnaaaDoor

/-
  How long a right path is (what attrs' seat needs of lib3's Text4).
-/
namespace Go.Proofs.YtkpbldhkoobnaaaDoor
theorem rightA_bounds {L : List Sg} (h : rightB L = true) : L.length ≤ 8 ∧ totN L ≤ 64 := by
  unfold rightB at h
  simp only [Bool.and_eq_true, decide_eq_true_eq] at h
  exact ⟨h.1, h.2.2⟩
end Go.Proofs.YtkpbldhkoobnaaaDoor

/-
  Whether a number is in a path.
-/
namespace Go.Proofs.YtkpbldhkoobnaaaDoor
set_option linter.unusedVariables false
set_option linter.unusedSimpArgs false
open Go.RowKit

/-- Is a number in a list? -/
def inB (z : List Nat) (v : Nat) : Bool := z.any fun x => x == v
theorem has_step {z : List Nat} {v j : Nat} (hj : j < z.length) (h : inB (z.take j) v = false) (hv : v ≠ z.getD j 0) : inB (z.take (j + 1)) v = false := by
  have e : z.getD j 0 = z[j] := by simp [List.getD, hj]
  rw [e] at hv
  unfold inB at h ⊢
  rw [List.take_succ_eq_append_getElem hj, List.any_append, h]
  simpa using fun e => hv e.symm
theorem has_now {z : List Nat} {v j : Nat} (hj : j < z.length) (hv : v = z.getD j 0) : inB z v = true := by
  have e : z.getD j 0 = z[j] := by simp [List.getD, hj]
  rw [e] at hv
  unfold inB
  rw [List.any_eq_true]
  exact ⟨z[j], List.getElem_mem hj, by simp [hv]⟩
/-- What a search leaves: the place where it found, or one below all. -/
def Found (b : Bool) (w : World) (e : Ending) (w' : World) : Prop := ∃ k : Int, e = .returned (.int .i64 k) ∧ -1 ≤ k ∧ k ≤ 1152921504606846976 ∧ decide (0 ≤ k) = b

/-- Is a number in a path? -/
def hasB (L : List Sg) (v : Nat) : Bool := L.any fun s => inB s.nums v
theorem hasB_step {L : List Sg} {v j : Nat} {s : Sg} (hs : L[j]? = some s) (h : hasB (L.take j) v = false) (hn : inB s.nums v = false) : hasB (L.take (j + 1)) v = false := by
  have hj := (List.getElem?_eq_some_iff.1 hs).1
  have e : L[j] = s := (List.getElem?_eq_some_iff.1 hs).2
  rw [List.take_succ_eq_append_getElem hj, e]
  unfold hasB at h ⊢
  rw [List.any_append, h]
  simpa using hn
theorem hasB_now {L : List Sg} {v j : Nat} {s : Sg} (hs : L[j]? = some s) (hn : inB s.nums v = true) : hasB L v = true := by
  unfold hasB
  rw [List.any_eq_true]
  exact ⟨s, List.mem_of_getElem? hs, hn⟩

end Go.Proofs.YtkpbldhkoobnaaaDoor

/-
  As much of a path as counts so much.
-/
namespace Go.Proofs.YtkpbldhkoobnaaaDoor
set_option linter.unusedVariables false
set_option linter.unusedSimpArgs false
open Go.RowKit

theorem drop_seg {L : List Sg} {j : Nat} {s : Sg} (h : L[j]? = some s) : (L.drop j).map Sg.abs = s.abs :: (L.drop (j + 1)).map Sg.abs := by
  obtain ⟨hj, e⟩ := List.getElem?_eq_some_iff.1 h
  rw [List.drop_eq_getElem_cons hj, e]
  rfl
/-- What the loop holds. -/
def BegRel (w : World) (L : List Sg) (N : Nat) (c v i : Value) (wr : World) : Prop :=
  Below w.heap.size w wr ∧ ∃ (M : List Sg) (H j n : Nat), j ≤ L.length ∧ i = .int .i64 (j : Int) ∧ c = .int .i64 (n : Int) ∧ n ≤ N ∧ OwnSegs wr w.heap.size H v M ∧ w.heap.size ≤ H ∧ H ≤ wr.heap.size ∧ M.length ≤ j ∧ Hid (M.map Sg.abs ++ begL ((L.drop j).map Sg.abs) n = begL (L.map Sg.abs) N)

set_option maxHeartbeats 12800000 in
theorem Begin3_any (A : Option Addr) (c : Nat) (L : List Sg) (N : Nat) (w : World) (h : Segs w w.heap.size A L) (hr : rightB L = true) (hN : N ≤ 1000000000) :
    Calls Tryd.prog 100 #[.slice A L.length c, .int .i64 (N : Int)] w (RetOwn w (begL (L.map Sg.abs) N)) := by
  have HL := Lib.hid h
  have hb := rightA_bounds hr
  have hk := Lib.hid (fun (s : Sg) (hs : s ∈ L) => show (s.kind = 1 ∨ s.kind = 2) ∧ s.nums.length ≤ 64 by
    unfold rightB at hr
    simp only [Bool.and_eq_true, decide_eq_true_eq] at hr
    have h1 := List.all_eq_true.1 hr.2.1 s hs
    obtain ⟨j, hj, hj2⟩ := List.mem_iff_getElem.1 hs
    have h3 : s.nums.length ≤ totN L := nums_le (j := j) (by rw [List.getElem?_eq_getElem hj, hj2])
    unfold okS at h1
    simp only [Bool.and_eq_true, Bool.or_eq_true, beq_iff_eq, bne_iff_ne] at h1
    exact ⟨h1.1, by omega⟩)
  clear h hr
  go_enter Tryd.func100, Tryd.ntmps100
  go_wp2_with fail
  go_loopw [1, 5, 10] (fun c v i wr => BegRel w L N c v i wr) (fun _ _ i _ => L.length - (intOf i).toNat)
  case atStart => exact ⟨Below.refl _ _, [], w.heap.size, 0, N, by omega, rfl, rfl, Nat.le_refl _, OwnSegs.nil _ _ _, Nat.le_refl _, Nat.le_refl _, by simp, Lib.hid (by simp)⟩
  case round =>
    obtain ⟨hbr, M, H, j, n, hj, rfl, rfl, hnN, hown, hH, hH2, hMl, hab⟩ := hrel
    obtain ⟨wo, rfl⟩ : ∃ x : World, x = wr := ⟨wr, rfl⟩
    have END : ∀ (W : World), OwnSegs W w.heap.size H u5 M → H ≤ W.heap.size → Below w.heap.size w W → begL ((L.drop j).map Sg.abs) n = [] → ∃ A0 c0, u5 = .slice A0 M.length c0 ∧ RetOwn w (begL (L.map Sg.abs) N) (.returned (.slice A0 M.length c0)) W := by
      intro W h1 h2 h3 h4
      obtain ⟨A0, c0, e, _, _⟩ := h1.form
      refine ⟨A0, c0, e, M, H, A0, c0, rfl, ?_, by rw [← e]; exact h1, h2, h3⟩
      rw [← hab.out, h4, List.append_nil]
    by_cases hlt : j < L.length
    · obtain ⟨s, hs⟩ : ∃ s, L[j]? = some s := ⟨_, List.getElem?_eq_getElem hlt⟩
      obtain ⟨b, off, rfl, hb2, k1, k2, hok⟩ := (HL.out.below hbr (Nat.le_refl _)).at hs
      have hkd := hk.out s (List.mem_of_getElem? hs)
      have hjb : (j : Int) ≤ 8 := by omega
      have hi0 : (0 : Int) ≤ (j : Int) := by omega
      have hi1 : (j : Int) < (L.length : Int) := by omega
      have hbA := (Below.refl wo.heap.size wo).alloc (Nat.le_refl _) (.cells #[.int .i64 s.kind, .slice s.adr s.nums.length s.cap] 87)
      by_cases hn : n = 0
      · have hnz : ((n : Int) == 0) = true := by subst hn; rfl
        obtain ⟨A0, c0, e0, hR⟩ := END _ (hown.below hbA) (by simp; omega) (hbr.trans (hbA.mono hbr.size)) (by rw [hn, begL_zero])
        have HR := Lib.hid hR
        subst e0
        clear hok hown hab hs hlt hkd hbA hbr END hR hn
        go_wp2_with fail
        go_ret
        exact HR.out
      · have hnz : ((n : Int) == 0) = false := by simpa using hn
        have hdr := drop_seg hs
        have hab2 := hab.out
        rw [hdr] at hab2
        simp only [begL] at hab2
        rw [if_neg hn] at hab2
        by_cases hs2 : s.kind = 2
        · have es : (s.kind == 2) = true := by simpa using hs2
          have cb := cells2 (Blk.new wo 87 [.int .i64 s.kind, .slice s.adr s.nums.length s.cap])
          have fb := free2 (Blk.new wo 87 [.int .i64 s.kind, .slice s.adr s.nums.length s.cap])
          have hnb : (n : Int) ≤ 1000000000 := by omega
          have hsl := hkd.2
          obtain ⟨m, hm⟩ : ∃ m, m = min n s.nums.length := ⟨_, rfl⟩
          have hmI : min (n : Int) (s.nums.length : Int) = (m : Int) := by omega
          have hcp := hok.1
          have hm0 : (0 : Int) ≤ (m : Int) := by omega
          have hm1 : (m : Int) ≤ (s.cap : Int) := by omega
          have hadd : (if s.cap = 0 then s.adr else Option.map (fun x => x.add 0) s.adr) = s.adr := by
            split
            · rfl
            · cases s.adr <;> simp [Addr.add]
          have HN0 := hab2
          rw [if_pos (show s.abs.1 = 2 from hs2)] at HN0
          obtain ⟨z, hz⟩ : ∃ z, z = s.nums.take n := ⟨_, rfl⟩
          have hzl : min n s.nums.length = z.length := by rw [hz, List.length_take]
          have HN := Lib.hid (show M.map Sg.abs ++ ((s.kind, z) :: begL ((L.drop (j + 1)).map Sg.abs) (n - s.nums.length)) = begL (L.map Sg.abs) N by rw [hz, hs2]; exact HN0)
          have HWT := Lib.hid (show wt ⟨s.kind, s.adr, s.cap, z⟩ = z.length by unfold wt; rw [if_neg (by show ¬ s.kind = 1; omega)])
          have HOKS := Lib.hid (show Sg.Ok wo w.heap.size ⟨s.kind, s.adr, s.cap, z⟩ from ⟨by show z.length ≤ s.cap; omega, hok.2.1, by rw [hz]; exact hok.2.2.1.take n, fun x hx => hok.2.2.2.1 x (by rw [hz] at hx; exact List.mem_of_mem_take hx), hok.2.2.2.2⟩)
          have HZL := Lib.hid (show z.length ≤ 64 by omega)
          have HZM := Lib.hid (show z.length = min n s.nums.length from hzl.symm)
          have HOW := Lib.hid hown; have HBR := Lib.hid hbr; have HML := Lib.hid hMl; have HLT := Lib.hid hlt
          have HZE := Lib.hid hzl
          clear END hs2 hok hown hbr hMl hlt hbA hab hab2 hdr HN0 hs hn hkd hzl hz
          by_cases hmin : s.nums.length < n
          · have hminI : (s.nums.length : Int) < (n : Int) := by omega
            have hZ := Lib.hid (show Value.slice s.adr s.nums.length s.cap = Value.slice s.adr z.length s.cap by have := HZE.out; rw [show s.nums.length = z.length by omega])
            go_wp2_with fail
            rw [hZ.out]
            clear hm hmI hm0 hm1 hadd hcp cb fb
            have HBK := Lib.hid (Blk.new wo 87 [.int .i64 s.kind, .slice s.adr z.length s.cap])
            have HBA := Lib.hid ((Below.refl wo.heap.size wo).alloc (Nat.le_refl _) (.cells #[.int .i64 s.kind, .slice s.adr z.length s.cap] 87))
            have QW := weight_any ⟨s.kind, s.adr, s.cap, z⟩ (wo.alloc (.cells #[.int .i64 s.kind, .slice s.adr z.length s.cap] 87))
            rw [show wt ⟨s.kind, s.adr, s.cap, z⟩ = z.length from HWT.out] at QW
            refine QW.mono ?_
            rintro e w2 ⟨rfl, hb2'⟩
            have hbA2 : Below wo.heap.size wo w2 := HBA.out.trans (hb2'.mono HBA.out.size)
            have cb2 := cells2 (HBK.out.below hb2' HBK.out.lt)
            have QO := own_any ⟨s.kind, s.adr, s.cap, z⟩ w2 ((HOKS.out.below hbA2 HBR.out.size).lift (Nat.le_trans HBR.out.size hbA2.size)) (by have := HZL.out; show z.length ≤ 1000000000; omega)
            have HS2 := Lib.hid (HOW.out.below hbA2)
            have HB2 := Lib.hid hbA2
            clear QW hb2' hbA2
            go_wp2_with fail
            refine QO.mono ?_
            rintro e w3 ⟨A2, c2, rfl, f1, f2, ho2, hb3⟩
            have HS3 := Lib.hid (HS2.out.below hb3)
            have HO3 := Lib.hid (show Own32 w3 w2.heap.size (Sg.sl ⟨s.kind, A2, c2, z⟩) z from ho2)
            have HBW := Lib.hid (HBR.out.trans ((HB2.out.trans (hb3.mono HB2.out.size)).mono HBR.out.size))
            have HZ3 := Lib.hid hb3.size
            have hml : M.length ≤ 8 := by have := HML.out; omega
            clear QO ho2 hb3 cb2
            go_wp2_with (at_builtin; refine wpList_app_one' isSeg rfl (.tmp 32) (.tmp 35) rfl w.heap.size _ _ _ rfl w3 (Sg.two ⟨s.kind, A2, c2, z⟩) rfl HS3.out.row rfl rfl (two_one _) (by omega) HBW.out.size ?_)
            intro v4 w4 hown4 hg4
            have HP := Lib.hid (OwnSegs.push (s := ⟨s.kind, A2, c2, z⟩) HS3.out HO3.out (Nat.le_trans HBR.out.size HB2.out.size) (fun x hx q hq => HS2.out.blocks x hx q hq) ⟨HOKS.out.2.2.2.1, HOKS.out.2.2.2.2⟩ hown4 hg4)
            have HB4 := Lib.hid (HBW.out.grown hg4 HBW.out.size (fun q hq => (World.ownsRow.lt HS3.out.row q hq).1))
            have HH4 := Lib.hid (Nat.le_trans HZ3.out hg4.size)
            clear hown4 hg4
            go_wp2_with fail
            go_roundw
            case rel =>
              refine ⟨HB4.out, _, _, j + 1, n - s.nums.length, HLT.out, by go_num, ?_, by omega, HP.out, Nat.le_trans HBR.out.size HB2.out.size, HH4.out, ?_, Lib.hid ?_⟩
              · have h9 := HZM.out
                have e9 : wrap64 ((n : Int) - (z.length : Int)) = ((n - s.nums.length : Nat) : Int) := by
                  rw [IntWalk.wrap64_in _ ⟨by omega, by omega⟩]
                  omega
                exact congrArg (Value.int .i64) e9
              · rw [List.length_append]
                have := HML.out
                simp only [List.length_cons, List.length_nil]
                omega
              · rw [List.map_append, List.append_assoc]
                exact HN.out
            case measure =>
              have := HLT.out
              simp [intOf]
              omega
          · have hminI : ¬ (s.nums.length : Int) < (n : Int) := by omega
            have hZ := Lib.hid (show Value.slice s.adr n s.cap = Value.slice s.adr z.length s.cap by have := HZE.out; rw [show n = z.length by omega])
            go_wp2_with fail
            rw [hZ.out]
            clear hm hmI hm0 hm1 hadd hcp cb fb
            have HBK := Lib.hid (Blk.new wo 87 [.int .i64 s.kind, .slice s.adr z.length s.cap])
            have HBA := Lib.hid ((Below.refl wo.heap.size wo).alloc (Nat.le_refl _) (.cells #[.int .i64 s.kind, .slice s.adr z.length s.cap] 87))
            have QW := weight_any ⟨s.kind, s.adr, s.cap, z⟩ (wo.alloc (.cells #[.int .i64 s.kind, .slice s.adr z.length s.cap] 87))
            rw [show wt ⟨s.kind, s.adr, s.cap, z⟩ = z.length from HWT.out] at QW
            refine QW.mono ?_
            rintro e w2 ⟨rfl, hb2'⟩
            have hbA2 : Below wo.heap.size wo w2 := HBA.out.trans (hb2'.mono HBA.out.size)
            have cb2 := cells2 (HBK.out.below hb2' HBK.out.lt)
            have QO := own_any ⟨s.kind, s.adr, s.cap, z⟩ w2 ((HOKS.out.below hbA2 HBR.out.size).lift (Nat.le_trans HBR.out.size hbA2.size)) (by have := HZL.out; show z.length ≤ 1000000000; omega)
            have HS2 := Lib.hid (HOW.out.below hbA2)
            have HB2 := Lib.hid hbA2
            clear QW hb2' hbA2
            go_wp2_with fail
            refine QO.mono ?_
            rintro e w3 ⟨A2, c2, rfl, f1, f2, ho2, hb3⟩
            have HS3 := Lib.hid (HS2.out.below hb3)
            have HO3 := Lib.hid (show Own32 w3 w2.heap.size (Sg.sl ⟨s.kind, A2, c2, z⟩) z from ho2)
            have HBW := Lib.hid (HBR.out.trans ((HB2.out.trans (hb3.mono HB2.out.size)).mono HBR.out.size))
            have HZ3 := Lib.hid hb3.size
            have hml : M.length ≤ 8 := by have := HML.out; omega
            clear QO ho2 hb3 cb2
            go_wp2_with (at_builtin; refine wpList_app_one' isSeg rfl (.tmp 32) (.tmp 35) rfl w.heap.size _ _ _ rfl w3 (Sg.two ⟨s.kind, A2, c2, z⟩) rfl HS3.out.row rfl rfl (two_one _) (by omega) HBW.out.size ?_)
            intro v4 w4 hown4 hg4
            have HP := Lib.hid (OwnSegs.push (s := ⟨s.kind, A2, c2, z⟩) HS3.out HO3.out (Nat.le_trans HBR.out.size HB2.out.size) (fun x hx q hq => HS2.out.blocks x hx q hq) ⟨HOKS.out.2.2.2.1, HOKS.out.2.2.2.2⟩ hown4 hg4)
            have HB4 := Lib.hid (HBW.out.grown hg4 HBW.out.size (fun q hq => (World.ownsRow.lt HS3.out.row q hq).1))
            have HH4 := Lib.hid (Nat.le_trans HZ3.out hg4.size)
            clear hown4 hg4
            go_wp2_with fail
            go_roundw
            case rel =>
              refine ⟨HB4.out, _, _, j + 1, n - s.nums.length, HLT.out, by go_num, ?_, by omega, HP.out, Nat.le_trans HBR.out.size HB2.out.size, HH4.out, ?_, Lib.hid ?_⟩
              · have h9 := HZM.out
                have e9 : wrap64 ((n : Int) - (z.length : Int)) = ((n - s.nums.length : Nat) : Int) := by
                  rw [IntWalk.wrap64_in _ ⟨by omega, by omega⟩]
                  omega
                exact congrArg (Value.int .i64) e9
              · rw [List.length_append]
                have := HML.out
                simp only [List.length_cons, List.length_nil]
                omega
              · rw [List.map_append, List.append_assoc]
                exact HN.out
            case measure =>
              have := HLT.out
              simp [intOf]
              omega
        · have es : (s.kind == 2) = false := by simpa using hs2
          have hs1 : s.kind = 1 := by rcases hkd.1 with h | h; exact h; exact absurd h hs2
          have cb := cells2 (Blk.new wo 87 [.int .i64 s.kind, .slice s.adr s.nums.length s.cap])
          have hnb : (n : Int) ≤ 1000000000 := by omega
          have HN0 := hab2
          rw [if_neg (show ¬ s.abs.1 = 2 from hs2)] at HN0
          obtain ⟨z, hz⟩ : ∃ z, z = s.nums := ⟨_, rfl⟩
          have HN := Lib.hid (show M.map Sg.abs ++ ((s.kind, z) :: begL ((L.drop (j + 1)).map Sg.abs) (n - 1)) = begL (L.map Sg.abs) N by rw [hz]; exact HN0)
          have HWT := Lib.hid (show wt ⟨s.kind, s.adr, s.cap, z⟩ = 1 by unfold wt; rw [if_pos hs1])
          have HOKS := Lib.hid (show Sg.Ok wo w.heap.size ⟨s.kind, s.adr, s.cap, z⟩ by rw [hz]; exact hok)
          have HZL := Lib.hid (show z.length ≤ 64 by rw [hz]; exact hkd.2)
          have HOW := Lib.hid hown; have HBR := Lib.hid hbr; have HML := Lib.hid hMl; have HLT := Lib.hid hlt
          have hn1 : 1 ≤ n := by omega
          have HZE := Lib.hid (show s.nums.length = z.length by rw [hz])
          clear END hs2 hok hown hbr hMl hlt hbA hab hab2 hdr HN0 hs hn hkd hs1 hz
          go_wp2_with fail
          rw [HZE.out]
          clear cb
          have HBK := Lib.hid (Blk.new wo 87 [.int .i64 s.kind, .slice s.adr z.length s.cap])
          have HBA := Lib.hid ((Below.refl wo.heap.size wo).alloc (Nat.le_refl _) (.cells #[.int .i64 s.kind, .slice s.adr z.length s.cap] 87))
          have QW := weight_any ⟨s.kind, s.adr, s.cap, z⟩ (wo.alloc (.cells #[.int .i64 s.kind, .slice s.adr z.length s.cap] 87))
          rw [show wt ⟨s.kind, s.adr, s.cap, z⟩ = 1 from HWT.out] at QW
          refine QW.mono ?_
          rintro e w2 ⟨rfl, hb2'⟩
          have hbA2 : Below wo.heap.size wo w2 := HBA.out.trans (hb2'.mono HBA.out.size)
          have cb2 := cells2 (HBK.out.below hb2' HBK.out.lt)
          have QO := own_any ⟨s.kind, s.adr, s.cap, z⟩ w2 ((HOKS.out.below hbA2 HBR.out.size).lift (Nat.le_trans HBR.out.size hbA2.size)) (by have := HZL.out; show z.length ≤ 1000000000; omega)
          have HS2 := Lib.hid (HOW.out.below hbA2)
          have HB2 := Lib.hid hbA2
          clear QW hb2' hbA2
          go_wp2_with fail
          refine QO.mono ?_
          rintro e w3 ⟨A2, c2, rfl, f1, f2, ho2, hb3⟩
          have HS3 := Lib.hid (HS2.out.below hb3)
          have HO3 := Lib.hid (show Own32 w3 w2.heap.size (Sg.sl ⟨s.kind, A2, c2, z⟩) z from ho2)
          have HBW := Lib.hid (HBR.out.trans ((HB2.out.trans (hb3.mono HB2.out.size)).mono HBR.out.size))
          have HZ3 := Lib.hid hb3.size
          have hml : M.length ≤ 8 := by have := HML.out; omega
          clear QO ho2 hb3 cb2
          go_wp2_with (at_builtin; refine wpList_app_one' isSeg rfl (.tmp 32) (.tmp 35) rfl w.heap.size _ _ _ rfl w3 (Sg.two ⟨s.kind, A2, c2, z⟩) rfl HS3.out.row rfl rfl (two_one _) (by omega) HBW.out.size ?_)
          intro v4 w4 hown4 hg4
          have HP := Lib.hid (OwnSegs.push (s := ⟨s.kind, A2, c2, z⟩) HS3.out HO3.out (Nat.le_trans HBR.out.size HB2.out.size) (fun x hx q hq => HS2.out.blocks x hx q hq) ⟨HOKS.out.2.2.2.1, HOKS.out.2.2.2.2⟩ hown4 hg4)
          have HB4 := Lib.hid (HBW.out.grown hg4 HBW.out.size (fun q hq => (World.ownsRow.lt HS3.out.row q hq).1))
          have HH4 := Lib.hid (Nat.le_trans HZ3.out hg4.size)
          clear hown4 hg4
          go_wp2_with fail
          go_roundw
          case rel =>
            refine ⟨HB4.out, _, _, j + 1, n - 1, HLT.out, by go_num, ?_, by omega, HP.out, Nat.le_trans HBR.out.size HB2.out.size, HH4.out, ?_, Lib.hid ?_⟩
            · first | (congr 1; omega) | (go_num; omega) | go_num
            · rw [List.length_append]
              have := HML.out
              simp only [List.length_cons, List.length_nil]
              omega
            · rw [List.map_append, List.append_assoc]
              exact HN.out
          case measure =>
            have := HLT.out
            simp [intOf]
            omega
    · obtain rfl : j = L.length := by omega
      obtain ⟨A0, c0, e0, hR⟩ := END _ hown hH2 hbr (by rw [List.drop_length]; rfl)
      have HR := Lib.hid hR
      subst e0
      have hlI : ¬ (L.length : Int) < (L.length : Int) := by omega
      clear hown hab END hbr hR
      go_wp2_with fail
      go_ret
      exact HR.out
end Go.Proofs.YtkpbldhkoobnaaaDoor

/-
  All numbers of a path, and whether one is there: by the document.
-/
namespace Go.Proofs.YtkpbldhkoobnaaaDoor
set_option linter.unusedVariables false
set_option linter.unusedSimpArgs false
open Go.RowKit

theorem take32_step {z : List Nat} {k : Nat} (h : k < z.length) : z.take (k + 1) = z.take k ++ [z.getD k 0] := by
  have e : z.getD k 0 = z[k] := by simp [List.getD, h]
  rw [List.take_succ_eq_append_getElem h, e]
def FlatRelB (w : World) (y z : List Nat) (v i : Value) (wr : World) : Prop :=
  Below w.heap.size w wr ∧ ∃ j : Nat, j ≤ z.length ∧ i = .int .i64 (j : Int) ∧ Own32 wr w.heap.size v (y ++ z.take j)

set_option maxHeartbeats 3200000 in
theorem RefFlat_any (A : Option Addr) (c : Nat) (L : List Sg) (w : World) (h : Segs w w.heap.size A L) (hl : L.length ≤ 1000000000) (ht : totN L ≤ 35184372088832) :
    Calls Tryd.prog 25 #[.slice A L.length c] w (Ret32 w (flatN L)) := by
  have HS := Lib.hid h; clear h
  go_enter Tryd.func25, Tryd.ntmps25
  go_wp2_with fail
  go_loopw [3, 4] (fun v i wr => FlatRel w L v i wr) (fun _ i _ => L.length - (intOf i).toNat)
  case atStart => exact ⟨Below.refl _ _, 0, Nat.zero_le _, rfl, Own32.nil _ _⟩
  case round =>
    obtain ⟨hbr, j, hj, rfl, hown⟩ := hrel
    by_cases hlt : j < L.length
    · obtain ⟨s, hs⟩ : ∃ s, L[j]? = some s := ⟨_, List.getElem?_eq_getElem hlt⟩
      have HST := Lib.hid (flatN_step hs)
      have HSZ := Lib.hid (show (flatN (L.take j)).length + s.nums.length ≤ 35184372088832 by
        have h1 : totN (L.take (j + 1)) = totN (L.take j) + s.nums.length := sum_take (f := fun s => s.nums.length) hs
        have h2 : totN (L.take (j + 1)) ≤ totN L := sum_take_le (fun s => s.nums.length) L (j + 1)
        rw [flatN_len]; omega)
      have hsn : s.nums.length ≤ 35184372088832 := by have := HSZ.out; omega
      have HSS := Lib.hid hs
      have HOW := Lib.hid hown; have HBR := Lib.hid hbr; have HJ := Lib.hid hlt
      clear hs hown hbr
      go_wp2_with fail
      go_loopw [3, 5] (fun v i wr => FlatRelB w (flatN (L.take j)) s.nums v i wr) (fun _ i _ => s.nums.length - (intOf i).toNat)
      case atStart => exact ⟨HBR.out, 0, Nat.zero_le _, rfl, by simpa using HOW.out⟩
      case round =>
        clear HOW HBR
        obtain ⟨hbr, k, hk, rfl, hown⟩ := hrel
        obtain ⟨b, off, rfl, hb, k1, k2, hok⟩ := (HS.out.below hbr (Nat.le_refl _)).at HSS.out
        have HBR := Lib.hid hbr
        by_cases hlt2 : k < s.nums.length
        · obtain ⟨b2, off2, hA2, hb2, k3⟩ := hok.2.2.1.cell hlt2
          have HTK := Lib.hid (take32_step hlt2)
          obtain ⟨x, hxe⟩ : ∃ x, x = s.nums.getD k 0 := ⟨_, rfl⟩
          rw [← hxe] at k3 HTK
          rw [hA2] at k2
          have HOW := Lib.hid hown; have HK := Lib.hid hlt2
          have HLN := Lib.hid (show ((flatN (L.take j) ++ s.nums.take k).length + 1) * 4 ≤ 140737488355328 by
            have h1 := HSZ.out
            rw [List.length_append, List.length_take]
            omega)
          clear hxe hok hown hbr hA2
          go_wp2_with (at_builtin; go_loud (refine wpList_app_one isU32 rfl (.tmp 22) (.tmp 31) rfl w _ _ (cells32 _) rfl wr [.int .u32 (x : Int)] rfl HOW.out rfl rfl (by simp [Value.oneCell']) HLN.out HBR.out ?_))
          intro v1 w1 hown1 hg1 hb1
          have O1 := Lib.hid (show Own32 w1 w.heap.size v1 (flatN (L.take j) ++ s.nums.take (k + 1)) from by
            rw [HTK.out, ← List.append_assoc]
            have e : ((flatN (L.take j) ++ s.nums.take k) ++ [x]).length = (flatN (L.take j)).length + k + 1 := by
              have := HK.out
              simp only [List.length_append, List.length_take, List.length_cons, List.length_nil]
              omega
            unfold Own32 cells32 at *
            rw [List.map_append, e]
            exact hown1)
          have HB1 := Lib.hid hb1
          clear hown1 hg1 hb1
          go_wp2_with fail
          go_roundw
          case rel => exact ⟨HB1.out, k + 1, HK.out, by go_num, O1.out⟩
          case measure => have := HK.out; simp [intOf]; omega
        · obtain rfl : k = s.nums.length := by omega
          rw [List.take_length] at hown
          have HOW := Lib.hid hown
          clear hown hbr hok
          go_wp2_with fail
          go_roundw
          case rel => exact ⟨HBR.out, j + 1, HJ.out, by go_num, by rw [HST.out]; exact HOW.out⟩
          case measure => have := HJ.out; simp [intOf]; omega
    · obtain rfl : j = L.length := by omega
      rw [List.take_length] at hown
      obtain ⟨A1, c1, rfl, f1, f2⟩ := hown.form
      have HAT := Lib.hid hown; have HBR := Lib.hid hbr
      clear hown hbr
      go_wp2_with fail
      go_ret
      exact ⟨_, _, rfl, f1, f2, HAT.out, HBR.out⟩

theorem hasB_flat (L : List Sg) (v : Nat) : inB (flatN L) v = hasB L v := by
  unfold inB flatN hasB inB
  rw [List.any_flatMap]

end Go.Proofs.YtkpbldhkoobnaaaDoor

/-
  A path in narrow numbers, and one in wide ones, together (written by gen03m.py).
-/
namespace Go.Proofs.YtkpbldhkoobnaaaDoor
set_option linter.unusedVariables false
set_option linter.unusedSimpArgs false
open Go.RowKit

theorem begL_len : ∀ (r : List (Int × List Nat)) (n : Nat), (begL r n).length ≤ r.length := by
  intro r
  induction r with
  | nil => intro n; simp [begL]
  | cons s r ih =>
    intro n
    unfold begL
    split
    · simp
    · split
      · have := ih (n - s.2.length); simp only [List.length_cons]; omega
      · have := ih (n - 1); simp only [List.length_cons]; omega
theorem begL_tot : ∀ (r : List (Int × List Nat)) (n : Nat), totA (begL r n) ≤ totA r := by
  intro r
  induction r with
  | nil => intro n; simp [begL]
  | cons s r ih =>
    intro n
    unfold begL
    split
    · simp [totA]
    · split
      · have := ih (n - s.2.length)
        simp only [totA, List.map_cons, List.sum_cons, List.length_take] at this ⊢
        omega
      · have := ih (n - 1)
        simp only [totA, List.map_cons, List.sum_cons] at this ⊢
        omega
theorem flat_app (M N : List Sg) : flatS (M ++ N) = flatS M ++ flatS N := by simp [flatS]
theorem flat_one (M : List Sg) : ∀ u ∈ flatS M, u.oneCell' = true := by
  intro u hu
  obtain ⟨s, _, hs⟩ := List.mem_flatMap.1 hu
  exact two_one s u hs
/-- A list of segments of the call's own can be read. -/
theorem segs_row {w : World} {B n c : Nat} {A : Option Addr} {M : List Sg} (hrow : w.ownsRow B 87 2 (.slice A n c) M.length (flatS M)) (hown : ∀ s ∈ M, ∃ B', Own32 w B' s.sl s.nums) (hfit : ∀ s ∈ M, s.Fit) : Segs w w.heap.size A M := by
  intro hl
  rcases hrow.2 with ⟨hv, hn⟩ | ⟨g, cap, cur, hv, hbg, hg, hnc, hcm, hcs, htake⟩
  · exact absurd (List.eq_nil_of_length_eq_zero hn) hl
  · have hA : A = some ⟨g, 0, none⟩ := by injection hv
    refine ⟨g, 0, hA, (Array.getElem?_eq_some_iff.1 hg).1, fun j s hj => ?_⟩
    have hc := World.ownsRow.cells hrow (g := g) (by subst hA; rfl)
    have f := flat_at M j s hj
    have c1 := hc (j * 2) _ f.1
    have c2 := hc (j * 2 + 1) _ f.2
    rw [Addr.add_lit] at c1 c2
    obtain ⟨B', ho⟩ := hown s (List.mem_of_getElem? hj)
    obtain ⟨A', c', hsl, g1, g2⟩ := ho.form
    simp only [Sg.sl, Value.slice.injEq] at hsl
    obtain ⟨h1, h2, h3⟩ := hsl
    subst h1 h3
    exact ⟨c1, c2, g1, g2, Own32.at ho, (hfit s (List.mem_of_getElem? hj)).1, (hfit s (List.mem_of_getElem? hj)).2⟩
theorem own_news {w : World} {B H n c : Nat} {A : Option Addr} {M : List Sg} (h : OwnSegs w B H (.slice A n c) M) : n ≠ 0 → ∃ ad, A = some ad ∧ ∀ j u, (flatS M)[j]? = some u → w.cell? (ad.add j) = some u := by
  intro hn0
  rcases h.row.2 with ⟨hv, hn⟩ | ⟨g, cap, cur, hv, hbg, hg, hnc, hcm, hcs, htake⟩
  · injection hv with _ h2 _
    omega
  · have hA : A = some ⟨g, 0, none⟩ := by injection hv
    subst hA
    exact ⟨_, rfl, World.ownsRow.cells h.row (g := g) rfl⟩
/-- A path in rows of a call's own, wherever they lie. -/
def PathT (w : World) (v : Value) (M : List Sg) : Prop := (∃ B, w.ownsRow B 87 2 v M.length (flatS M)) ∧ (∀ s ∈ M, ∃ B', Own32 w B' s.sl s.nums) ∧ ∀ s ∈ M, s.Fit
theorem rowT_below {w w' : World} {B T size n : Nat} {v : Value} {xs : List Value} (h : w.ownsRow B T size v n xs) (hb : Below w.heap.size w w') : w'.ownsRow B T size v n xs := by
  refine ⟨h.1, ?_⟩
  rcases h.2 with h | ⟨g, cap, cur, hv, hB, hg, h1, h2, h3, h4⟩
  · exact .inl h
  · exact .inr ⟨g, cap, cur, hv, hB, (hb.block g (Array.getElem?_eq_some_iff.1 hg).1).trans hg, h1, h2, h3, h4⟩
theorem PathT.below {w w' : World} {v : Value} {M : List Sg} (h : PathT w v M) (hb : Below w.heap.size w w') : PathT w' v M :=
  ⟨h.1.elim fun B q => ⟨B, rowT_below q hb⟩, fun s hs => (h.2.1 s hs).elim fun B q => ⟨B, rowT_below q hb⟩, h.2.2⟩
theorem PathT.segs {w : World} {n c : Nat} {A : Option Addr} {M : List Sg} (h : PathT w (.slice A n c) M) : Segs w w.heap.size A M := h.1.elim fun B q => segs_row q h.2.1 h.2.2
/-- What Merge leaves. -/
def RetT (w : World) (r : List (Int × List Nat)) (e : Ending) (w' : World) : Prop :=
  ∃ (M : List Sg) (A : Option Addr) (c : Nat), e = .returned (.slice A M.length c) ∧ M.map Sg.abs = r ∧ M.length ≤ c ∧ c ≤ maxLen ∧ PathT w' (.slice A M.length c) M ∧ Below w.heap.size w w'
theorem copy_ret {w W w' : World} {r : List (Int × List Nat)} {e : Ending} (hb : Below w.heap.size w W) (h : RetOwn W r e w') : RetT w r e w' := by
  obtain ⟨M, H, A, c, he, hM, ho, hH, hb'⟩ := h
  obtain ⟨A1, c1, hv, g1, g2⟩ := ho.form
  injection hv with h1 h2 h3
  subst h1 h3
  exact ⟨M, A, c, he, hM, g1, g2, ⟨⟨_, ho.row⟩, fun s hs => ⟨_, ho.own s hs⟩, ho.fit⟩, hb.trans (hb'.mono hb.size)⟩

set_option maxHeartbeats 12800000 in
theorem Merge3_any (A A' : Option Addr) (c c' : Nat) (L N : List Sg) (w : World) (h : Segs w w.heap.size A L) (h' : Segs w w.heap.size A' N) (hc : L.length ≤ c) (hm : c ≤ maxLen) (hc' : N.length ≤ c') (hm' : c' ≤ maxLen)
    (ht : totN L ≤ 1048576) (hL : L.length ≤ 12) (ht' : totN N ≤ 1048576) (hN : N.length ≤ 12) :
    Calls Tryd.prog 83 #[.slice A L.length c, .slice A' N.length c'] w (RetT w (mergeL (L.map Sg.abs) (N.map Sg.abs))) := by
  have HS := Lib.hid (fun W (hB : Below w.heap.size w W) => (h.below hB (Nat.le_refl _)).lift hB.size)
  have HS' := Lib.hid (fun W (hB : Below w.heap.size w W) => (h'.below hB (Nat.le_refl _)).lift hB.size)
  have Q1 := Lib.hid (Count_any A c L w h hc hm (by omega))
  have Q2 := Lib.hid (fun W (hB : Below w.heap.size w W) => Count_any A' c' N W (HS'.out W hB) hc' hm' (by omega))
  have Q3 := Lib.hid (fun W (hB : Below w.heap.size w W) => Right_any A c L W (HS.out W hB) hc hm (by omega))
  have Q4 := Lib.hid (fun W (hB : Below w.heap.size w W) => Right_any A' c' N W (HS'.out W hB) hc' hm' (by omega))
  have QC := Lib.hid (fun W (hB : Below w.heap.size w W) => Copied_any A c L W (HS.out W hB) (by omega) (by omega))
  have QC' := Lib.hid (fun W (hB : Below w.heap.size w W) => Copied_any A' c' N W (HS'.out W hB) (by omega) (by omega))
  have hcl := cnt_le L
  have hcn := cnt_le N
  have HCN := Lib.hid hcn
  have e1 := cnt_abs L
  have e2 := cnt_abs N
  obtain ⟨x, hx⟩ : ∃ x, x = cntN L := ⟨_, rfl⟩
  obtain ⟨y, hy⟩ : ∃ y, y = cntN N := ⟨_, rfl⟩
  rw [← hx] at Q1 e1 hcl
  rw [← hy] at Q2 e2 hcn
  have hxb : (x : Int) ≤ 2000000 := by omega
  have hyb : (y : Int) ≤ 2000000 := by omega
  have HX := Lib.hid e1; have HY := Lib.hid e2
  have HTN := Lib.hid (And.intro ht' hN)
  clear h h' hx hy e1 e2 hcl hcn
  by_cases hlt : x < y
  · have hltI : (x : Int) - (y : Int) < 0 := by omega
    have HE := Lib.hid (show mergeL (L.map Sg.abs) (N.map Sg.abs) = L.map Sg.abs by unfold mergeL; rw [← HX.out, ← HY.out, if_pos (.inl hlt)])
    clear hlt
    go_enter Tryd.func83, Tryd.ntmps83
    go_wp2_with fail
    refine Q1.out.mono ?_
    rintro e w1 ⟨rfl, hb1⟩
    have HB1 := Lib.hid hb1; clear hb1
    go_wp2_with fail
    refine (Q2.out _ HB1.out).mono ?_
    rintro e w2 ⟨rfl, hb2⟩
    have HB2 := Lib.hid (HB1.out.trans (hb2.mono HB1.out.size)); clear hb2
    go_wp2_with fail
    refine (QC.out _ HB2.out).mono ?_
    rintro e w9 ⟨M9, H9, A9, d9, rfl, hM9, ho9, hH9, hb9⟩
    have HR9 := Lib.hid (copy_ret HB2.out (show RetOwn _ (L.map Sg.abs) (.returned (.slice A9 M9.length d9)) w9 from ⟨M9, H9, A9, d9, rfl, hM9, ho9, hH9, hb9⟩))
    clear hM9 ho9 hH9 hb9
    go_wp2_with fail
    go_ret
    rw [HE.out]
    exact HR9.out
  · have hltI : ¬ (x : Int) - (y : Int) < 0 := by omega
    obtain ⟨d, hd⟩ : ∃ d, d = x - y := ⟨_, rfl⟩
    have hdI : (x : Int) - (y : Int) = (d : Int) := by omega
    have hdn : ¬ (d : Int) < 0 := by omega
    have HD := Lib.hid hd
    have HNLT := Lib.hid hlt
    have HDB := Lib.hid (show d ≤ 1000000000 by omega)
    clear hd hltI hlt
    by_cases hn0 : N.length = 0
    · have hnz : ((N.length : Int) == 0) = true := by rw [hn0]; rfl
      have HE := Lib.hid (show mergeL (L.map Sg.abs) (N.map Sg.abs) = L.map Sg.abs by unfold mergeL; rw [if_pos (.inr (.inl (by rw [List.eq_nil_of_length_eq_zero hn0]; rfl)))])
      clear hn0
      go_enter Tryd.func83, Tryd.ntmps83
      go_wp2_with fail
      refine Q1.out.mono ?_
      rintro e w1 ⟨rfl, hb1⟩
      have HB1 := Lib.hid hb1; clear hb1
      go_wp2_with fail
      refine (Q2.out _ HB1.out).mono ?_
      rintro e w2 ⟨rfl, hb2⟩
      have HB2 := Lib.hid (HB1.out.trans (hb2.mono HB1.out.size)); clear hb2
      go_wp2_with fail
      refine (QC.out _ HB2.out).mono ?_
      rintro e w9 ⟨M9, H9, A9, d9, rfl, hM9, ho9, hH9, hb9⟩
      have HR9 := Lib.hid (copy_ret HB2.out (show RetOwn _ (L.map Sg.abs) (.returned (.slice A9 M9.length d9)) w9 from ⟨M9, H9, A9, d9, rfl, hM9, ho9, hH9, hb9⟩))
      clear hM9 ho9 hH9 hb9
      go_wp2_with fail
      go_ret
      rw [HE.out]
      exact HR9.out
    · have hnz : ((N.length : Int) == 0) = false := by simpa using hn0
      have HN0 := Lib.hid hn0
      clear hn0
      cases hr : rightB L with
      | false =>
        rw [hr] at Q3
        have HE := Lib.hid (show mergeL (L.map Sg.abs) (N.map Sg.abs) = L.map Sg.abs by unfold mergeL; rw [if_pos (.inr (.inr (.inl (by rw [← right_abs]; exact hr))))])
        clear hr
        go_enter Tryd.func83, Tryd.ntmps83
        go_wp2_with fail
        refine Q1.out.mono ?_
        rintro e w1 ⟨rfl, hb1⟩
        have HB1 := Lib.hid hb1; clear hb1
        go_wp2_with fail
        refine (Q2.out _ HB1.out).mono ?_
        rintro e w2 ⟨rfl, hb2⟩
        have HB2 := Lib.hid (HB1.out.trans (hb2.mono HB1.out.size)); clear hb2
        go_wp2_with fail
        refine (Q3.out _ HB2.out).mono ?_
        rintro e w3 ⟨rfl, hb3⟩
        have HB3 := Lib.hid (HB2.out.trans (hb3.mono HB2.out.size)); clear hb3
        go_wp2_with fail
        refine (QC.out _ HB3.out).mono ?_
        rintro e w9 ⟨M9, H9, A9, d9, rfl, hM9, ho9, hH9, hb9⟩
        have HR9 := Lib.hid (copy_ret HB3.out (show RetOwn _ (L.map Sg.abs) (.returned (.slice A9 M9.length d9)) w9 from ⟨M9, H9, A9, d9, rfl, hM9, ho9, hH9, hb9⟩))
        clear hM9 ho9 hH9 hb9
        go_wp2_with fail
        go_ret
        rw [HE.out]
        exact HR9.out
      | true =>
        rw [hr] at Q3
        cases hr' : rightB N with
        | false =>
          rw [hr'] at Q4
          have HE := Lib.hid (show mergeL (L.map Sg.abs) (N.map Sg.abs) = L.map Sg.abs by unfold mergeL; rw [if_pos (.inr (.inr (.inr (by rw [← right_abs]; exact hr'))))])
          clear hr hr'
          go_enter Tryd.func83, Tryd.ntmps83
          go_wp2_with fail
          refine Q1.out.mono ?_
          rintro e w1 ⟨rfl, hb1⟩
          have HB1 := Lib.hid hb1; clear hb1
          go_wp2_with fail
          refine (Q2.out _ HB1.out).mono ?_
          rintro e w2 ⟨rfl, hb2⟩
          have HB2 := Lib.hid (HB1.out.trans (hb2.mono HB1.out.size)); clear hb2
          go_wp2_with fail
          refine (Q3.out _ HB2.out).mono ?_
          rintro e w3 ⟨rfl, hb3⟩
          have HB3 := Lib.hid (HB2.out.trans (hb3.mono HB2.out.size)); clear hb3
          go_wp2_with fail
          refine (Q4.out _ HB3.out).mono ?_
          rintro e w4 ⟨rfl, hb4⟩
          have HB4 := Lib.hid (HB3.out.trans (hb4.mono HB3.out.size)); clear hb4
          go_wp2_with fail
          refine (QC.out _ HB4.out).mono ?_
          rintro e w9 ⟨M9, H9, A9, d9, rfl, hM9, ho9, hH9, hb9⟩
          have HR9 := Lib.hid (copy_ret HB4.out (show RetOwn _ (L.map Sg.abs) (.returned (.slice A9 M9.length d9)) w9 from ⟨M9, H9, A9, d9, rfl, hM9, ho9, hH9, hb9⟩))
          clear hM9 ho9 hH9 hb9
          go_wp2_with fail
          go_ret
          rw [HE.out]
          exact HR9.out
        | true =>
          rw [hr'] at Q4
          have QB := Lib.hid (fun W (hB : Below w.heap.size w W) => Begin3_any A c L d W (HS.out W hB) hr HDB.out)
          have HR2 := Lib.hid (And.intro (rightA_bounds hr) (rightA_bounds hr'))
          have HMG := Lib.hid (show mergeL (L.map Sg.abs) (N.map Sg.abs) = if rightA (begL (L.map Sg.abs) d ++ N.map Sg.abs) = true then begL (L.map Sg.abs) d ++ N.map Sg.abs else L.map Sg.abs by
            unfold mergeL
            rw [← HX.out, ← HY.out, ← HD.out, if_neg]
            intro e
            rcases e with e | e | e | e
            · exact HNLT.out e
            · exact HN0.out (by simpa using congrArg List.length e)
            · rw [← right_abs, hr] at e; cases e
            · rw [← right_abs, hr'] at e; cases e)
          clear hr hr'
          go_enter Tryd.func83, Tryd.ntmps83
          go_wp2_with fail
          refine Q1.out.mono ?_
          rintro e w1 ⟨rfl, hb1⟩
          have HB1 := Lib.hid hb1; clear hb1
          go_wp2_with fail
          refine (Q2.out _ HB1.out).mono ?_
          rintro e w2 ⟨rfl, hb2⟩
          have HB2 := Lib.hid (HB1.out.trans (hb2.mono HB1.out.size)); clear hb2
          go_wp2_with fail
          refine (Q3.out _ HB2.out).mono ?_
          rintro e w3 ⟨rfl, hb3⟩
          have HB3 := Lib.hid (HB2.out.trans (hb3.mono HB2.out.size)); clear hb3
          go_wp2_with fail
          refine (Q4.out _ HB3.out).mono ?_
          rintro e w4 ⟨rfl, hb4⟩
          have HB4 := Lib.hid (HB3.out.trans (hb4.mono HB3.out.size)); clear hb4
          go_wp2_with fail
          refine (QB.out _ HB4.out).mono ?_
          rintro e w5 ⟨M1, H1, A1, d1, rfl, hM1, ho1, hH1, hb5⟩
          have HB5 := Lib.hid (HB4.out.trans (hb5.mono HB4.out.size))
          have HO1 := Lib.hid ho1; have HM1 := Lib.hid hM1; have HB45 := Lib.hid hb5
          clear ho1 hM1 hH1 hb5
          go_wp2_with fail
          refine (QC'.out _ HB5.out).mono ?_
          rintro e w6 ⟨M2, H2, A2, d2, rfl, hM2, ho2, hH2, hb6⟩
          have HB6 := Lib.hid (HB5.out.trans (hb6.mono HB5.out.size))
          have HO2 := Lib.hid ho2; have HM2 := Lib.hid hM2
          have HO1' := Lib.hid (HO1.out.below hb6)
          have HB46 := Lib.hid (HB45.out.trans (hb6.mono HB45.out.size))
          have hl1 : M1.length ≤ 8 := by
            have e3 := congrArg List.length HM1.out
            rw [List.length_map] at e3
            have e4 := begL_len (L.map Sg.abs) d
            rw [List.length_map] at e4
            have := HR2.out.1.1
            omega
          have hl2 : M2.length ≤ 8 := by
            have e3 := congrArg List.length hM2
            rw [List.length_map, List.length_map] at e3
            have := HR2.out.2.1
            omega
          have ht1 : totN M1 ≤ 64 := by
            rw [tot_abs, HM1.out]
            have e4 := begL_tot (L.map Sg.abs) d
            rw [← tot_abs] at e4
            have := HR2.out.1.2
            omega
          have ht2 : totN M2 ≤ 64 := by
            rw [tot_abs, hM2, ← tot_abs]
            exact HR2.out.2.2
          have HT12 := Lib.hid (And.intro ht1 ht2)
          clear ho2 hM2 hH2 hb6 ht1 ht2
          go_wp2_with (at_builtin; refine wpList_app isSeg rfl (.tmp 33) (.tmp 35) rfl w4 _ M1.length (flatS M1) rfl HO1'.out.row A2 M2.length d2 (flatS M2) rfl (flat_len M2) (own_news HO2.out) (flat_one M2) (by omega) HB46.out ?_)
          intro v7 w7 hrow7 hg7 hb7
          have hrow : w7.ownsRow w4.heap.size 87 2 v7 (M1 ++ M2).length (flatS (M1 ++ M2)) := by rw [List.length_append, flat_app]; exact hrow7
          have hown7 : ∀ s ∈ M1 ++ M2, ∃ B', Own32 w7 B' s.sl s.nums := fun s hs => by
            rcases List.mem_append.1 hs with e | e
            · exact ⟨_, World.ownsRow.kept (HO1'.out.own s e) hg7 (own_types (HO1'.out.own s e) HO1'.out.row segNe)⟩
            · exact ⟨_, World.ownsRow.kept (HO2.out.own s e) hg7 (own_types (HO2.out.own s e) HO1'.out.row segNe)⟩
          have hfit7 : ∀ s ∈ M1 ++ M2, s.Fit := fun s hs => by
            rcases List.mem_append.1 hs with e | e
            · exact HO1'.out.fit s e
            · exact HO2.out.fit s e
          obtain ⟨A7, d7, rfl, g1, g2⟩ : ∃ A7 d7, v7 = .slice A7 (M1 ++ M2).length d7 ∧ (M1 ++ M2).length ≤ d7 ∧ d7 ≤ maxLen := by
            rcases hrow.2 with ⟨rfl, hn⟩ | ⟨g, cap, cur, rfl, hbg, hg, hnc, hcm, hcs, htake⟩
            · exact ⟨none, 0, by rw [hn], by omega, Nat.zero_le _⟩
            · exact ⟨_, cap, rfl, hnc, hcm⟩
          have hsg := segs_row hrow hown7 hfit7
          have hpt : PathT w7 (.slice A7 (M1 ++ M2).length d7) (M1 ++ M2) := ⟨⟨_, hrow⟩, hown7, hfit7⟩
          have hab : (M1 ++ M2).map Sg.abs = begL (L.map Sg.abs) d ++ N.map Sg.abs := by rw [List.map_append, HM1.out, HM2.out]
          have HB7 := Lib.hid (HB4.out.trans (hb7.mono HB4.out.size))
          have htM : totN (M1 ++ M2) ≤ 200 := by
            have := HT12.out
            unfold totN at this ⊢
            rw [List.map_append, List.sum_append]
            omega
          obtain ⟨M, hM⟩ : ∃ M, M = M1 ++ M2 := ⟨_, rfl⟩
          rw [← hM] at hsg hab g1 htM hpt ⊢
          have Q5 := Right_any A7 d7 M w7 hsg g1 g2 (by omega)
          rw [right_abs, hab] at Q5
          have Q5 := Lib.hid Q5
          have HSG := Lib.hid hpt; have HAB := Lib.hid hab
          clear hpt hrow hrow7 hg7 hb7 hown7 hfit7 hsg hab htM hM hl1 hl2
          cases hra : rightA (begL (L.map Sg.abs) d ++ N.map Sg.abs) with
          | true =>
            rw [hra] at Q5
            have HE := Lib.hid (show mergeL (L.map Sg.abs) (N.map Sg.abs) = begL (L.map Sg.abs) d ++ N.map Sg.abs by rw [HMG.out, hra, if_pos rfl])
            clear hra
            go_wp2_with fail
            refine Q5.out.mono ?_
            rintro e w8 ⟨rfl, hb8⟩
            go_wp2_with fail
            go_ret
            rw [HE.out]
            exact ⟨M, A7, d7, rfl, HAB.out, g1, g2, HSG.out.below hb8, HB7.out.trans (hb8.mono HB7.out.size)⟩
          | false =>
            rw [hra] at Q5
            have HE := Lib.hid (show mergeL (L.map Sg.abs) (N.map Sg.abs) = L.map Sg.abs by rw [HMG.out, hra, if_neg (by decide)])
            clear hra
            go_wp2_with fail
            refine Q5.out.mono ?_
            rintro e w8 ⟨rfl, hb8⟩
            have HB8 := Lib.hid (HB7.out.trans (hb8.mono HB7.out.size)); clear hb8
            go_wp2_with fail
            refine (QC.out _ HB8.out).mono ?_
            rintro e w9 ⟨M9, H9, A9, d9, rfl, hM9, ho9, hH9, hb9⟩
            have HR9 := Lib.hid (copy_ret HB8.out (show RetOwn _ (L.map Sg.abs) (.returned (.slice A9 M9.length d9)) w9 from ⟨M9, H9, A9, d9, rfl, hM9, ho9, hH9, hb9⟩))
            clear hM9 ho9 hH9 hb9
            go_wp2_with fail
            go_ret
            rw [HE.out]
            exact HR9.out
end Go.Proofs.YtkpbldhkoobnaaaDoor

/-
  What stands beside narrow numbers is put in: the program's (written by gen04n.py).
-/
namespace Go.Proofs.YtkpbldhkoobnaaaDoor
set_option linter.unusedVariables false
set_option linter.unusedSimpArgs false
open Go.RowKit

theorem PathT.keep {w w' : World} {v : Value} {M : List Sg} {g T : Nat} {cs : List Value} (h : PathT w v M) (hk : Blk w g T cs) (t1 : (87 : TypeId) ≠ T) (t2 : (23 : TypeId) ≠ T) (hg : w.grownBy w' (some g)) : PathT w' v M :=
  ⟨h.1.elim fun B q => ⟨B, row_keep q hk t1 hg⟩, fun s hs => (h.2.1 s hs).elim fun B q => ⟨B, row_keep q hk t2 hg⟩, h.2.2⟩
/-- What widen leaves. -/
def WidePost (W : World) (gx : Nat) (S T : Rs) (cv rv kv wv av : Value) (e : Ending) (W' : World) : Prop :=
  ∃ (M : List Sg) (pA : Option Addr) (pc : Nat), e = .returned (.tuple #[]) ∧ W.grownBy W' (some gx) ∧ M.length ≤ pc ∧ pc ≤ maxLen ∧
    Blk W' gx 75 [.bool false, .int .i64 (S.org : Int), .slice pA M.length pc, .int .u32 (S.next : Int), .int .i64 S.med, .int .i64 S.pref, .bool S.atomic, .bool S.has, .int .u32 (T.aas : Int), .int .u32 (T.aad : Int), cv, rv, kv, wv, av] ∧ PathT W' (.slice pA M.length pc) M ∧ M.map Sg.abs = T.path

set_option maxRecDepth 100000 in
set_option maxHeartbeats 6400000 in
theorem widen_stay (B gx : Nat) (S : Rs) (W : World) (pv cv rv kv wv av : Value) (k1 : Blk W gx 75 (rdRow false S pv cv rv kv wv av)) (k2 : RowsR B W S pv cv rv kv wv av) (hp : S.path.length ≤ 12 ∧ totA S.path ≤ 1048576 ∧ S.wpath.length ≤ 12 ∧ totA S.wpath ≤ 1048576) (hh : S.has = true) (ha : S.aas ≠ 23456) :
    Calls Tryd.prog 62 #[.pointer (some ⟨gx, 0, none⟩)] W (WidePost W gx S S cv rv kv wv av) := by
  obtain ⟨_, _, M0, po, pM⟩ := k2.path
  obtain ⟨pA, pc, rfl, p1, p2⟩ := po.form
  have x0 : W.cell? ⟨gx, 0, none⟩ = some (.bool false) := k1.cell 0
  have x2 : W.cell? ⟨gx, 2, none⟩ = some (.slice pA M0.length pc) := k1.cell 2
  have x7 : W.cell? ⟨gx, 7, none⟩ = some (.bool S.has) := k1.cell 7
  have x8 : W.cell? ⟨gx, 8, none⟩ = some (.int .u32 (S.aas : Int)) := k1.cell 8
  rw [hh] at x7
  have ht : ((S.aas : Int) != 23456) = true := by
    have : ¬ (S.aas : Int) = 23456 := by omega
    simpa using this
  have hti : ¬ (S.aas : Int) = 23456 := by omega
  have HK := Lib.hid k1; have HP := Lib.hid (show PathT W (.slice pA M0.length pc) M0 from ⟨⟨_, po.row⟩, fun s hs => ⟨_, po.own s hs⟩, po.fit⟩)
  clear k1 k2 hp hh ha po
  go_enter Tryd.func62, Tryd.ntmps62
  go_wp2_with fail
  refine bodyPost_ret (results_none rfl _ _ _) rfl ?_
  exact ⟨M0, pA, pc, rfl, grown_refl _ _, p1, p2, HK.out, HP.out, pM⟩

set_option maxRecDepth 100000 in
set_option maxHeartbeats 6400000 in
theorem widen_none (B gx : Nat) (S : Rs) (W : World) (pv cv rv kv wv av : Value) (k1 : Blk W gx 75 (rdRow false S pv cv rv kv wv av)) (k2 : RowsR B W S pv cv rv kv wv av) (hp : S.path.length ≤ 12 ∧ totA S.path ≤ 1048576 ∧ S.wpath.length ≤ 12 ∧ totA S.wpath ≤ 1048576) (hh : S.has = false) :
    Calls Tryd.prog 62 #[.pointer (some ⟨gx, 0, none⟩)] W (WidePost W gx S { S with path := mergeL S.path S.wpath } cv rv kv wv av) := by
  obtain ⟨_, _, M0, po, pM⟩ := k2.path
  obtain ⟨pA, pc, rfl, p1, p2⟩ := po.form
  have x0 : W.cell? ⟨gx, 0, none⟩ = some (.bool false) := k1.cell 0
  have x2 : W.cell? ⟨gx, 2, none⟩ = some (.slice pA M0.length pc) := k1.cell 2
  have x7 : W.cell? ⟨gx, 7, none⟩ = some (.bool S.has) := k1.cell 7
  have x8 : W.cell? ⟨gx, 8, none⟩ = some (.int .u32 (S.aas : Int)) := k1.cell 8
  rw [hh] at x7
  obtain ⟨_, _, N0, qo, qM⟩ := k2.wpath
  obtain ⟨qA, qc, rfl, q1, q2⟩ := qo.form
  have x13 : W.cell? ⟨gx, 13, none⟩ = some (.slice qA N0.length qc) := k1.cell 13
  have eL : totN M0 = totA S.path := by rw [tot_abs, pM]
  have eN : totN N0 = totA S.wpath := by rw [tot_abs, qM]
  have lL : M0.length = S.path.length := by rw [← pM, List.length_map]
  have lN : N0.length = S.wpath.length := by rw [← qM, List.length_map]
  have QM := Merge3_any pA qA pc qc M0 N0 W.drew (po.segs.below (Below.refl _ _).drew (Nat.le_refl _)) (qo.segs.below (Below.refl _ _).drew (Nat.le_refl _)) p1 p2 q1 q2 (by omega) (by omega) (by omega) (by omega)
  rw [pM, qM] at QM
  have QM := Lib.hid QM
  have HK := Lib.hid k1
  clear k1 k2 hp po qo eL eN lL lN pM qM p1 p2 q1 q2
  go_enter Tryd.func62, Tryd.ntmps62
  go_wp2_with fail
  go_region_law ((try go_simp); go_at_call 83; refine QM.out.mono ?_; rintro e w2 ⟨M, A2, c2, rfl, hM, m1, m2, hpt, hb2⟩; have hb2' := below_undrew hb2; have k2 := HK.out.below hb2' HK.out.lt; have z2 : w2.cell? ⟨gx, 2, none⟩ = some (.slice pA M0.length pc) := k2.cell 2; have y2 := k2.free 2; have HK2 := Lib.hid k2; have HB2 := Lib.hid (show Below W.heap.size W w2 from hb2'); have HPT := Lib.hid hpt; have HM := Lib.hid (And.intro hM (And.intro m1 m2)); clear k2 hb2 hb2' hpt hM m1 m2)
  all_goals
    have hset : w2.grownBy (w2.setCell ⟨gx, 2, none⟩ (.slice A2 M.length c2)) (some gx) := grown_setCell (grown_refl _ _) _ _
    have k3 := HK2.out.set 2 (.slice A2 M.length c2)
    have HPT3 := Lib.hid (HPT.out.keep HK2.out (by decide) (by decide) hset)
    have HG3 := Lib.hid (grown_below HB2.out hset)
    have z7 : (w2.setCell ⟨gx, 2, none⟩ (.slice A2 M.length c2)).cell? ⟨gx, 7, none⟩ = some (.bool S.has) := k3.cell 7
    rw [hh] at z7
    have HK3 := Lib.hid k3
    clear k3 hset z2 y2
    go_wp2_with fail
    go_end0
    exact ⟨M, A2, c2, rfl, HG3.out, HM.out.2.1, HM.out.2.2, HK3.out, HPT3.out, HM.out.1⟩

set_option maxRecDepth 100000 in
set_option maxHeartbeats 6400000 in
theorem widen_path (B gx : Nat) (S : Rs) (W : World) (pv cv rv kv wv av : Value) (k1 : Blk W gx 75 (rdRow false S pv cv rv kv wv av)) (k2 : RowsR B W S pv cv rv kv wv av) (hp : S.path.length ≤ 12 ∧ totA S.path ≤ 1048576 ∧ S.wpath.length ≤ 12 ∧ totA S.wpath ≤ 1048576) (hh : S.has = true) (ha : S.aas = 23456) (hg8 : S.aggr.length ≠ 8) :
    Calls Tryd.prog 62 #[.pointer (some ⟨gx, 0, none⟩)] W (WidePost W gx S { S with path := mergeL S.path S.wpath } cv rv kv wv av) := by
  obtain ⟨_, _, M0, po, pM⟩ := k2.path
  obtain ⟨pA, pc, rfl, p1, p2⟩ := po.form
  have x0 : W.cell? ⟨gx, 0, none⟩ = some (.bool false) := k1.cell 0
  have x2 : W.cell? ⟨gx, 2, none⟩ = some (.slice pA M0.length pc) := k1.cell 2
  have x7 : W.cell? ⟨gx, 7, none⟩ = some (.bool S.has) := k1.cell 7
  have x8 : W.cell? ⟨gx, 8, none⟩ = some (.int .u32 (S.aas : Int)) := k1.cell 8
  rw [hh] at x7
  obtain ⟨_, _, N0, qo, qM⟩ := k2.wpath
  obtain ⟨qA, qc, rfl, q1, q2⟩ := qo.form
  have x13 : W.cell? ⟨gx, 13, none⟩ = some (.slice qA N0.length qc) := k1.cell 13
  have eL : totN M0 = totA S.path := by rw [tot_abs, pM]
  have eN : totN N0 = totA S.wpath := by rw [tot_abs, qM]
  have lL : M0.length = S.path.length := by rw [← pM, List.length_map]
  have lN : N0.length = S.wpath.length := by rw [← qM, List.length_map]
  have QM := Merge3_any pA qA pc qc M0 N0 W.drew (po.segs.below (Below.refl _ _).drew (Nat.le_refl _)) (qo.segs.below (Below.refl _ _).drew (Nat.le_refl _)) p1 p2 q1 q2 (by omega) (by omega) (by omega) (by omega)
  rw [pM, qM] at QM
  have QM := Lib.hid QM
  have ht : ((S.aas : Int) != 23456) = false := by rw [ha]; decide
  rw [ha] at x8
  obtain ⟨_, ao⟩ := k2.aggr
  obtain ⟨gA, gc, rfl, g1, g2⟩ := own_form ao
  have x14 : W.cell? ⟨gx, 14, none⟩ = some (.slice gA S.aggr.length gc) := k1.cell 14
  have HAO := Lib.hid ao; have HG := Lib.hid (And.intro g1 g2)
  have h8 : ((S.aggr.length : Int) == 8) = false := by
    have : ¬ (S.aggr.length : Int) = 8 := by omega
    simpa using this
  have h8i : ¬ (S.aggr.length : Int) = 8 := by omega
  have HK := Lib.hid k1
  clear k1 k2 hp po qo eL eN lL lN pM qM p1 p2 q1 q2 ao g1 g2 hg8
  go_enter Tryd.func62, Tryd.ntmps62
  go_wp2_with fail
  go_region_law ((try go_simp); go_at_call 83; refine QM.out.mono ?_; rintro e w2 ⟨M, A2, c2, rfl, hM, m1, m2, hpt, hb2⟩; have hb2' := below_undrew hb2; have k2 := HK.out.below hb2' HK.out.lt; have z2 : w2.cell? ⟨gx, 2, none⟩ = some (.slice pA M0.length pc) := k2.cell 2; have y2 := k2.free 2; have HK2 := Lib.hid k2; have HB2 := Lib.hid (show Below W.heap.size W w2 from hb2'); have HPT := Lib.hid hpt; have HM := Lib.hid (And.intro hM (And.intro m1 m2)); clear k2 hb2 hb2' hpt hM m1 m2)
  all_goals
    have hset : w2.grownBy (w2.setCell ⟨gx, 2, none⟩ (.slice A2 M.length c2)) (some gx) := grown_setCell (grown_refl _ _) _ _
    have k3 := HK2.out.set 2 (.slice A2 M.length c2)
    have HPT3 := Lib.hid (HPT.out.keep HK2.out (by decide) (by decide) hset)
    have HG3 := Lib.hid (grown_below HB2.out hset)
    have z7 : (w2.setCell ⟨gx, 2, none⟩ (.slice A2 M.length c2)).cell? ⟨gx, 7, none⟩ = some (.bool S.has) := k3.cell 7
    rw [hh] at z7
    have z14 : (w2.setCell ⟨gx, 2, none⟩ (.slice A2 M.length c2)).cell? ⟨gx, 14, none⟩ = some (.slice gA S.aggr.length gc) := k3.cell 14
    have HK3 := Lib.hid k3
    clear k3 hset z2 y2
    go_wp2_with fail
    go_end0
    exact ⟨M, A2, c2, rfl, HG3.out, HM.out.2.1, HM.out.2.2, HK3.out, HPT3.out, HM.out.1⟩

set_option maxRecDepth 100000 in
set_option maxHeartbeats 6400000 in
theorem widen_both (B gx : Nat) (S : Rs) (W : World) (pv cv rv kv wv av : Value) (k1 : Blk W gx 75 (rdRow false S pv cv rv kv wv av)) (k2 : RowsR B W S pv cv rv kv wv av) (hp : S.path.length ≤ 12 ∧ totA S.path ≤ 1048576 ∧ S.wpath.length ≤ 12 ∧ totA S.wpath ≤ 1048576) (hh : S.has = true) (ha : S.aas = 23456) (hg8 : S.aggr.length = 8) :
    Calls Tryd.prog 62 #[.pointer (some ⟨gx, 0, none⟩)] W (WidePost W gx S { S with path := mergeL S.path S.wpath, aas := num (S.aggr.take 4), aad := num (S.aggr.drop 4) } cv rv kv wv av) := by
  obtain ⟨_, _, M0, po, pM⟩ := k2.path
  obtain ⟨pA, pc, rfl, p1, p2⟩ := po.form
  have x0 : W.cell? ⟨gx, 0, none⟩ = some (.bool false) := k1.cell 0
  have x2 : W.cell? ⟨gx, 2, none⟩ = some (.slice pA M0.length pc) := k1.cell 2
  have x7 : W.cell? ⟨gx, 7, none⟩ = some (.bool S.has) := k1.cell 7
  have x8 : W.cell? ⟨gx, 8, none⟩ = some (.int .u32 (S.aas : Int)) := k1.cell 8
  rw [hh] at x7
  obtain ⟨_, _, N0, qo, qM⟩ := k2.wpath
  obtain ⟨qA, qc, rfl, q1, q2⟩ := qo.form
  have x13 : W.cell? ⟨gx, 13, none⟩ = some (.slice qA N0.length qc) := k1.cell 13
  have eL : totN M0 = totA S.path := by rw [tot_abs, pM]
  have eN : totN N0 = totA S.wpath := by rw [tot_abs, qM]
  have lL : M0.length = S.path.length := by rw [← pM, List.length_map]
  have lN : N0.length = S.wpath.length := by rw [← qM, List.length_map]
  have QM := Merge3_any pA qA pc qc M0 N0 W.drew (po.segs.below (Below.refl _ _).drew (Nat.le_refl _)) (qo.segs.below (Below.refl _ _).drew (Nat.le_refl _)) p1 p2 q1 q2 (by omega) (by omega) (by omega) (by omega)
  rw [pM, qM] at QM
  have QM := Lib.hid QM
  have ht : ((S.aas : Int) != 23456) = false := by rw [ha]; decide
  rw [ha] at x8
  obtain ⟨_, ao⟩ := k2.aggr
  obtain ⟨gA, gc, rfl, g1, g2⟩ := own_form ao
  have x14 : W.cell? ⟨gx, 14, none⟩ = some (.slice gA S.aggr.length gc) := k1.cell 14
  have HAO := Lib.hid ao; have HG := Lib.hid (And.intro g1 g2)
  have h8 : ((S.aggr.length : Int) == 8) = true := by rw [hg8]; decide
  have HG8 := Lib.hid hg8
  have HK := Lib.hid k1
  clear k1 k2 hp po qo eL eN lL lN pM qM p1 p2 q1 q2 ao g1 g2 hg8
  go_enter Tryd.func62, Tryd.ntmps62
  go_wp2_with fail
  go_region_law ((try go_simp); go_at_call 83; refine QM.out.mono ?_; rintro e w2 ⟨M, A2, c2, rfl, hM, m1, m2, hpt, hb2⟩; have hb2' := below_undrew hb2; have k2 := HK.out.below hb2' HK.out.lt; have z2 : w2.cell? ⟨gx, 2, none⟩ = some (.slice pA M0.length pc) := k2.cell 2; have y2 := k2.free 2; have HK2 := Lib.hid k2; have HB2 := Lib.hid (show Below W.heap.size W w2 from hb2'); have HPT := Lib.hid hpt; have HM := Lib.hid (And.intro hM (And.intro m1 m2)); clear k2 hb2 hb2' hpt hM m1 m2)
  all_goals
    have hset : w2.grownBy (w2.setCell ⟨gx, 2, none⟩ (.slice A2 M.length c2)) (some gx) := grown_setCell (grown_refl _ _) _ _
    have k3 := HK2.out.set 2 (.slice A2 M.length c2)
    have HPT3 := Lib.hid (HPT.out.keep HK2.out (by decide) (by decide) hset)
    have HG3 := Lib.hid (grown_below HB2.out hset)
    have z7 : (w2.setCell ⟨gx, 2, none⟩ (.slice A2 M.length c2)).cell? ⟨gx, 7, none⟩ = some (.bool S.has) := k3.cell 7
    rw [hh] at z7
    have z14 : (w2.setCell ⟨gx, 2, none⟩ (.slice A2 M.length c2)).cell? ⟨gx, 14, none⟩ = some (.slice gA S.aggr.length gc) := k3.cell 14
    have HK3 := Lib.hid k3
    have QA := Lib.hid (aggr8_any gA gc S.aggr _ (Own.bytes (row_keep (row_below HAO.out HB2.out) HK2.out (by decide) hset)) HG.out.1 HG.out.2 HG8.out)
    obtain ⟨u, hu⟩ : ∃ u, u = num (S.aggr.take 4) := ⟨_, rfl⟩
    obtain ⟨v, hv⟩ : ∃ v, v = num (S.aggr.drop 4) := ⟨_, rfl⟩
    rw [← hu, ← hv] at QA
    have HU := Lib.hid hu; have HV := Lib.hid hv
    clear k3 hset z2 y2 hu hv
    go_wp2_with fail
    refine QA.out.mono ?_
    rintro e w4 ⟨rfl, hb4⟩
    have k4 := HK3.out.below hb4 HK3.out.lt
    have v8 : w4.cell? ⟨gx, 8, none⟩ = some (.int .u32 (S.aas : Int)) := k4.cell 8
    have v9 : w4.cell? ⟨gx, 9, none⟩ = some (.int .u32 (S.aad : Int)) := k4.cell 9
    have f8 := k4.free 8
    have f9 := k4.free 9
    have hs1 : w4.grownBy ((w4.setCell ⟨gx, 8, none⟩ (.int .u32 (u : Int))).setCell ⟨gx, 9, none⟩ (.int .u32 (v : Int))) (some gx) := grown_setCell (grown_setCell (grown_refl _ _) _ _) _ _
    have HK5 := Lib.hid ((k4.set 8 (.int .u32 (u : Int))).set 9 (.int .u32 (v : Int)))
    have HPT5 := Lib.hid ((HPT3.out.below hb4).keep k4 (by decide) (by decide) hs1)
    have HG5 := Lib.hid (grown_trans (below_grown HG3.out hb4) hs1)
    clear k4 hs1 hb4 z7 z14
    go_wp2_with fail
    go_end0
    have hu := HU.out
    have hv := HV.out
    subst hu hv
    exact ⟨M, A2, c2, rfl, HG5.out, HM.out.2.1, HM.out.2.2, HK5.out, HPT5.out, HM.out.1⟩

/-- widen, whatever was read. -/
theorem widen4_any (B gx : Nat) (S : Rs) (W : World) (pv cv rv kv wv av : Value) (k1 : Blk W gx 75 (rdRow false S pv cv rv kv wv av)) (k2 : RowsR B W S pv cv rv kv wv av) (hp : S.path.length ≤ 12 ∧ totA S.path ≤ 1048576 ∧ S.wpath.length ≤ 12 ∧ totA S.wpath ≤ 1048576) :
    Calls Tryd.prog 62 #[.pointer (some ⟨gx, 0, none⟩)] W (WidePost W gx S (widenF false S) cv rv kv wv av) := by
  unfold widenF
  by_cases hh : S.has = true
  · by_cases ha : S.aas = 23456
    · rw [if_neg (by rintro (q | q); cases q; exact q.2 ha)]
      by_cases hg : S.aggr.length = 8
      · rw [if_pos ⟨hh, hg⟩]
        exact widen_both B gx S W pv cv rv kv wv av k1 k2 hp hh ha hg
      · rw [if_neg (fun q => hg q.2)]
        exact widen_path B gx S W pv cv rv kv wv av k1 k2 hp hh ha hg
    · rw [if_pos (.inr ⟨hh, ha⟩)]
      exact widen_stay B gx S W pv cv rv kv wv av k1 k2 hp hh ha
  · have hf : S.has = false := by simpa using hh
    rw [if_neg (by rintro (q | q); cases q; exact hh q.1), if_neg (fun q => hh q.1)]
    exact widen_none B gx S W pv cv rv kv wv av k1 k2 hp hf
/-- All else stays. -/
theorem widen_rest (S : Rs) : (widenF false S).org = S.org ∧ (widenF false S).next = S.next ∧ (widenF false S).med = S.med ∧ (widenF false S).pref = S.pref ∧ (widenF false S).atomic = S.atomic ∧ (widenF false S).has = S.has ∧ (widenF false S).comms = S.comms ∧ (widenF false S).raws = S.raws ∧ (widenF false S).kinds = S.kinds := by
  unfold widenF
  split
  · exact ⟨rfl, rfl, rfl, rfl, rfl, rfl, rfl, rfl, rfl⟩
  · split <;> exact ⟨rfl, rfl, rfl, rfl, rfl, rfl, rfl, rfl, rfl⟩
end Go.Proofs.YtkpbldhkoobnaaaDoor

/-
  Attributes read in narrow numbers, where nothing is wrong with them: the program's.
-/
namespace Go.Proofs.YtkpbldhkoobnaaaDoor
set_option linter.unusedVariables false
set_option linter.unusedSimpArgs false
open Go.RowKit

theorem in_rows_n {w : World} {B : Nat} {S T : Rs} {M : List Sg} {pA cA rA : Option Addr} {pc cn cc rn rc : Nat} {pv kv wv av : Value} (h : RowsR B w S pv (.slice cA cn cc) (.slice rA rn rc) kv wv av) (hp : PathT w (.slice pA M.length pc) M) (h1 : M.length ≤ pc) (h2 : pc ≤ maxLen) :
    ∃ L : List Rw, cn = S.comms.length ∧ L.length = rn ∧ L.map Rw.abs = S.raws ∧ Av.In w w.heap.size ⟨(S.org : Int), pA, pc, M, (S.next : Int), S.med, S.pref, S.atomic, S.has, (T.aas : Int), (T.aad : Int), cA, cc, S.comms, rA, rc, L⟩ := by
  obtain ⟨_, ⟨cB, cO⟩, ⟨L, ro, rM⟩, _, _, _⟩ := h
  obtain ⟨_, _, e2, c1, c2⟩ := own_form cO
  obtain ⟨_, _, e3, r1, r2⟩ := own_form ro.row
  injection e2 with b1 b2 b3
  injection e3 with t1 t2 t3
  subst b1 b2 b3 t1 t2 t3
  exact ⟨L, rfl, rfl, rM, hp.segs, ⟨h1, h2⟩, cO.at, ⟨c1, c2⟩, rw_own ro, ⟨r1, r2⟩, fun s hs => (ro.each s hs).2⟩
set_option maxRecDepth 100000 in
set_option maxHeartbeats 12800000 in
theorem ReadA_nar (ok : Nat → Bool) (A : Option Addr) (c : Nat) (l : List UInt8) (w : World) (ht : TabK w) (h : Bytes w A l) (hc : l.length ≤ c) (hm : c ≤ maxLen) (hl : l.length ≤ 1000000) (Sf : Rs) (hr : RunK ok false l rs0 Sf) (hst : Steps ok w.heap.size false) (hpb : Sf.path.length ≤ 12 ∧ totA Sf.path ≤ 1048576 ∧ Sf.wpath.length ≤ 12 ∧ totA Sf.wpath ≤ 1048576) :
    Calls Tryd.prog 23 #[.slice A l.length c, .bool false] w (RetRd w (widenF false Sf)) := by
  have hb0 := ((Below.refl w.heap.size w).alloc (Nat.le_refl _) (.cells zeroRow0.toArray 27)).alloc (by simp) (.cells #[.int .i64 0, .int .i64 0, .slice none 0 0] 46)
  obtain ⟨W0, hW0⟩ : ∃ W0, W0 = (w.alloc (.cells zeroRow0.toArray 27)).alloc (.cells #[.int .i64 0, .int .i64 0, .slice none 0 0] 46) := ⟨_, rfl⟩
  have kr : Blk W0 w.heap.size 27 zeroRow0 := by
    rw [hW0]
    exact (Blk.new w _ _).below ((Below.refl _ _).alloc (Nat.le_refl _) _) (by simp)
  have kf : Blk W0 (w.heap.size + 1) 46 [.int .i64 0, .int .i64 0, .slice none 0 0] := by
    have := Blk.new (w.alloc (.cells zeroRow0.toArray 27)) 46 [.int .i64 0, .int .i64 0, .slice none 0 0]
    rw [hW0]
    simpa using this
  rw [← hW0] at hb0
  have HW0 := Lib.hid hW0; have HB0 := Lib.hid hb0; have HKR := Lib.hid kr; have HKF := Lib.hid kf
  have HT := Lib.hid (fun (W : World) (hb : Below w.heap.size w W) => ht.below hb ht.lt)
  have HY := Lib.hid h; have HC := Lib.hid (And.intro hc (And.intro hm hl)); have HR := Lib.hid hr; have HST := Lib.hid hst; have HPB := Lib.hid hpb
  have hz : W0.heap.size = w.heap.size + 2 := by rw [hW0]; simp
  have HZ := Lib.hid hz
  unfold zeroRow0 at HW0
  clear hb0 hW0 kr kf ht h hc hm hl hr hst hz hpb
  have QZ := Lib.hid (Zero_any W0)
  unfold zeroRow at QZ
  go_enter Tryd.func23, Tryd.ntmps23
  go_wp2_with (rw [← HW0.out])
  refine QZ.out.mono ?_
  rintro e w1 ⟨rfl, hb1⟩
  obtain ⟨W1, hW1⟩ : ∃ W1, W1 = w1.alloc (.cells (rdRow false rs0 (.slice none 0 0) (.slice none 0 0) (.slice none 0 0) (.slice none 0 0) (.slice none 0 0) (.slice none 0 0)).toArray 75) := ⟨_, rfl⟩
  have hb01 : Below W0.heap.size W0 W1 := by rw [hW1]; exact hb1.alloc hb1.size _
  have hbw : Below w.heap.size w W1 := HB0.out.trans (hb01.mono HB0.out.size)
  have kx : Blk W1 w1.heap.size 75 (rdRow false rs0 (.slice none 0 0) (.slice none 0 0) (.slice none 0 0) (.slice none 0 0) (.slice none 0 0) (.slice none 0 0)) := by rw [hW1]; exact Blk.new w1 _ _
  have hs1 : W1.heap.size = w1.heap.size + 1 := by rw [hW1]; simp
  have hgx : w.heap.size + 1 < w1.heap.size := by have := hb1.size; have := HZ.out; omega
  have QN := Lib.hid (New_low w.heap.size A l.length c l rfl W1 (At.below HY.out hbw (Nat.le_refl _)) hbw.size HC.out.1 HC.out.2.1)
  have HL0 := Lib.hid (fun (W2 : World) (hr : Rd W2 w.heap.size W1.heap.size l false) (hb : Below W1.heap.size W1 W2) =>
    show LoopA w w1.heap.size W1.heap.size ok false l Sf rs0 l W2 from
    ⟨hbw.trans (hb.mono hbw.size), (HKR.out.below hb01 HKR.out.lt).below hb (HKR.out.below hb01 HKR.out.lt).lt, (HKF.out.below hb01 HKF.out.lt).below hb (HKF.out.below hb01 HKF.out.lt).lt, hgx, by omega, hr,
      ⟨_, _, _, _, _, _, kx.below hb kx.lt, ⟨PathO.nil _, ⟨0, World.ownsRow_nil _ _ _ _⟩, ⟨[], ⟨World.ownsRow_nil _ _ _ _, fun s hs => by cases hs⟩, rfl⟩, World.ownsRow_nil _ _ _ _, PathO.nil _, ⟨0, World.ownsRow_nil _ _ _ _⟩, fun _ => rfl⟩⟩, HR.out, by simp [rs0], fun _ => rfl⟩)
  have HW1 := Lib.hid (show W1 = w1.alloc (.cells #[.bool false, .int .i64 0, .slice none 0 0, .int .u32 0, .int .i64 (-1), .int .i64 (-1), .bool false, .bool false, .int .u32 0, .int .u32 0, .slice none 0 0, .slice none 0 0, .slice none 0 0, .slice none 0 0, .slice none 0 0] 75) from hW1)
  clear hb1 hW1 hb01 hbw kx hs1 hgx QZ
  go_wp2_with (rw [← HW1.out])
  refine QN.out.mono ?_
  rintro e w2 ⟨rfl, hr2, hb2⟩
  have LS := Lib.hid (HL0.out w2 hr2 hb2)
  clear hr2 hb2 HL0 QN
  generalize w1.heap.size = gx at *
  generalize W1.heap.size = gr at *
  clear HW1
  go_wp2_with fail
  go_loopw [10] (fun _ wr => ∃ S r, LoopA w gx gr ok false l Sf S r wr) (fun _ wr => leftAt wr gr)
  case atStart => exact ⟨_, _, LS.out⟩
  case round =>
    obtain ⟨S, r, LA⟩ := hrel
    have L := Lib.hid LA
    have HLA := Lib.hid (rd_left LA.rd)
    have QL := Lib.hid (Left_any _ _ _ _ wr LA.rd)
    by_cases hr : r = []
    · subst hr
      obtain rfl := LA.run.stop
      obtain ⟨pv, cv, rv, kv, wv, av, k1, k2⟩ := LA.inn
      have QW := Lib.hid (widen4_any _ gx S wr pv cv rv kv wv av k1 k2 HPB.out)
      have hkx := k1
      have k3 := k2
      obtain ⟨_, ⟨_, co⟩, ⟨_, ro, _⟩, ko, _, _⟩ := k3
      obtain ⟨cA, cc, hcv, _, _⟩ := own_form co
      obtain ⟨rA, rc, hrv, _, _⟩ := own_form ro.row
      obtain ⟨kA, kc, hkv, _, _⟩ := own_form ko
      clear co ro ko
      generalize hcn : S.comms.length = cn at hcv
      generalize hrn : List.length _ = rn at hrv
      subst hcv hrv hkv
      have HK2 := Lib.hid k2
      have HX1 := Lib.hid k1
      clear hcn hrn k1 k2 hkx HLA LS
      go_wp2_with fail
      refine QL.out.mono ?_
      rintro e wx ⟨rfl, rfl⟩
      go_wp2_with fail
      refine QW.out.mono ?_
      rintro e wx ⟨M, pA, pc, rfl, hgW, hm1, hm2, k1, hpt, hpM⟩
      obtain ⟨T, hT⟩ : ∃ T, T = widenF false S := ⟨_, rfl⟩
      have HRE := Lib.hid (widen_rest S)
      rw [← hT] at k1 hpM HRE ⊢
      obtain ⟨pn, hpn⟩ : ∃ pn, pn = M.length := ⟨_, rfl⟩
      rw [← hpn] at k1 hpt hm1
      have LX := LA.below.grown hgW LA.below.size (fun k hk => by cases hk; have := LA.gxl; omega)
      have kres := LA.res.grown hgW (by have := LA.gxl; omega)
      have kflt := LA.flt.grown hgW (by have := LA.gxl; omega)
      have k2 := rows_keep HK2.out HX1.out hgW
      have d : ∀ i u, ([.bool false, .int .i64 (S.org : Int), .slice pA pn pc, .int .u32 (S.next : Int), .int .i64 S.med, .int .i64 S.pref, .bool S.atomic, .bool S.has, .int .u32 (T.aas : Int), .int .u32 (T.aad : Int), .slice cA cn cc, .slice rA rn rc, .slice kA S.kinds.length kc, wv, av] : List Value)[i]? = some u → wx.cell? ⟨gx, i, none⟩ = some u := fun i u hu => by rw [k1.cell]; exact hu
      have d1 := d 1 _ rfl
      have d2 := d 2 _ rfl
      have d3 := d 3 _ rfl
      have d4 := d 4 _ rfl
      have d5 := d 5 _ rfl
      have d6 := d 6 _ rfl
      have d7 := d 7 _ rfl
      have d8 := d 8 _ rfl
      have d9 := d 9 _ rfl
      have d10 := d 10 _ rfl
      have d11 := d 11 _ rfl
      have d12 := d 12 _ rfl
      have ca := cells11 kres
      have fa := free11 kres
      have hgr := grown_set11 wx w.heap.size (.int .i64 (S.org : Int)) (.slice pA pn pc) (.int .u32 (S.next : Int)) (.int .i64 S.med) (.int .i64 S.pref) (.bool S.atomic) (.bool S.has) (.int .u32 (T.aas : Int)) (.int .u32 (T.aad : Int)) (.slice cA cn cc) (.slice rA rn rc)
      have kf := kflt.grown hgr (by omega)
      have ff := free3 kf
      have cf := cells3 kf
      have hgf := grown_set3 (((((((((((wx.setCell ⟨w.heap.size, 0, none⟩ (.int .i64 (S.org : Int))).setCell ⟨w.heap.size, 1, none⟩ (.slice pA pn pc)).setCell ⟨w.heap.size, 2, none⟩ (.int .u32 (S.next : Int))).setCell ⟨w.heap.size, 3, none⟩ (.int .i64 S.med)).setCell ⟨w.heap.size, 4, none⟩ (.int .i64 S.pref)).setCell ⟨w.heap.size, 5, none⟩ (.bool S.atomic)).setCell ⟨w.heap.size, 6, none⟩ (.bool S.has)).setCell ⟨w.heap.size, 7, none⟩ (.int .u32 (T.aas : Int))).setCell ⟨w.heap.size, 8, none⟩ (.int .u32 (T.aad : Int))).setCell ⟨w.heap.size, 9, none⟩ (.slice cA cn cc)).setCell ⟨w.heap.size, 10, none⟩ (.slice rA rn rc)) (w.heap.size + 1) (.int .i64 0) (.int .i64 0) (.slice none 0 0)
      have ks := kres.set11 (.int .i64 (S.org : Int)) (.slice pA pn pc) (.int .u32 (S.next : Int)) (.int .i64 S.med) (.int .i64 S.pref) (.bool S.atomic) (.bool S.has) (.int .u32 (T.aas : Int)) (.int .u32 (T.aad : Int)) (.slice cA cn cc) (.slice rA rn rc)
      have K5 := Lib.hid ((k2.keep kres (by decide) (by decide) (by decide) (by decide) (by decide) hgr).keep kf (by decide) (by decide) (by decide) (by decide) (by decide) hgf)
      have HPT5 := Lib.hid ((hpt.keep kres (by decide) (by decide) hgr).keep kf (by decide) (by decide) hgf)
      have ra := cells11d (ks.grown hgf (by omega))
      have rf := cells3d (kf.set3 (.int .i64 0) (.int .i64 0) (.slice none 0 0))
      have HBE := Lib.hid ((LX.grown hgr LX.size (fun k hk => by cases hk; exact Nat.le_refl _)).grown hgf (Nat.le_trans LX.size hgr.size) (fun k hk => by cases hk; omega))
      have HPM := Lib.hid hpM; have HM12 := Lib.hid (And.intro hm1 hm2); have HPN := Lib.hid hpn; have HTT := Lib.hid hT
      clear k1 k2 d kf LA hgr hgf ks LX kres kflt hpt hpM hm1 hm2 hgW hT hpn QW
      have HRA := Lib.hid ra; have HRF := Lib.hid rf
      clear ra rf
      go_wp2_with fail
      go_region
      clear ca fa cf ff d1 d2 d3 d4 d5 d6 d7 d8 d9 d10 d11 d12
      go_wp2_with fail
      have ra := HRA.out
      have rf := HRF.out
      have hpn := HPN.out
      have hT := HTT.out
      subst hpn hT
      obtain ⟨L, hcn, hrn, hL, hin⟩ := in_rows_n (T := widenF false S) K5.out HPT5.out HM12.out.1 HM12.out.2
      have HIN := Lib.hid (in_drew hin)
      clear hin
      subst hcn hrn
      obtain ⟨s1, s2, s3, s4, s5, s6, s7, s8, s9⟩ := HRE.out
      refine bodyPost_ret (v := .tuple #[.agg #[.int .i64 (S.org : Int), .slice pA M.length pc, .int .u32 (S.next : Int), .int .i64 S.med, .int .i64 S.pref, .bool S.atomic, .bool S.has, .int .u32 ((widenF false S).aas : Int), .int .u32 ((widenF false S).aad : Int), .slice cA S.comms.length cc, .slice rA L.length rc], .slice kA S.kinds.length kc, fault0])
        ?_ rfl ⟨⟨(S.org : Int), pA, pc, M, (S.next : Int), S.med, S.pref, S.atomic, S.has, ((widenF false S).aas : Int), ((widenF false S).aad : Int), cA, cc, S.comms, rA, rc, L⟩, kA, kc, by rw [s9]; rfl, HIN.out, HBE.out.drew, by rw [s1], HPM.out, by rw [s2], s3.symm, s4.symm, s5.symm, s6.symm, rfl, rfl, s7.symm, hL.trans s8.symm⟩
      clear s1 s2 s3 s4 s5 s6 s7 s8 s9 hL
      simp [results, Tryd.results23, go_sem, fault0, ra, rf]
    · have hp0 : 0 < r.length := List.length_pos_iff.2 hr
      have hpI : (0 : Int) < (r.length : Int) := by omega
      obtain ⟨hbad, hok, T, hs, hrun⟩ := LA.run.step hr
      have hnl := next_less hr
      have hnv := next_val r
      have hkn := step_kinds hs
      have hrl : r.length ≤ l.length := by have := LA.len; omega
      have HBY := Lib.hid ((At.below HY.out LA.below (Nat.le_refl _)).lift LA.below.size)
      have QX := Lib.hid (next4_any w.heap.size gr r l A c wr LA.rd (by have := HC.out.2.2; omega) HC.out.2.2 HC.out.1 HC.out.2.1 hrl hbad)
      have HSTEP := Lib.hid (And.intro hok (And.intro hs (And.intro hrun (And.intro hnl hkn))))
      obtain ⟨P, hP⟩ : ∃ P, P = nextA r := ⟨_, rfl⟩
      rw [← hP] at QX HSTEP hbad hnv
      have HNV := Lib.hid (show P.val.length ≤ 1000000 by have := HC.out.2.2; omega)
      clear hok hs hrun hnl hkn hrl hP LA hr LS hnv
      go_wp2_with fail
      refine QL.out.mono ?_
      rintro e wx ⟨rfl, rfl⟩
      go_wp2_with fail
      refine QX.out.mono ?_
      rintro e w3 ⟨A3, c3, A4, n4, c4, rfl, f1, f2, ho, hr3, hg3⟩
      rw [hbad] at hr3
      obtain ⟨q1, q2, q3, q4⟩ := L.out.next hr3 hg3
      have m3 : MidA w gx gr P.rest w3 := ⟨q1, q2, q3, L.out.gxl, L.out.grl, hr3⟩
      obtain ⟨W4, hW4⟩ : ∃ W4, W4 = w3.alloc (.cells #[.int .i64 (P.fl : Int), .int .i64 (P.kind : Int), .slice A3 P.val.length c3, .slice A4 n4 c4] 80) := ⟨_, rfl⟩
      have hb4 : Below w3.heap.size w3 W4 := by rw [hW4]; exact (Below.refl _ _).alloc (Nat.le_refl _) _
      have kp : Blk W4 w3.heap.size 80 [.int .i64 (P.fl : Int), .int .i64 (P.kind : Int), .slice A3 P.val.length c3, .slice A4 n4 c4] := by rw [hW4]; exact Blk.new w3 _ _
      have hgx3 : gx < w3.heap.size := by have h1 := L.out.grl; have h2 := hr3.lt; omega
      have q5 := q4.below hb4
      obtain ⟨pv, cv, rv, kv, wv, av, k1, k2⟩ := q5
      obtain ⟨kA, kc, hkv, kf1, kf2⟩ := own_form k2.kinds
      have hkl : S.kinds.length ≤ 1000000 := by have := L.out.len; have := HC.out.2.2; omega
      have QC := Lib.hid (ContainsNot_any kA kc S.kinds P.kind W4 (at64_own (c := kc) (by rw [← hkv]; exact k2.kinds)) HSTEP.out.2.2.2.2.1 hkl)
      have QT := Lib.hid (HST.out gx P.fl P.kind S T A3 A4 c3 n4 c4 _ P.val P.rest P.bad W4 HSTEP.out.1 (by have := L.out.gxl; omega) (m3.later hb4).below.size ⟨pv, cv, rv, kv, wv, av, k1, k2⟩ (HT.out W4 (m3.later hb4).below) (Own.below ho hb4) f1 f2 HNV.out HSTEP.out.2.1 (fun h8 => L.out.c8 (fun hm => HSTEP.out.2.2.2.2.1 (h8 ▸ hm))))
      have x12 : W4.cell? ⟨gx, 12, none⟩ = some (.slice kA S.kinds.length kc) := by rw [← hkv]; exact k1.cell 12
      have pc := cells4 kp
      have M4 := Lib.hid (m3.later hb4); have HW4 := Lib.hid hW4; have HKP := Lib.hid kp; have HGX := Lib.hid hgx3
      clear f1 f2 ho hr3 hg3 q1 q2 q3 q4 m3 hW4 hb4 kp hgx3 k1 k2 hkv kf1 kf2 hkl QX QL
      go_wp2_with (rw [← HW4.out])
      refine QC.out.mono ?_
      rintro e w5 ⟨rfl, rfl⟩
      go_wp2_with fail
      refine QT.out.mono ?_
      rintro e w5 ⟨rfl, hb5, hk5, hI5⟩
      have m5 := M4.out.take hb5 hk5
      have kp5 := hk5 _ _ _ (by have := HGX.out; omega) (by decide) HKP.out
      obtain ⟨W5, hW5⟩ : ∃ W5, W5 = w5.alloc (.cells #[.int .i64 0, .int .i64 0, .slice none 0 0] 46) := ⟨_, rfl⟩
      have hb6 : Below w5.heap.size w5 W5 := by rw [hW5]; exact (Below.refl _ _).alloc (Nat.le_refl _) _
      have kf5 : Blk W5 w5.heap.size 46 [.int .i64 0, .int .i64 0, .slice none 0 0] := by rw [hW5]; exact Blk.new w5 _ _
      have f50 : W5.cell? ⟨w5.heap.size, 0, none⟩ = some (.int .i64 0) := kf5.cell 0
      have p51 : W5.cell? ⟨w3.heap.size, 1, none⟩ = some (.int .i64 (P.kind : Int)) := (kp5.below hb6 kp5.lt).cell 1
      obtain ⟨pv', cv', rv', kv', wv', av', k1, k2⟩ := hI5.below hb6
      obtain ⟨kA', kc', hkv, kf1, kf2⟩ := own_form k2.kinds
      have x52 : W5.cell? ⟨gx, 12, none⟩ = some (.slice kA' S.kinds.length kc') := by rw [← hkv]; exact k1.cell 12
      have M5 := Lib.hid (m5.later hb6); have HK1 := Lib.hid k1; have HK2 := Lib.hid k2; have HKV := Lib.hid hkv
      have HROW : Hid (W5.ownsRow w.heap.size 3 1 (.slice kA' S.kinds.length kc') S.kinds.length (S.kinds.map fun (k : Nat) => Value.int .i64 (k : Int))) := Lib.hid (by rw [← hkv]; exact k2.kinds)
      have HSZ := Lib.hid (show (S.kinds.length + 1) * 8 ≤ 140737488355328 by have := L.out.len; have := HC.out.2.2; omega)
      clear hb5 hk5 hI5 m5 kp5 hb6 kf5 k1 k2 hkv kf1 kf2 pc x12 QC QT M4 HKP HW4
      unfold fault0
      subst hW5
      go_wp2_with (at_builtin; go_loud (refine wpList_app_one' isInt rfl (.tmp 45) (.tmp 48) rfl w.heap.size _ _ _ rfl (w5.alloc (.cells #[.int .i64 0, .int .i64 0, .slice none 0 0] 46)) [.int .i64 (P.kind : Int)] rfl HROW.out (by show Value.slice (some ⟨w5.heap.size + 1, 0, none⟩) 1 1 = _; simp) rfl (by intro u hu; rw [List.mem_singleton.1 hu]; rfl) HSZ.out M5.out.below.size ?_))
      intro v6 w6 hown6 hg6
      obtain ⟨kA6, kc6, rfl, g1, g2⟩ := own_form hown6
      have hk6 := blk_row HK1.out HROW.out (by decide) hg6
      have x6 : w6.cell? ⟨gx, 12, none⟩ = some kv' := hk6.cell 12
      have y6 : w6.frozen? ⟨gx, 12, none⟩ = false := hk6.free 12
      have m6 := M5.out.row HROW.out hg6
      have M7 := Lib.hid (m6.setx 12 (.slice kA6 (S.kinds.length + 1) kc6))
      have r6 := RowsR.kind (S := { T with kinds := S.kinds }) (k := P.kind) HK2.out hown6 (by rw [HKV.out]; exact hg6)
      have hset : w6.grownBy (w6.setCell ⟨gx, 12, none⟩ (.slice kA6 (S.kinds.length + 1) kc6)) (some gx) := grown_setCell (grown_refl _ _) _ _
      have r7 := rows_keep r6 hk6 hset
      rw [kinds_eta HSTEP.out.2.2.2.2.2] at r7
      have hb7 : Blk (w6.setCell ⟨gx, 12, none⟩ (.slice kA6 (S.kinds.length + 1) kc6)) gx 75 (rdRow false T pv' cv' rv' (.slice kA6 (S.kinds.length + 1) kc6) wv' av') := hk6.set 12 _
      have HLP := Lib.hid (show LoopA w gx gr ok false l Sf T P.rest (w6.setCell ⟨gx, 12, none⟩ (.slice kA6 (S.kinds.length + 1) kc6)) from
        ⟨M7.out.below, M7.out.res, M7.out.flt, M7.out.gxl, M7.out.grl, M7.out.rd, ⟨_, _, _, _, _, _, hb7, r7⟩, HSTEP.out.2.2.1, by
          have h1 := L.out.len; have h2 := HSTEP.out.2.2.2.1; rw [HSTEP.out.2.2.2.2.2, List.length_append]; simp only [List.length_cons, List.length_nil]; omega, step_c8 HSTEP.out.2.1 L.out.c8⟩)
      have HMS := Lib.hid (show leftAt (w6.setCell ⟨gx, 12, none⟩ (.slice kA6 (S.kinds.length + 1) kc6)) gr < leftAt wr gr by rw [rd_left HLP.out.rd, HLA.out]; have h2 := HSTEP.out.2.2.2.1; omega)
      clear hown6 hg6 g1 g2 hk6 m6 r6 r7 hset hb7 f50 p51 x52
      go_wp2_with fail
      go_roundw
      case rel => exact ⟨T, P.rest, HLP.out⟩
      case measure => exact HMS.out
end Go.Proofs.YtkpbldhkoobnaaaDoor

/-
  P4.4: right attributes, put narrow: what is read of them, as Lean functions.
-/
namespace Go.Proofs.YtkpbldhkoobnaaaDoor
set_option linter.unusedVariables false
set_option linter.unusedSimpArgs false
open Go.RowKit

theorem nar_all (a : Av) (w : World) (ht : TabK w) (ha : AvArg w a) (hok : a.okB = true) (N : Nat) (hN : a.next = (N : Int)) (hnb : nextB N = true) :
    ∃ (d : List UInt8) (Sf : Rs), (∀ W, Below w.heap.size w W → Calls Tryd.prog 20 #[.agg a.row.toArray, .bool false] W (RetPut W d)) ∧ RunK (fun _ => true) false d rs0 Sf ∧ d.length ≤ 100000 ∧
      (Sf.path.length ≤ 12 ∧ totA Sf.path ≤ 1048576 ∧ Sf.wpath.length ≤ 12 ∧ totA Sf.wpath ≤ 1048576) ∧
      ∃ F : Rs, widenF false Sf = F ∧
      ∀ x : Av, x.org = (F.org : Int) → x.path.map Sg.abs = F.path → x.next = (F.next : Int) → x.med = F.med → x.pref = F.pref → x.atomic = F.atomic → x.has = F.has → x.aas = (F.aas : Int) → x.aad = (F.aad : Int) → x.comms = F.comms → x.raws.map Rw.abs = F.raws →
        cntN x.path = cntN a.path ∧ x.path.length = a.path.length ∧ totN x.path = totN a.path ∧ x.raws.length = a.raws.length ∧
        (bigs (flatN a.path) = false → a.aas ≤ 65535 → a.aas ≠ 23456 → x.same a = true) ∧
        (bigs (flatN a.path) = true → a.has = false → x.same a = true) := by
  obtain ⟨h1, h2, hr, h3, h4, h5, h6, hha, h7, h8, h9⟩ := okB_all hok
  have hre := raws_small a.raws (-1) h8
  obtain ⟨hin, hcm, hfit, _, hnx, haa, had, _, _, _⟩ := ha
  obtain ⟨org, pa, pc, path, next, med, pref, atomic, has, aas, aad, ca, cc, comms, ra, rc, raws⟩ := a
  dsimp only at h1 h2 hr h3 h4 h5 h6 hha h7 h8 h9 hre hcm hfit hnx haa had hN
  obtain ⟨O, rfl⟩ := Int.eq_ofNat_of_zero_le h1
  obtain ⟨SA, rfl⟩ := Int.eq_ofNat_of_zero_le haa.1
  obtain ⟨AD, rfl⟩ := Int.eq_ofNat_of_zero_le had.1
  subst hN
  obtain ⟨mm, hwm, hmm, hm2⟩ := u32_wrap_of med h5
  obtain ⟨mp, hwp, hmp, hp2⟩ := u32_wrap_of pref h6
  have hh2 : has = false → SA = 0 ∧ AD = 0 := fun e => by have := hha e; omega
  obtain ⟨ks, n, hrun⟩ := back4 O N SA AD path med pref mm mp atomic has comms raws false (by omega) hr (fun s hs => (hfit s hs).1) hnb (by omega) h5.1 hm2 hmm h6.1 hp2 hmp hh2 (by omega) (by omega) h7 hcm h8 h9
  obtain ⟨P, A, D, Wb, G, hw, ⟨q1, q2, q3⟩, q4, q5⟩ := widen_nar O N SA AD path med pref atomic has comms raws ks hr (by omega) (by omega) hh2
  have hz : totA ([] : List (Int × List Nat)) = 0 := rfl
  refine ⟨_, _, fun W q => PutA_ok O N SA AD pa pc path med pref atomic has ca cc comms ra rc raws mm mp false W (ht.below q ht.lt) ((hin.below q (Nat.le_refl _)).lift q.size) hok (by omega) (by omega) (by omega) (by omega) hwm hmm hwp hmp (by omega) (by omega) (by omega) hcm (by omega) hre, ⟨n, Runs.all n _ _ _ hrun⟩, putA_small _ _ _ _ _ _ _ _ _ _ _ _ _ h3 h4 h7 h9 hre false, ?_, _, hw, ?_⟩
  · dsimp only
    have t1 := totA_nar path false
    have t2 := tot_abs path
    refine ⟨by simp; omega, by omega, ?_, ?_⟩
    · split
      · simp; omega
      · simp
    · split
      · omega
      · omega
  intro x e1 e2 e3 e4 e5 e6 e7 e8 e9 e10 e11
  dsimp only at e1 e2 e3 e4 e5 e6 e7 e8 e9 e10 e11 ⊢
  have hsame : P = path.map Sg.abs ∧ A = SA ∧ D = AD → x.same ⟨(O : Int), pa, pc, path, (N : Int), med, pref, atomic, has, (SA : Int), (AD : Int), ca, cc, comms, ra, rc, raws⟩ = true := by
    rintro ⟨r1, r2, r3⟩
    rw [r1] at e2
    rw [r2] at e8
    rw [r3] at e9
    unfold Av.same sameP sameRs
    dsimp only
    rw [e1, e3, e4, e5, e6, e7, e8, e9, e10, decide_eq_true e2, decide_eq_true e11]
    simp [sameZ]
  refine ⟨by rw [cnt_abs, e2]; exact q1, by have := congrArg List.length e2; simpa [q2] using this, by rw [tot_abs, e2]; exact q3, by have := congrArg List.length e11; simpa using this, fun g1 g2 g3 => hsame (q4 g1 (by omega) (by omega)), fun g1 g2 => hsame (q5 g1 g2)⟩
end Go.Proofs.YtkpbldhkoobnaaaDoor

/-
  P4.4: right attributes whose next one may be, put narrow, are read with a path that counts as long, and as they were where no number is lost: the walk (written by gen04r.py).
-/
namespace Go.Proofs.YtkpbldhkoobnaaaDoor
set_option linter.unusedVariables false
set_option linter.unusedSimpArgs false
open Go.RowKit

theorem below_drew_of {w w' : World} {B : Nat} (h : Below B w w') : Below w'.heap.size w' w'.drew := (Below.refl _ _).drew
/-- How many numbers are wide. -/
def bigN (z : List Nat) : Nat := (z.filter fun x => decide (65535 < x)).length
theorem bigN_le (z : List Nat) : bigN z ≤ z.length := List.length_filter_le _ _
theorem bigN_step {z : List Nat} {j : Nat} (h : j < z.length) : bigN (z.take (j + 1)) = bigN (z.take j) + if 65535 < z.getD j 0 then 1 else 0 := by
  rw [take32_step h]
  unfold bigN
  rw [List.filter_append, List.length_append, List.filter_cons, List.filter_nil]
  by_cases q : 65535 < z.getD j 0
  · rw [if_pos q, decide_eq_true q]; rfl
  · rw [if_neg q, decide_eq_false q]; rfl
theorem bigN_bigs (z : List Nat) : (bigN z = 0 → bigs z = false) ∧ (bigN z ≠ 0 → bigs z = true) := by
  unfold bigN bigs
  have e : bigB = fun x => decide (65535 < x) := rfl
  rw [e]
  constructor
  · intro h
    rw [List.length_eq_zero_iff, List.filter_eq_nil_iff] at h
    rw [List.any_eq_false]
    exact h
  · intro h
    cases hb : z.any fun x => decide (65535 < x) with
    | true => rfl
    | false =>
      rw [List.any_eq_false] at hb
      exact absurd (by rw [List.length_eq_zero_iff, List.filter_eq_nil_iff]; exact hb) h
set_option maxRecDepth 100000 in
set_option maxHeartbeats 25600000 in
theorem AttrsNarrow.walk (a : Av) (W : World) (ht : TabK W) (ha : AvArg W a) (hwt : Wt reachBytes a.path) :
    Calls Tryd.prog 7 #[.agg a.row.toArray] W fun e w' => e = .returned (.bool true) ∧ Below W.heap.size W w' := by
  have hb1 := (Below.refl W.heap.size W).alloc (Nat.le_refl _) (.cells a.row.toArray 27)
  have kA := Blk.new W 27 a.row
  obtain ⟨W0, hW0⟩ : ∃ W0, W0 = W.alloc (.cells a.row.toArray 27) := ⟨_, rfl⟩
  rw [← hW0] at hb1 kA
  have HW0 := Lib.hid hW0; have HB1 := Lib.hid hb1
  have HCV := Lib.hid (fun (w : World) (h : Below W0.heap.size W0 w) => av_blk (kA.below h kA.lt))
  have HIN := Lib.hid (fun (w : World) (h : Below W0.heap.size W0 w) => (ha.inn.below (hb1.trans (h.mono hb1.size)) (Nat.le_refl _)).lift (hb1.trans (h.mono hb1.size)).size)
  have HTK := Lib.hid (fun (w : World) (h : Below W0.heap.size W0 w) => ht.below (hb1.trans (h.mono hb1.size)) ht.lt)
  have QW := Lib.hid (fun (w : World) (h : Below W0.heap.size W0 w) => awake4_any w (HTK.out w h))
  have QFA := Lib.hid (fun (w : World) (h : Below W0.heap.size W0 w) => Few4_any a w (HIN.out w h))
  obtain ⟨N, hN⟩ := Int.eq_ofNat_of_zero_le ha.next.1
  have hNb : N < 4294967296 := by have := ha.next.2; omega
  have HBK := Lib.hid (fun (hok : a.okB = true) (hnb : nextB N = true) => nar_all a W ht ha hok N hN hnb)
  have HC2 := Lib.hid (fun (w : World) (h : Below W0.heap.size W0 w) => show w.cell? ⟨W.heap.size, 2, none⟩ = some (.int .u32 (N : Int)) by rw [← hN]; exact (kA.below h kA.lt).cell 2)
  have HA1 := Lib.hid (fun (w : World) (h : Below W0.heap.size W0 w) => show w.cell? ⟨W.heap.size, 1, none⟩ = some (.slice a.pathA a.path.length a.pathC) from (kA.below h kA.lt).cell 1)
  have HA6 := Lib.hid (fun (w : World) (h : Below W0.heap.size W0 w) => show w.cell? ⟨W.heap.size, 6, none⟩ = some (.bool a.has) from (kA.below h kA.lt).cell 6)
  obtain ⟨SA, hSA⟩ := Int.eq_ofNat_of_zero_le ha.aas.1
  have HA7 := Lib.hid (fun (w : World) (h : Below W0.heap.size W0 w) => show w.cell? ⟨W.heap.size, 7, none⟩ = some (.int .u32 (SA : Int)) by rw [← hSA]; exact (kA.below h kA.lt).cell 7)
  have HSA := Lib.hid (And.intro hSA (show SA < 4294967296 by have := ha.aas.2; omega))
  clear hSA
  have HNB := Lib.hid hNb
  clear hb1 kA hW0 ha ht hN hNb
  go_enter Tryd.func7, Tryd.ntmps7
  go_wp2_with (first
    | (refine wpList_boxA _ rfl (.tmp 0) rfl a rfl ?_)
    | (rw [← HW0.out]; refine wpList_loadA _ rfl (.tmp 1) rfl W.heap.size 0 a rfl (HCV.out _ (Below.refl _ _)) ?_))
  refine (QFA.out _ (Below.refl _ _)).mono ?_
  rintro e w1 ⟨qa, rfl, hfa, hb1⟩
  have HA := Lib.hid hb1
  clear hb1
  cases qa with
  | false =>
    clear hfa
    go_wp2_with fail
    refine (QW.out _ HA.out).mono ?_
    rintro e w2 ⟨rfl, hb2⟩
    have HB2 := Lib.hid (below_two7 HB1.out ((below_two7 HA.out hb2)))
    clear hb2
    go_wp2_with fail
    go_ret
    exact ⟨rfl, HB2.out⟩
  | true =>
    obtain ⟨hf1, hf2, hf3, hf4⟩ := hfa rfl
    have h2 : a.path.length ≤ 12 ∧ fewN a.path ≤ 300 := of_decide_eq_true hf1
    have htt := few_tot_le hf1 (fun s hs => Nat.le_trans (hwt s hs) (by unfold reachBytes; decide))
    have Q2 := Lib.hid (fun (w : World) (h : Below W0.heap.size W0 w) => RefRight4_any a w (HIN.out w h) (by omega) (by omega) (by omega))
    have HPL := Lib.hid (show a.path.length ≤ 1000000000 ∧ a.raws.length ≤ 1000000000 by omega)
    clear hf1 hf2 hf3 hf4 h2 htt hfa hwt
    cases hok : a.okB with
    | false =>
      rw [hok] at Q2
      clear hok
      go_wp2_with (refine wpList_loadG _ (by rfl) (.tmp 1) rfl W.heap.size 0 a rfl (HCV.out _ HA.out) ?_)
      refine (Q2.out _ HA.out).mono ?_
      rintro e w2 ⟨rfl, hb2⟩
      have HB := Lib.hid (below_two7 HA.out hb2)
      clear hb2
      go_wp2_with fail
      refine (QW.out _ HB.out).mono ?_
      rintro e w3 ⟨rfl, hb3⟩
      have HB3 := Lib.hid (below_two7 HB1.out ((below_two7 HB.out hb3)))
      clear hb3
      go_wp2_with fail
      go_ret
      exact ⟨rfl, HB3.out⟩
    | true =>
      rw [hok] at Q2
      have HOK := Lib.hid hok
      clear hok
      have QN := Lib.hid (fun (w : World) => RefNext_any N w HNB.out)
      go_wp2_with (refine wpList_loadG _ (by rfl) (.tmp 1) rfl W.heap.size 0 a rfl (HCV.out _ HA.out) ?_)
      refine (Q2.out _ HA.out).mono ?_
      rintro e w2 ⟨rfl, hb2⟩
      have HB := Lib.hid (below_two7 HA.out hb2)
      have c2 := HC2.out w2 HB.out
      clear hb2
      cases hnb : nextB N with
      | false =>
        rw [hnb] at QN
        clear hnb
        go_wp2_with fail
        refine (QN.out _).mono ?_
        rintro e w3 ⟨rfl, rfl⟩
        go_wp2_with fail
        refine (QW.out _ HB.out).mono ?_
        rintro e w3 ⟨rfl, hb3⟩
        have HB3 := Lib.hid (below_two7 HB1.out ((below_two7 HB.out hb3)))
        clear hb3
        go_wp2_with fail
        go_ret
        exact ⟨rfl, HB3.out⟩
      | true =>
        rw [hnb] at QN
        obtain ⟨d, Sf, hput, hrun, hdl, hpb, F, hF, hsm⟩ := HBK.out HOK.out hnb
        have QP := Lib.hid (fun (w : World) (h : Below W0.heap.size W0 w) => hput w (below_two7 HB1.out h))
        have HRUN := Lib.hid (And.intro hrun (And.intro hdl hpb)); have HSM := Lib.hid hsm; have HF := Lib.hid hF
        clear hput hrun hdl hsm hnb HBK hF hpb
        go_wp2_with fail
        refine (QN.out _).mono ?_
        rintro e w3 ⟨rfl, rfl⟩
        clear c2 QN
        go_wp2_with (refine wpList_loadA _ rfl (.tmp 1) rfl W.heap.size 0 a rfl (HCV.out _ HB.out) ?_)
        refine (QP.out _ HB.out).mono ?_
        rintro e w3 ⟨A3, c3, rfl, f1, f2, ho, hb3⟩
        have HB3 := Lib.hid (below_two7 HB.out hb3)
        have QR := Lib.hid (ReadA_nar (fun _ => true) A3 c3 d w3 (HTK.out w3 HB3.out) ho.bytes f1 f2 (by have := HRUN.out.2.1; omega) Sf HRUN.out.1 (steps_nar _) HRUN.out.2.2)
        rw [HF.out] at QR
        clear f1 f2 ho hb3 QP
        go_wp2_with fail
        refine QR.out.mono ?_
        rintro e w4 ⟨x, kA, kc, rfl, hin, hb4, e1, e2, e3, e4, e5, e6, e7, e8, e9, e10, e11⟩
        obtain ⟨hcn, hl1, hl3, hl2, hs1, hs2⟩ := HSM.out x e1 e2 e3 e4 e5 e6 e7 e8 e9 e10 e11
        clear e1 e2 e3 e4 e5 e6 e7 e8 e9 e10 e11 QR
        obtain ⟨_, _, _, hpl, hptot, _, _, hhas, _⟩ := okB_all HOK.out
        obtain ⟨y, hy⟩ : ∃ y : Av, x = y := ⟨_, rfl⟩
        obtain ⟨W5, hW5⟩ : ∃ W5, W5 = (w4.alloc (.cells x.row.toArray 27)).alloc (.cells #[.int .i64 0, .int .i64 0, .slice none 0 0] 46) := ⟨_, rfl⟩
        have HW5 := Lib.hid hW5
        have hb5 : Below w4.heap.size w4 W5 := by rw [hW5]; exact ((Below.refl _ _).alloc (Nat.le_refl _) _).alloc (by simp) _
        have kx : Blk W5 w4.heap.size 27 x.row := by
          rw [hW5]
          exact (Blk.new w4 _ _).below ((Below.refl _ _).alloc (Nat.le_refl _) _) (by simp)
        have kf : Blk W5 (w4.heap.size + 1) 46 [.int .i64 0, .int .i64 0, .slice none 0 0] := by
          have := Blk.new (w4.alloc (.cells x.row.toArray 27)) 46 [.int .i64 0, .int .i64 0, .slice none 0 0]
          rw [hW5]
          simpa using this
        clear hW5
        rw [hy] at kx hin hcn hl1 hl2 hl3 hs1 hs2
        have hb05 := below_two7 HB3.out (below_two7 hb4 hb5)
        have HB5 := Lib.hid hb05
        have HX1 := Lib.hid (fun (w : World) (h : Below W5.heap.size W5 w) => show w.cell? ⟨w4.heap.size, 1, none⟩ = some (.slice y.pathA y.path.length y.pathC) from (kx.below h kx.lt).cell 1)
        have HXV := Lib.hid (fun (w : World) (h : Below W5.heap.size W5 w) => av_blk (kx.below h kx.lt))
        have HF0 := Lib.hid (fun (w : World) (h : Below W5.heap.size W5 w) => show w.cell? ⟨w4.heap.size + 1, 0, none⟩ = some (.int .i64 0) from (kf.below h kf.lt).cell 0)
        have hYI : ∀ (w : World), Below W5.heap.size W5 w → y.In w w.heap.size := fun w h => ((hin.below hb5 (Nat.le_refl _)).lift hb5.size |>.below h (Nat.le_refl _)).lift h.size
        have QCX := Lib.hid (fun (w : World) (h : Below W5.heap.size W5 w) => show Calls Tryd.prog 24 #[.slice y.pathA y.path.length y.pathC] w fun e w' => e = .returned (.int .i64 ((cntN a.path : Nat) : Int)) ∧ w = w' by rw [← hcn]; exact RefCount_any y.pathA y.pathC y.path w (hYI w h).path (hYI w h).pathC.1 (hYI w h).pathC.2 (by rw [hl1, hl3]; omega))
        have QCA := Lib.hid (fun (w : World) (h : Below W0.heap.size W0 w) => RefCount_any a.pathA a.pathC a.path w (HIN.out w h).path (HIN.out w h).pathC.1 (HIN.out w h).pathC.2 (by omega))
        have QFL := Lib.hid (fun (w : World) (h : Below W0.heap.size W0 w) => RefFlat_any a.pathA a.pathC a.path w (HIN.out w h).path (by omega) (by omega))
        have QS := Lib.hid (fun (w : World) (h : Below W5.heap.size W5 w) => RefSame4_any y a w (hYI w h) (HIN.out w (below_two7 hb05 h)) (by rw [hl1]; exact HPL.out.1) (by rw [hl2]; exact HPL.out.2))
        have HS12 := Lib.hid (And.intro hs1 hs2)
        have HHAS := Lib.hid hhas
        have HZL := Lib.hid (show (flatN a.path).length ≤ 64 by rw [flatN_len]; exact hptot)
        clear hin hb4 hb5 kx kf hcn hl1 hl2 hl3 hs1 hs2 hhas hpl hptot hYI hb05
        obtain ⟨org, pa, pc, path, next, med, pref, atomic, has, aas, aad, ca, cc, comms, ra, rc, raws⟩ := x
        clear hy
        have HW5' := HW5.out
        clear HW5
        unfold Av.row at HW5'
        dsimp only at HW5'
        have HW5 := Lib.hid HW5'
        clear HW5'
        unfold Av.row fault0
        dsimp only
        go_wp2_with fail
        rw [← HW5.out]
        have hbc := below_drew_of HB5.out
        refine wp_region_held_drew (S := fun w' => w'.cell? ⟨w4.heap.size, 1, none⟩ = some (.slice y.pathA y.path.length y.pathC) ∧ w'.cell? ⟨w4.heap.size + 1, 0, none⟩ = some (.int .i64 0) ∧ w'.cell? ⟨W.heap.size, 1, none⟩ = some (.slice a.pathA a.path.length a.pathC)) (by kernel_rfl) (⟨HX1.out _ hbc, HF0.out _ hbc, HA1.out _ (below_two7 HB5.out hbc)⟩) (fun hHeld => ?_)
        refine wpAnyH_take (i := 0) (v := ?_) rfl (by kernel_rfl) (by kernel_rfl) (by kernel_rfl) (fun _ _ _ h => h) (Or.inl ⟨by rfl, ?_⟩) (by assumption) ?_
        rotate_left
        · intro w hSw; (try dsimp only at hSw); go_simp; (try with_reducible rfl)
        try simp only [List.getElem_toArray, List.getElem_cons_zero, List.getElem_cons_succ, Act.put, List.setIfInBounds_toArray, List.set_cons_zero, List.set_cons_succ]
        refine wpAnyH_take (i := 1) (v := ?_) rfl (by kernel_rfl) (by kernel_rfl) (by kernel_rfl) (fun _ _ _ h => h) (Or.inl ⟨by rfl, ?_⟩) (by assumption) ?_
        rotate_left
        · intro w hSw; (try dsimp only at hSw); go_simp; (try with_reducible rfl)
        try simp only [List.getElem_toArray, List.getElem_cons_zero, List.getElem_cons_succ, Act.put, List.setIfInBounds_toArray, List.set_cons_zero, List.set_cons_succ]
        refine wpAnyH_take (i := 2) (v := ?_) rfl (by kernel_rfl) (by kernel_rfl) (by kernel_rfl) (fun _ _ _ h => h) (Or.inl ⟨by rfl, ?_⟩) (by assumption) ?_
        rotate_left
        · intro w hSw; (try dsimp only at hSw); go_simp; (try with_reducible rfl)
        try simp only [List.getElem_toArray, List.getElem_cons_zero, List.getElem_cons_succ, Act.put, List.setIfInBounds_toArray, List.set_cons_zero, List.set_cons_succ]
        refine wpAnyH_take (i := 3) (v := ?_) rfl (by kernel_rfl) (by kernel_rfl) (by kernel_rfl) (fun _ _ _ h => h) (Or.inl ⟨by rfl, ?_⟩) (by assumption) ?_
        rotate_left
        · intro w hSw; (try dsimp only at hSw); go_simp; (try with_reducible rfl)
        try simp only [List.getElem_toArray, List.getElem_cons_zero, List.getElem_cons_succ, Act.put, List.setIfInBounds_toArray, List.set_cons_zero, List.set_cons_succ]
        refine wpAnyH_take (i := 4) (v := ?_) rfl (by kernel_rfl) (by kernel_rfl) (by kernel_rfl) (fun _ _ _ h => h) (Or.inl ⟨by rfl, ?_⟩) (by assumption) ?_
        rotate_left
        · intro w hSw; (try dsimp only at hSw); go_simp; (try with_reducible rfl)
        try simp only [List.getElem_toArray, List.getElem_cons_zero, List.getElem_cons_succ, Act.put, List.setIfInBounds_toArray, List.set_cons_zero, List.set_cons_succ]
        refine wpAnyH_take (i := 5) (v := ?_) rfl (by kernel_rfl) (by kernel_rfl) (by kernel_rfl) (fun _ _ _ h => h) (Or.inl ⟨by rfl, ?_⟩) (by assumption) ?_
        rotate_left
        · intro w hSw; (try dsimp only at hSw); go_simp; (try with_reducible rfl)
        try simp only [List.getElem_toArray, List.getElem_cons_zero, List.getElem_cons_succ, Act.put, List.setIfInBounds_toArray, List.set_cons_zero, List.set_cons_succ]
        refine wpAnyH_take (i := 6) (v := ?_) rfl (by kernel_rfl) (by kernel_rfl) (by kernel_rfl) (fun _ _ _ h => h) (Or.inl ⟨by rfl, ?_⟩) (by assumption) ?_
        rotate_left
        · intro w hSw; (try dsimp only at hSw); go_simp; (try with_reducible rfl)
        try simp only [List.getElem_toArray, List.getElem_cons_zero, List.getElem_cons_succ, Act.put, List.setIfInBounds_toArray, List.set_cons_zero, List.set_cons_succ]
        refine wpAnyH_take (i := 7) (v := ?_) rfl (by kernel_rfl) (by kernel_rfl) (by kernel_rfl) (fun _ _ _ h => h) (Or.inl ⟨by rfl, ?_⟩) (by assumption) ?_
        rotate_left
        · intro w hSw; (try dsimp only at hSw); go_simp; (try with_reducible rfl)
        try simp only [List.getElem_toArray, List.getElem_cons_zero, List.getElem_cons_succ, Act.put, List.setIfInBounds_toArray, List.set_cons_zero, List.set_cons_succ]
        refine wpAnyH_take (i := 8) (v := ?_) rfl (by kernel_rfl) (by kernel_rfl) (by kernel_rfl) (fun _ _ _ h => h) (Or.inl ⟨by rfl, ?_⟩) (by assumption) ?_
        rotate_left
        · intro w hSw; (try dsimp only at hSw); go_simp; (try with_reducible rfl)
        try simp only [List.getElem_toArray, List.getElem_cons_zero, List.getElem_cons_succ, Act.put, List.setIfInBounds_toArray, List.set_cons_zero, List.set_cons_succ]
        refine wpAnyH_take (i := 9) (v := ?_) rfl (by kernel_rfl) (by kernel_rfl) (by kernel_rfl) (fun _ _ _ h => h) (Or.inl ⟨by rfl, ?_⟩) (by assumption) ?_
        rotate_left
        · intro w hSw; (try dsimp only at hSw); go_simp; (try with_reducible rfl)
        try simp only [List.getElem_toArray, List.getElem_cons_zero, List.getElem_cons_succ, Act.put, List.setIfInBounds_toArray, List.set_cons_zero, List.set_cons_succ]
        refine wpAnyH_take (i := 11) (v := ?_) rfl (by kernel_rfl) (by kernel_rfl) (by kernel_rfl) (fun _ _ _ h => h) (Or.inl ⟨by rfl, ?_⟩) (by assumption) ?_
        rotate_left
        · intro w hSw; (try dsimp only at hSw); go_simp; (try with_reducible rfl)
        try simp only [List.getElem_toArray, List.getElem_cons_zero, List.getElem_cons_succ, Act.put, List.setIfInBounds_toArray, List.set_cons_zero, List.set_cons_succ]
        refine wpAnyH_take (i := 12) (v := ?_) rfl (by kernel_rfl) (by kernel_rfl) (by kernel_rfl) (fun _ _ _ h => h) (Or.inl ⟨by rfl, ?_⟩) (by assumption) ?_
        rotate_left
        · intro w hSw; (try dsimp only at hSw); go_simp; (try with_reducible rfl)
        try simp only [List.getElem_toArray, List.getElem_cons_zero, List.getElem_cons_succ, Act.put, List.setIfInBounds_toArray, List.set_cons_zero, List.set_cons_succ]
        refine wpAnyH_ready (rs := [10]) (by kernel_rfl) (by simp) ?_
        refine AllReadyH.cons (o := _) rfl (fun K hK => ?_) AllReadyH.nil
        rw [if_pos (by rfl)]
        go_simp
        go_at_call 24
        refine (QCX.out _ hbc).mono ?_; rintro e wx ⟨rfl, rfl⟩
        go_wp2_with fail
        refine hK.out _ _ (⟨HX1.out _ hbc, HF0.out _ hbc, HA1.out _ (below_two7 HB5.out hbc)⟩) (fun hHeld2 => ?_)
        clear hK K hHeld
        have hHeld := hHeld2
        clear hHeld2
        try simp only [List.getElem_toArray, List.getElem_cons_zero, List.getElem_cons_succ, Act.put, List.setIfInBounds_toArray, List.set_cons_zero, List.set_cons_succ]
        refine wpAnyH_ready (rs := [13]) (by kernel_rfl) (by simp) ?_
        refine AllReadyH.cons (o := _) rfl (fun K hK => ?_) AllReadyH.nil
        rw [if_pos (by rfl)]
        go_simp
        go_at_call 24
        refine (QCA.out _ (below_two7 HB5.out hbc)).mono ?_; rintro e wx ⟨rfl, rfl⟩
        go_wp2_with fail
        refine hK.out _ _ (⟨HX1.out _ hbc, HF0.out _ hbc, HA1.out _ (below_two7 HB5.out hbc)⟩) (fun hHeld2 => ?_)
        clear hK K hHeld
        have hHeld := hHeld2
        clear hHeld2
        try simp only [List.getElem_toArray, List.getElem_cons_zero, List.getElem_cons_succ, Act.put, List.setIfInBounds_toArray, List.set_cons_zero, List.set_cons_succ]
        refine wpAnyH_take (i := 14) (v := ?_) rfl (by kernel_rfl) (by kernel_rfl) (by kernel_rfl) (fun _ _ _ h => h) (Or.inl ⟨by rfl, ?_⟩) (by assumption) ?_
        rotate_left
        · intro w hSw; (try dsimp only at hSw); go_simp; (first | (with_reducible rfl) | (simp))
        try simp only [List.getElem_toArray, List.getElem_cons_zero, List.getElem_cons_succ, Act.put, List.setIfInBounds_toArray, List.set_cons_zero, List.set_cons_succ]
        refine wpAnyH_take (i := 15) (v := ?_) rfl (by kernel_rfl) (by kernel_rfl) (by kernel_rfl) (fun _ _ _ h => h) (Or.inl ⟨by rfl, ?_⟩) (by assumption) ?_
        rotate_left
        · intro w hSw; (try dsimp only at hSw); go_simp; (try with_reducible rfl)
        try simp only [List.getElem_toArray, List.getElem_cons_zero, List.getElem_cons_succ, Act.put, List.setIfInBounds_toArray, List.set_cons_zero, List.set_cons_succ]
        refine wpAnyH_done (by kernel_rfl) ?_ _
        have c1 := HA1.out _ (below_two7 HB5.out hbc)
        go_wp2_with fail
        refine (QFL.out _ (below_two7 HB5.out hbc)).mono ?_
        rintro e w6 ⟨A6, c6, rfl, g1, g2, ho6, hb6⟩
        have hat := ho6.at
        have HB6 := Lib.hid (hbc.trans (hb6.mono hbc.size))
        have HBZ := Lib.hid (below_two7 HB5.out HB6.out)
        obtain ⟨z, hz⟩ : ∃ z, z = flatN a.path := ⟨_, rfl⟩
        rw [← hz] at HS12 HZL hat g1
        rw [← hz]
        have HAT := Lib.hid hat; have HG := Lib.hid (And.intro g1 g2)
        have HZ := Lib.hid hz
        clear c1 hat ho6 hb6 hbc g1 g2 hz
        go_wp2_with fail
        go_loop [9, 10] (fun n i => ∃ j : Nat, j ≤ z.length ∧ i = .int .i64 (j : Int) ∧ n = .int .i64 ((bigN (z.take j) : Nat) : Int)) (fun _ i => z.length - (intOf i).toNat)
        case atStart => exact ⟨0, Nat.zero_le _, rfl, by simp [bigN]⟩
        case round =>
          obtain ⟨j, hj, rfl, rfl⟩ := hrel
          have hzl := HZL.out
          have hbl := bigN_le (z.take j)
          have htl : (z.take j).length = j := by rw [List.length_take]; omega
          rw [htl] at hbl
          clear htl
          by_cases hlt : j < z.length
          · obtain ⟨b, off, hA, hb, k3⟩ := HAT.out.cell hlt
            have hst := bigN_step hlt
            obtain ⟨v, hv⟩ : ∃ v, v = z.getD j 0 := ⟨_, rfl⟩
            rw [← hv] at k3 hst
            subst hA
            clear hv
            by_cases hk : 65535 < v
            · rw [if_pos hk] at hst
              have HST := Lib.hid hst
              clear hst
              go_wp2_with fail
              go_round
              case rel => exact ⟨j + 1, by omega, by go_num, by rw [HST.out]; go_num⟩
              case measure => simp [intOf]; omega
            · rw [if_neg hk] at hst
              have HST := Lib.hid hst
              clear hst
              go_wp2_with fail
              go_round
              case rel => exact ⟨j + 1, by omega, by go_num, by rw [HST.out]; go_num⟩
              case measure => simp [intOf]; omega
          · obtain rfl : j = z.length := by omega
            rw [List.take_length] at hbl ⊢
            obtain ⟨m, hm⟩ : ∃ m, m = bigN z := ⟨_, rfl⟩
            have hbg := bigN_bigs z
            rw [← hm] at hbg hbl ⊢
            have HM := Lib.hid hbg
            have hsa := HSA.out.2
            have c7 := HA7.out _ HBZ.out
            have c6 := HA6.out _ HBZ.out
            clear hm hbg hj hlt
            by_cases hc : m = 0 ∧ SA ≤ 65535 ∧ SA ≠ 23456
            · obtain ⟨hm0, hc1, hc2⟩ := hc
              have hsame := HS12.out.1 (HM.out.1 hm0) (by rw [HSA.out.1]; omega) (by rw [HSA.out.1]; omega)
              have QS' := QS.out _ HB6.out
              rw [hsame] at QS'
              have QS2 := Lib.hid QS'
              clear QS' hsame
              subst hm0
              go_wp2_with (first | (refine wpList_loadA _ rfl (.tmp 5) rfl w4.heap.size 0 y rfl (HXV.out _ HB6.out) ?_) | (refine wpList_loadA _ rfl (.tmp 1) rfl W.heap.size 0 a rfl (HCV.out _ HBZ.out) ?_))
              refine QS2.out.mono ?_
              rintro e w7 ⟨rfl, hb7⟩
              have HB7 := Lib.hid (below_two7 HBZ.out hb7)
              clear hb7 c6 c7 QS2
              go_wp2_with fail
              refine (QW.out _ HB7.out).mono ?_
              rintro e w8 ⟨rfl, hb8⟩
              have HB8 := Lib.hid (below_two7 HB1.out (below_two7 HB7.out hb8))
              clear hb8
              go_wp2_with fail
              go_ret
              exact ⟨rfl, HB8.out⟩
            · cases hh : a.has with
              | true =>
                rw [hh] at c6
                clear hh
                by_cases hm0 : m = 0
                · subst hm0
                  by_cases hc1 : SA ≤ 65535
                  · obtain rfl : SA = 23456 := by omega
                    clear hc
                    go_wp2_with fail
                    refine (QW.out _ HBZ.out).mono ?_
                    rintro e w7 ⟨rfl, hb7⟩
                    have HB7 := Lib.hid (below_two7 HB1.out (below_two7 HBZ.out hb7))
                    clear hb7 c6 c7
                    go_wp2_with fail
                    go_ret
                    exact ⟨rfl, HB7.out⟩
                  · clear hc
                    go_wp2_with fail
                    refine (QW.out _ HBZ.out).mono ?_
                    rintro e w7 ⟨rfl, hb7⟩
                    have HB7 := Lib.hid (below_two7 HB1.out (below_two7 HBZ.out hb7))
                    clear hb7 c6 c7
                    go_wp2_with fail
                    go_ret
                    exact ⟨rfl, HB7.out⟩
                · clear hc
                  have hm1 : ((m : Int) == 0) = false := by simpa using hm0
                  go_wp2_with fail
                  refine (QW.out _ HBZ.out).mono ?_
                  rintro e w7 ⟨rfl, hb7⟩
                  have HB7 := Lib.hid (below_two7 HB1.out (below_two7 HBZ.out hb7))
                  clear hb7 c6 c7
                  go_wp2_with fail
                  go_ret
                  exact ⟨rfl, HB7.out⟩
              | false =>
                have hm0 : m ≠ 0 := by
                  intro e
                  have h0 := (HHAS.out hh).1
                  rw [HSA.out.1] at h0
                  omega
                have hsame := HS12.out.2 (HM.out.2 hm0) hh
                rw [hh] at c6
                have QS' := QS.out _ HB6.out
                rw [hsame] at QS'
                have QS2 := Lib.hid QS'
                have hm1 : ((m : Int) == 0) = false := by simpa using hm0
                clear QS' hsame hc hh
                go_wp2_with (first | (refine wpList_loadG _ (by rfl) (.tmp 5) rfl w4.heap.size 0 y rfl (HXV.out _ HB6.out) ?_) | (refine wpList_loadG _ (by rfl) (.tmp 1) rfl W.heap.size 0 a rfl (HCV.out _ HBZ.out) ?_))
                refine QS2.out.mono ?_
                rintro e w7 ⟨rfl, hb7⟩
                have HB7 := Lib.hid (below_two7 HBZ.out hb7)
                clear hb7 c6 c7 QS2
                go_wp2_with fail
                refine (QW.out _ HB7.out).mono ?_
                rintro e w8 ⟨rfl, hb8⟩
                have HB8 := Lib.hid (below_two7 HB1.out (below_two7 HB7.out hb8))
                clear hb8
                go_wp2_with fail
                go_ret
                exact ⟨rfl, HB8.out⟩
end Go.Proofs.YtkpbldhkoobnaaaDoor

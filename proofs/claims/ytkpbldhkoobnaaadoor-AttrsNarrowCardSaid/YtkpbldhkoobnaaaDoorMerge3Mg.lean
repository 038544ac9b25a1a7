/-
  Texts of this seat, put together: Merge3.
-/
import Derived.Test.YtkpbldhkoobnaaaDoorBegin3Mg
/-
  A path in narrow numbers, and one in wide ones, together (written by gen03m.py).
-/
namespace Go.Proofs.YtkpbldhkoobnaaaDoor
set_option linter.unusedVariables false
set_option linter.unusedSimpArgs false
open Go.RowKit

theorem begL_len : ∀ (r : List (Int × List Nat)) (n : Nat), (begL r n).length ≤ r.length := by
  intro r
  induction r with
  | nil => intro n; simp [begL]
  | cons s r ih =>
    intro n
    unfold begL
    split
    · simp
    · split
      · have := ih (n - s.2.length); simp only [List.length_cons]; omega
      · have := ih (n - 1); simp only [List.length_cons]; omega
theorem begL_tot : ∀ (r : List (Int × List Nat)) (n : Nat), totA (begL r n) ≤ totA r := by
  intro r
  induction r with
  | nil => intro n; simp [begL]
  | cons s r ih =>
    intro n
    unfold begL
    split
    · simp [totA]
    · split
      · have := ih (n - s.2.length)
        simp only [totA, List.map_cons, List.sum_cons, List.length_take] at this ⊢
        omega
      · have := ih (n - 1)
        simp only [totA, List.map_cons, List.sum_cons] at this ⊢
        omega
theorem flat_app (M N : List Sg) : flatS (M ++ N) = flatS M ++ flatS N := by simp [flatS]
theorem flat_one (M : List Sg) : ∀ u ∈ flatS M, u.oneCell' = true := by
  intro u hu
  obtain ⟨s, _, hs⟩ := List.mem_flatMap.1 hu
  exact two_one s u hs
/-- A list of segments of the call's own can be read. -/
theorem segs_row {w : World} {B n c : Nat} {A : Option Addr} {M : List Sg} (hrow : w.ownsRow B 87 2 (.slice A n c) M.length (flatS M)) (hown : ∀ s ∈ M, ∃ B', Own32 w B' s.sl s.nums) (hfit : ∀ s ∈ M, s.Fit) : Segs w w.heap.size A M := by
  intro hl
  rcases hrow.2 with ⟨hv, hn⟩ | ⟨g, cap, cur, hv, hbg, hg, hnc, hcm, hcs, htake⟩
  · exact absurd (List.eq_nil_of_length_eq_zero hn) hl
  · have hA : A = some ⟨g, 0, none⟩ := by injection hv
    refine ⟨g, 0, hA, (Array.getElem?_eq_some_iff.1 hg).1, fun j s hj => ?_⟩
    have hc := World.ownsRow.cells hrow (g := g) (by subst hA; rfl)
    have f := flat_at M j s hj
    have c1 := hc (j * 2) _ f.1
    have c2 := hc (j * 2 + 1) _ f.2
    rw [Addr.add_lit] at c1 c2
    obtain ⟨B', ho⟩ := hown s (List.mem_of_getElem? hj)
    obtain ⟨A', c', hsl, g1, g2⟩ := ho.form
    simp only [Sg.sl, Value.slice.injEq] at hsl
    obtain ⟨h1, h2, h3⟩ := hsl
    subst h1 h3
    exact ⟨c1, c2, g1, g2, Own32.at ho, (hfit s (List.mem_of_getElem? hj)).1, (hfit s (List.mem_of_getElem? hj)).2⟩
theorem own_news {w : World} {B H n c : Nat} {A : Option Addr} {M : List Sg} (h : OwnSegs w B H (.slice A n c) M) : n ≠ 0 → ∃ ad, A = some ad ∧ ∀ j u, (flatS M)[j]? = some u → w.cell? (ad.add j) = some u := by
  intro hn0
  rcases h.row.2 with ⟨hv, hn⟩ | ⟨g, cap, cur, hv, hbg, hg, hnc, hcm, hcs, htake⟩
  · injection hv with _ h2 _
    omega
  · have hA : A = some ⟨g, 0, none⟩ := by injection hv
    subst hA
    exact ⟨_, rfl, World.ownsRow.cells h.row (g := g) rfl⟩
/-- A path in rows of a call's own, wherever they lie. -/
def PathT (w : World) (v : Value) (M : List Sg) : Prop := (∃ B, w.ownsRow B 87 2 v M.length (flatS M)) ∧ (∀ s ∈ M, ∃ B', Own32 w B' s.sl s.nums) ∧ ∀ s ∈ M, s.Fit
theorem rowT_below {w w' : World} {B T size n : Nat} {v : Value} {xs : List Value} (h : w.ownsRow B T size v n xs) (hb : Below w.heap.size w w') : w'.ownsRow B T size v n xs := by
  refine ⟨h.1, ?_⟩
  rcases h.2 with h | ⟨g, cap, cur, hv, hB, hg, h1, h2, h3, h4⟩
  · exact .inl h
  · exact .inr ⟨g, cap, cur, hv, hB, (hb.block g (Array.getElem?_eq_some_iff.1 hg).1).trans hg, h1, h2, h3, h4⟩
theorem PathT.below {w w' : World} {v : Value} {M : List Sg} (h : PathT w v M) (hb : Below w.heap.size w w') : PathT w' v M :=
  ⟨h.1.elim fun B q => ⟨B, rowT_below q hb⟩, fun s hs => (h.2.1 s hs).elim fun B q => ⟨B, rowT_below q hb⟩, h.2.2⟩
theorem PathT.segs {w : World} {n c : Nat} {A : Option Addr} {M : List Sg} (h : PathT w (.slice A n c) M) : Segs w w.heap.size A M := h.1.elim fun B q => segs_row q h.2.1 h.2.2
/-- What Merge leaves. -/
def RetT (w : World) (r : List (Int × List Nat)) (e : Ending) (w' : World) : Prop :=
  ∃ (M : List Sg) (A : Option Addr) (c : Nat), e = .returned (.slice A M.length c) ∧ M.map Sg.abs = r ∧ M.length ≤ c ∧ c ≤ maxLen ∧ PathT w' (.slice A M.length c) M ∧ Below w.heap.size w w'
theorem copy_ret {w W w' : World} {r : List (Int × List Nat)} {e : Ending} (hb : Below w.heap.size w W) (h : RetOwn W r e w') : RetT w r e w' := by
  obtain ⟨M, H, A, c, he, hM, ho, hH, hb'⟩ := h
  obtain ⟨A1, c1, hv, g1, g2⟩ := ho.form
  injection hv with h1 h2 h3
  subst h1 h3
  exact ⟨M, A, c, he, hM, g1, g2, ⟨⟨_, ho.row⟩, fun s hs => ⟨_, ho.own s hs⟩, ho.fit⟩, hb.trans (hb'.mono hb.size)⟩

set_option maxHeartbeats 12800000 in
theorem Merge3_any (A A' : Option Addr) (c c' : Nat) (L N : List Sg) (w : World) (h : Segs w w.heap.size A L) (h' : Segs w w.heap.size A' N) (hc : L.length ≤ c) (hm : c ≤ maxLen) (hc' : N.length ≤ c') (hm' : c' ≤ maxLen)
    (ht : totN L ≤ 1048576) (hL : L.length ≤ 12) (ht' : totN N ≤ 1048576) (hN : N.length ≤ 12) :
    Calls Tryd.prog 83 #[.slice A L.length c, .slice A' N.length c'] w (RetT w (mergeL (L.map Sg.abs) (N.map Sg.abs))) := by
  have HS := Lib.hid (fun W (hB : Below w.heap.size w W) => (h.below hB (Nat.le_refl _)).lift hB.size)
  have HS' := Lib.hid (fun W (hB : Below w.heap.size w W) => (h'.below hB (Nat.le_refl _)).lift hB.size)
  have Q1 := Lib.hid (Count_any A c L w h hc hm (by omega))
  have Q2 := Lib.hid (fun W (hB : Below w.heap.size w W) => Count_any A' c' N W (HS'.out W hB) hc' hm' (by omega))
  have Q3 := Lib.hid (fun W (hB : Below w.heap.size w W) => Right_any A c L W (HS.out W hB) hc hm (by omega))
  have Q4 := Lib.hid (fun W (hB : Below w.heap.size w W) => Right_any A' c' N W (HS'.out W hB) hc' hm' (by omega))
  have QC := Lib.hid (fun W (hB : Below w.heap.size w W) => Copied_any A c L W (HS.out W hB) (by omega) (by omega))
  have QC' := Lib.hid (fun W (hB : Below w.heap.size w W) => Copied_any A' c' N W (HS'.out W hB) (by omega) (by omega))
  have hcl := cnt_le L
  have hcn := cnt_le N
  have HCN := Lib.hid hcn
  have e1 := cnt_abs L
  have e2 := cnt_abs N
  obtain ⟨x, hx⟩ : ∃ x, x = cntN L := ⟨_, rfl⟩
  obtain ⟨y, hy⟩ : ∃ y, y = cntN N := ⟨_, rfl⟩
  rw [← hx] at Q1 e1 hcl
  rw [← hy] at Q2 e2 hcn
  have hxb : (x : Int) ≤ 2000000 := by omega
  have hyb : (y : Int) ≤ 2000000 := by omega
  have HX := Lib.hid e1; have HY := Lib.hid e2
  have HTN := Lib.hid (And.intro ht' hN)
  clear h h' hx hy e1 e2 hcl hcn
  by_cases hlt : x < y
  · have hltI : (x : Int) - (y : Int) < 0 := by omega
    have HE := Lib.hid (show mergeL (L.map Sg.abs) (N.map Sg.abs) = L.map Sg.abs by unfold mergeL; rw [← HX.out, ← HY.out, if_pos (.inl hlt)])
    clear hlt
    go_enter Tryd.func83, Tryd.ntmps83
    go_wp2_with fail
    refine Q1.out.mono ?_
    rintro e w1 ⟨rfl, hb1⟩
    have HB1 := Lib.hid hb1; clear hb1
    go_wp2_with fail
    refine (Q2.out _ HB1.out).mono ?_
    rintro e w2 ⟨rfl, hb2⟩
    have HB2 := Lib.hid (HB1.out.trans (hb2.mono HB1.out.size)); clear hb2
    go_wp2_with fail
    refine (QC.out _ HB2.out).mono ?_
    rintro e w9 ⟨M9, H9, A9, d9, rfl, hM9, ho9, hH9, hb9⟩
    have HR9 := Lib.hid (copy_ret HB2.out (show RetOwn _ (L.map Sg.abs) (.returned (.slice A9 M9.length d9)) w9 from ⟨M9, H9, A9, d9, rfl, hM9, ho9, hH9, hb9⟩))
    clear hM9 ho9 hH9 hb9
    go_wp2_with fail
    go_ret
    rw [HE.out]
    exact HR9.out
  · have hltI : ¬ (x : Int) - (y : Int) < 0 := by omega
    obtain ⟨d, hd⟩ : ∃ d, d = x - y := ⟨_, rfl⟩
    have hdI : (x : Int) - (y : Int) = (d : Int) := by omega
    have hdn : ¬ (d : Int) < 0 := by omega
    have HD := Lib.hid hd
    have HNLT := Lib.hid hlt
    have HDB := Lib.hid (show d ≤ 1000000000 by omega)
    clear hd hltI hlt
    by_cases hn0 : N.length = 0
    · have hnz : ((N.length : Int) == 0) = true := by rw [hn0]; rfl
      have HE := Lib.hid (show mergeL (L.map Sg.abs) (N.map Sg.abs) = L.map Sg.abs by unfold mergeL; rw [if_pos (.inr (.inl (by rw [List.eq_nil_of_length_eq_zero hn0]; rfl)))])
      clear hn0
      go_enter Tryd.func83, Tryd.ntmps83
      go_wp2_with fail
      refine Q1.out.mono ?_
      rintro e w1 ⟨rfl, hb1⟩
      have HB1 := Lib.hid hb1; clear hb1
      go_wp2_with fail
      refine (Q2.out _ HB1.out).mono ?_
      rintro e w2 ⟨rfl, hb2⟩
      have HB2 := Lib.hid (HB1.out.trans (hb2.mono HB1.out.size)); clear hb2
      go_wp2_with fail
      refine (QC.out _ HB2.out).mono ?_
      rintro e w9 ⟨M9, H9, A9, d9, rfl, hM9, ho9, hH9, hb9⟩
      have HR9 := Lib.hid (copy_ret HB2.out (show RetOwn _ (L.map Sg.abs) (.returned (.slice A9 M9.length d9)) w9 from ⟨M9, H9, A9, d9, rfl, hM9, ho9, hH9, hb9⟩))
      clear hM9 ho9 hH9 hb9
      go_wp2_with fail
      go_ret
      rw [HE.out]
      exact HR9.out
    · have hnz : ((N.length : Int) == 0) = false := by simpa using hn0
      have HN0 := Lib.hid hn0
      clear hn0
      cases hr : rightB L with
      | false =>
        rw [hr] at Q3
        have HE := Lib.hid (show mergeL (L.map Sg.abs) (N.map Sg.abs) = L.map Sg.abs by unfold mergeL; rw [if_pos (.inr (.inr (.inl (by rw [← right_abs]; exact hr))))])
        clear hr
        go_enter Tryd.func83, Tryd.ntmps83
        go_wp2_with fail
        refine Q1.out.mono ?_
        rintro e w1 ⟨rfl, hb1⟩
        have HB1 := Lib.hid hb1; clear hb1
        go_wp2_with fail
        refine (Q2.out _ HB1.out).mono ?_
        rintro e w2 ⟨rfl, hb2⟩
        have HB2 := Lib.hid (HB1.out.trans (hb2.mono HB1.out.size)); clear hb2
        go_wp2_with fail
        refine (Q3.out _ HB2.out).mono ?_
        rintro e w3 ⟨rfl, hb3⟩
        have HB3 := Lib.hid (HB2.out.trans (hb3.mono HB2.out.size)); clear hb3
        go_wp2_with fail
        refine (QC.out _ HB3.out).mono ?_
        rintro e w9 ⟨M9, H9, A9, d9, rfl, hM9, ho9, hH9, hb9⟩
        have HR9 := Lib.hid (copy_ret HB3.out (show RetOwn _ (L.map Sg.abs) (.returned (.slice A9 M9.length d9)) w9 from ⟨M9, H9, A9, d9, rfl, hM9, ho9, hH9, hb9⟩))
        clear hM9 ho9 hH9 hb9
        go_wp2_with fail
        go_ret
        rw [HE.out]
        exact HR9.out
      | true =>
        rw [hr] at Q3
        cases hr' : rightB N with
        | false =>
          rw [hr'] at Q4
          have HE := Lib.hid (show mergeL (L.map Sg.abs) (N.map Sg.abs) = L.map Sg.abs by unfold mergeL; rw [if_pos (.inr (.inr (.inr (by rw [← right_abs]; exact hr'))))])
          clear hr hr'
          go_enter Tryd.func83, Tryd.ntmps83
          go_wp2_with fail
          refine Q1.out.mono ?_
          rintro e w1 ⟨rfl, hb1⟩
          have HB1 := Lib.hid hb1; clear hb1
          go_wp2_with fail
          refine (Q2.out _ HB1.out).mono ?_
          rintro e w2 ⟨rfl, hb2⟩
          have HB2 := Lib.hid (HB1.out.trans (hb2.mono HB1.out.size)); clear hb2
          go_wp2_with fail
          refine (Q3.out _ HB2.out).mono ?_
          rintro e w3 ⟨rfl, hb3⟩
          have HB3 := Lib.hid (HB2.out.trans (hb3.mono HB2.out.size)); clear hb3
          go_wp2_with fail
          refine (Q4.out _ HB3.out).mono ?_
          rintro e w4 ⟨rfl, hb4⟩
          have HB4 := Lib.hid (HB3.out.trans (hb4.mono HB3.out.size)); clear hb4
          go_wp2_with fail
          refine (QC.out _ HB4.out).mono ?_
          rintro e w9 ⟨M9, H9, A9, d9, rfl, hM9, ho9, hH9, hb9⟩
          have HR9 := Lib.hid (copy_ret HB4.out (show RetOwn _ (L.map Sg.abs) (.returned (.slice A9 M9.length d9)) w9 from ⟨M9, H9, A9, d9, rfl, hM9, ho9, hH9, hb9⟩))
          clear hM9 ho9 hH9 hb9
          go_wp2_with fail
          go_ret
          rw [HE.out]
          exact HR9.out
        | true =>
          rw [hr'] at Q4
          have QB := Lib.hid (fun W (hB : Below w.heap.size w W) => Begin3_any A c L d W (HS.out W hB) hr HDB.out)
          have HR2 := Lib.hid (And.intro (rightA_bounds hr) (rightA_bounds hr'))
          have HMG := Lib.hid (show mergeL (L.map Sg.abs) (N.map Sg.abs) = if rightA (begL (L.map Sg.abs) d ++ N.map Sg.abs) = true then begL (L.map Sg.abs) d ++ N.map Sg.abs else L.map Sg.abs by
            unfold mergeL
            rw [← HX.out, ← HY.out, ← HD.out, if_neg]
            intro e
            rcases e with e | e | e | e
            · exact HNLT.out e
            · exact HN0.out (by simpa using congrArg List.length e)
            · rw [← right_abs, hr] at e; cases e
            · rw [← right_abs, hr'] at e; cases e)
          clear hr hr'
          go_enter Tryd.func83, Tryd.ntmps83
          go_wp2_with fail
          refine Q1.out.mono ?_
          rintro e w1 ⟨rfl, hb1⟩
          have HB1 := Lib.hid hb1; clear hb1
          go_wp2_with fail
          refine (Q2.out _ HB1.out).mono ?_
          rintro e w2 ⟨rfl, hb2⟩
          have HB2 := Lib.hid (HB1.out.trans (hb2.mono HB1.out.size)); clear hb2
          go_wp2_with fail
          refine (Q3.out _ HB2.out).mono ?_
          rintro e w3 ⟨rfl, hb3⟩
          have HB3 := Lib.hid (HB2.out.trans (hb3.mono HB2.out.size)); clear hb3
          go_wp2_with fail
          refine (Q4.out _ HB3.out).mono ?_
          rintro e w4 ⟨rfl, hb4⟩
          have HB4 := Lib.hid (HB3.out.trans (hb4.mono HB3.out.size)); clear hb4
          go_wp2_with fail
          refine (QB.out _ HB4.out).mono ?_
          rintro e w5 ⟨M1, H1, A1, d1, rfl, hM1, ho1, hH1, hb5⟩
          have HB5 := Lib.hid (HB4.out.trans (hb5.mono HB4.out.size))
          have HO1 := Lib.hid ho1; have HM1 := Lib.hid hM1; have HB45 := Lib.hid hb5
          clear ho1 hM1 hH1 hb5
          go_wp2_with fail
          refine (QC'.out _ HB5.out).mono ?_
          rintro e w6 ⟨M2, H2, A2, d2, rfl, hM2, ho2, hH2, hb6⟩
          have HB6 := Lib.hid (HB5.out.trans (hb6.mono HB5.out.size))
          have HO2 := Lib.hid ho2; have HM2 := Lib.hid hM2
          have HO1' := Lib.hid (HO1.out.below hb6)
          have HB46 := Lib.hid (HB45.out.trans (hb6.mono HB45.out.size))
          have hl1 : M1.length ≤ 8 := by
            have e3 := congrArg List.length HM1.out
            rw [List.length_map] at e3
            have e4 := begL_len (L.map Sg.abs) d
            rw [List.length_map] at e4
            have := HR2.out.1.1
            omega
          have hl2 : M2.length ≤ 8 := by
            have e3 := congrArg List.length hM2
            rw [List.length_map, List.length_map] at e3
            have := HR2.out.2.1
            omega
          have ht1 : totN M1 ≤ 64 := by
            rw [tot_abs, HM1.out]
            have e4 := begL_tot (L.map Sg.abs) d
            rw [← tot_abs] at e4
            have := HR2.out.1.2
            omega
          have ht2 : totN M2 ≤ 64 := by
            rw [tot_abs, hM2, ← tot_abs]
            exact HR2.out.2.2
          have HT12 := Lib.hid (And.intro ht1 ht2)
          clear ho2 hM2 hH2 hb6 ht1 ht2
          go_wp2_with (at_builtin; refine wpList_app isSeg rfl (.tmp 33) (.tmp 35) rfl w4 _ M1.length (flatS M1) rfl HO1'.out.row A2 M2.length d2 (flatS M2) rfl (flat_len M2) (own_news HO2.out) (flat_one M2) (by omega) HB46.out ?_)
          intro v7 w7 hrow7 hg7 hb7
          have hrow : w7.ownsRow w4.heap.size 87 2 v7 (M1 ++ M2).length (flatS (M1 ++ M2)) := by rw [List.length_append, flat_app]; exact hrow7
          have hown7 : ∀ s ∈ M1 ++ M2, ∃ B', Own32 w7 B' s.sl s.nums := fun s hs => by
            rcases List.mem_append.1 hs with e | e
            · exact ⟨_, World.ownsRow.kept (HO1'.out.own s e) hg7 (own_types (HO1'.out.own s e) HO1'.out.row segNe)⟩
            · exact ⟨_, World.ownsRow.kept (HO2.out.own s e) hg7 (own_types (HO2.out.own s e) HO1'.out.row segNe)⟩
          have hfit7 : ∀ s ∈ M1 ++ M2, s.Fit := fun s hs => by
            rcases List.mem_append.1 hs with e | e
            · exact HO1'.out.fit s e
            · exact HO2.out.fit s e
          obtain ⟨A7, d7, rfl, g1, g2⟩ : ∃ A7 d7, v7 = .slice A7 (M1 ++ M2).length d7 ∧ (M1 ++ M2).length ≤ d7 ∧ d7 ≤ maxLen := by
            rcases hrow.2 with ⟨rfl, hn⟩ | ⟨g, cap, cur, rfl, hbg, hg, hnc, hcm, hcs, htake⟩
            · exact ⟨none, 0, by rw [hn], by omega, Nat.zero_le _⟩
            · exact ⟨_, cap, rfl, hnc, hcm⟩
          have hsg := segs_row hrow hown7 hfit7
          have hpt : PathT w7 (.slice A7 (M1 ++ M2).length d7) (M1 ++ M2) := ⟨⟨_, hrow⟩, hown7, hfit7⟩
          have hab : (M1 ++ M2).map Sg.abs = begL (L.map Sg.abs) d ++ N.map Sg.abs := by rw [List.map_append, HM1.out, HM2.out]
          have HB7 := Lib.hid (HB4.out.trans (hb7.mono HB4.out.size))
          have htM : totN (M1 ++ M2) ≤ 200 := by
            have := HT12.out
            unfold totN at this ⊢
            rw [List.map_append, List.sum_append]
            omega
          obtain ⟨M, hM⟩ : ∃ M, M = M1 ++ M2 := ⟨_, rfl⟩
          rw [← hM] at hsg hab g1 htM hpt ⊢
          have Q5 := Right_any A7 d7 M w7 hsg g1 g2 (by omega)
          rw [right_abs, hab] at Q5
          have Q5 := Lib.hid Q5
          have HSG := Lib.hid hpt; have HAB := Lib.hid hab
          clear hpt hrow hrow7 hg7 hb7 hown7 hfit7 hsg hab htM hM hl1 hl2
          cases hra : rightA (begL (L.map Sg.abs) d ++ N.map Sg.abs) with
          | true =>
            rw [hra] at Q5
            have HE := Lib.hid (show mergeL (L.map Sg.abs) (N.map Sg.abs) = begL (L.map Sg.abs) d ++ N.map Sg.abs by rw [HMG.out, hra, if_pos rfl])
            clear hra
            go_wp2_with fail
            refine Q5.out.mono ?_
            rintro e w8 ⟨rfl, hb8⟩
            go_wp2_with fail
            go_ret
            rw [HE.out]
            exact ⟨M, A7, d7, rfl, HAB.out, g1, g2, HSG.out.below hb8, HB7.out.trans (hb8.mono HB7.out.size)⟩
          | false =>
            rw [hra] at Q5
            have HE := Lib.hid (show mergeL (L.map Sg.abs) (N.map Sg.abs) = L.map Sg.abs by rw [HMG.out, hra, if_neg (by decide)])
            clear hra
            go_wp2_with fail
            refine Q5.out.mono ?_
            rintro e w8 ⟨rfl, hb8⟩
            have HB8 := Lib.hid (HB7.out.trans (hb8.mono HB7.out.size)); clear hb8
            go_wp2_with fail
            refine (QC.out _ HB8.out).mono ?_
            rintro e w9 ⟨M9, H9, A9, d9, rfl, hM9, ho9, hH9, hb9⟩
            have HR9 := Lib.hid (copy_ret HB8.out (show RetOwn _ (L.map Sg.abs) (.returned (.slice A9 M9.length d9)) w9 from ⟨M9, H9, A9, d9, rfl, hM9, ho9, hH9, hb9⟩))
            clear hM9 ho9 hH9 hb9
            go_wp2_with fail
            go_ret
            rw [HE.out]
            exact HR9.out
end Go.Proofs.YtkpbldhkoobnaaaDoor

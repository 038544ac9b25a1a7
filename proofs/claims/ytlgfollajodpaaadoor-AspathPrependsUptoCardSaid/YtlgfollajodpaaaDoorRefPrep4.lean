/-
  A path with a number ahead: the document's (written by gen03q.py).
-/
import Derived.Test.YtlgfollajodpaaaDoorPrep4
namespace Go.Proofs.YtlgfollajodpaaaDoor
set_option linter.unusedVariables false
set_option linter.unusedSimpArgs false
open Go.RowKit

theorem segs_news4 {w : World} {B : Nat} {A : Option Addr} {M : List Sg} (h : Segs w B A M) : M.length ≠ 0 → ∃ ad, A = some ad ∧ ∀ j u, (flatS M)[j]? = some u → w.cell? (ad.add j) = some u := by
  intro hn
  obtain ⟨b, off, rfl, _, hc⟩ := h (by intro e; rw [e] at hn; exact hn rfl)
  refine ⟨_, rfl, fun j u hu => ?_⟩
  have hj := (List.getElem?_eq_some_iff.1 hu).1
  rw [flat_len] at hj
  obtain ⟨s, hs⟩ : ∃ s, M[j / 2]? = some s := ⟨_, List.getElem?_eq_getElem (show j / 2 < M.length by omega)⟩
  have f := flat_at M (j / 2) s hs
  have c := hc (j / 2) s hs
  rw [Addr.add_lit]
  rcases (show j = j / 2 * 2 ∨ j = j / 2 * 2 + 1 by omega) with e | e
  · rw [e, f.1] at hu
    cases hu
    rw [e]
    exact c.1
  · rw [e, f.2] at hu
    cases hu
    rw [e, ← Nat.add_assoc]
    exact c.2.1
def RMergeRel (w : World) (L : List Sg) (d : Nat) (c v i : Value) (wr : World) : Prop :=
  Below w.heap.size w wr ∧ ∃ (M : List Sg) (H j n : Nat), j ≤ L.length ∧ i = .int .i64 (j : Int) ∧ c = .int .i64 (n : Int) ∧ n ≤ d ∧ OwnSegs wr w.heap.size H v M ∧ w.heap.size ≤ H ∧ H ≤ wr.heap.size ∧ M.length ≤ j ∧ Hid (M.map Sg.abs ++ begL ((L.drop j).map Sg.abs) n = begL (L.map Sg.abs) d)
def RMergeIn (W2 : World) (h : Nat) (K : Int) (nums : List Nat) (lim : Nat) (i : Value) (wr : World) : Prop :=
  Below h W2 wr ∧ ∃ (v : Value) (k : Nat), k ≤ lim ∧ i = .int .i64 (k : Int) ∧ Blk wr h 39 [.int .i64 K, v] ∧ Own32 wr (h + 1) v (nums.take k)

set_option maxHeartbeats 25600000 in
set_option maxRecDepth 100000 in
/-- A row of segments can be read, if each can. -/
theorem segs_of_ok {w : World} {B n c : Nat} {A : Option Addr} {M : List Sg} (row : w.ownsRow B 39 2 (.slice A n c) M.length (flatS M)) (ok : ∀ s ∈ M, Sg.Ok w w.heap.size s) : Segs w w.heap.size A M := by
  intro hl
  rcases row.2 with ⟨hv, hn⟩ | ⟨g, cap, cur, hv, hbg, hg, hnc, hcm, hcs, htake⟩
  · exact absurd (List.eq_nil_of_length_eq_zero hn) hl
  · have hA : A = some ⟨g, 0, none⟩ := by injection hv
    refine ⟨g, 0, hA, (Array.getElem?_eq_some_iff.1 hg).1, fun j s hj => ?_⟩
    have hc := World.ownsRow.cells row (g := g) (by subst hA; rfl)
    have f := flat_at M j s hj
    have c1 := hc (j * 2) _ f.1
    have c2 := hc (j * 2 + 1) _ f.2
    rw [Addr.add_lit] at c1 c2
    exact ⟨c1, c2, ok s (List.mem_of_getElem? hj)⟩
theorem own_ok {w : World} {B : Nat} {s : Sg} (h : Own32 w B s.sl s.nums) (hf : s.Fit) : Sg.Ok w w.heap.size s := by
  obtain ⟨A', c', hsl, g1, g2⟩ := h.form
  simp only [Sg.sl, Value.slice.injEq] at hsl
  obtain ⟨h1, h2, h3⟩ := hsl
  subst h1 h3
  exact ⟨g1, g2, Own32.at h, hf.1, hf.2⟩
theorem segs_ok {w : World} {B : Nat} {A : Option Addr} {M : List Sg} (h : Segs w B A M) : ∀ s ∈ M, Sg.Ok w B s := fun s hs => by
  obtain ⟨j, hj⟩ := List.getElem?_of_mem hs
  obtain ⟨_, _, _, _, _, _, hok⟩ := h.at hj
  exact hok
theorem flat_one4 (M : List Sg) : ∀ u ∈ flatS M, u.oneCell' = true := by
  intro u hu
  obtain ⟨s, _, hs⟩ := List.mem_flatMap.1 hu
  exact two_one s u hs

set_option maxHeartbeats 12800000 in
theorem RefPrepend_any (A : Option Addr) (c : Nat) (L : List Sg) (a : Nat) (w : World) (h : Segs w w.heap.size A L) (hc : L.length ≤ c) (hm : c ≤ maxLen) (ht : totN L ≤ 2000000) (ha : a < 4294967296) :
    Calls Tryd.prog 7 #[.slice A L.length c, .int .u32 (a : Int)] w (PrepPost w (L.map Sg.abs) a) := by
  have HS := Lib.hid (fun W (hB : Below w.heap.size w W) => (h.below hB (Nat.le_refl _)).lift hB.size)
  have QR := Lib.hid (RefRight_any A c L w h hc hm (by omega))
  have HRA := Lib.hid (right_abs L)
  have hcI : (c : Int) ≤ 9223372036854775807 := by unfold maxLen at hm; omega
  clear h
  cases hr : rightB L with
  | false =>
    have HP := Lib.hid (show rightA (L.map Sg.abs) = false by rw [← HRA.out]; exact hr)
    rw [hr] at QR
    clear hr
    go_enter Tryd.func7, Tryd.ntmps7
    go_wp2_with fail
    refine QR.out.mono ?_
    rintro e w1 ⟨rfl, rfl⟩
    go_wp2_with fail
    exact bodyPost_ret (v := .tuple #[.slice none 0 0, .int .i64 1]) (by simp [results, Tryd.results7, go_sem]) rfl (prep_wrong HP.out (Below.refl _ _))
  | true =>
    have HP := Lib.hid (show rightA (L.map Sg.abs) = true by rw [← HRA.out]; exact hr)
    obtain ⟨hL8, hT64, hpos⟩ := right_parts hr
    rw [hr] at QR
    clear hr hpos
    have hbA := (Below.refl w.heap.size w).alloc (Nat.le_refl _) (.cells #[.int .u32 (a : Int)] 23)
    have hbB := hbA.alloc hbA.size (.cells #[.int .i64 2, .slice (some ⟨w.heap.size, 0, none⟩) 1 1] 39)
    have eB : (w.alloc (.cells #[.int .u32 (a : Int)] 23)).heap.size = w.heap.size + 1 := by simp
    have kB := Blk.new (w.alloc (.cells #[.int .u32 (a : Int)] 23)) 39 [.int .i64 2, .slice (some ⟨w.heap.size, 0, none⟩) 1 1]
    rw [eB] at kB
    have HOA := Lib.hid ((own_lit w a).alloc (.cells #[.int .i64 2, .slice (some ⟨w.heap.size, 0, none⟩) 1 1] 39))
    have HBB := Lib.hid hbB
    have HKB := Lib.hid kB
    have HT64 := Lib.hid hT64
    have HL8 := Lib.hid hL8
    clear hbA hbB eB kB
    cases L with
    | nil =>
      simp only [List.length_nil] at QR hc ⊢
      go_enter Tryd.func7, Tryd.ntmps7
      go_wp2_with fail
      refine QR.out.mono ?_
      rintro e w1 ⟨rfl, rfl⟩
      have HO5 := Lib.hid (show Own32 _ w.heap.size (Sg.sl (⟨2, some ⟨w.heap.size, 0, none⟩, 1, [a]⟩ : Sg)) (Sg.nums (⟨2, some ⟨w.heap.size, 0, none⟩, 1, [a]⟩ : Sg)) from HOA.out)
      have HFIT := Lib.hid (show Sg.Fit (⟨2, some ⟨w.heap.size, 0, none⟩, 1, [a]⟩ : Sg) from fit_one _ ha)
      have HBC := Lib.hid (HBB.out)
      have HPA := Lib.hid (show ((⟨2, some ⟨w.heap.size, 0, none⟩, 1, [a]⟩ : Sg) :: ([] : List Sg)).map Sg.abs = prepA (([] : List Sg).map Sg.abs) a from prep_other _ a _ rfl (fun s hs => by simp at hs))
      go_wp2_with (at_builtin; go_loud (refine wpList_app_one isSeg rfl (.tmp 36) (.tmp 38) rfl w _ 0 [] rfl (((w.alloc (.cells #[.int .u32 (a : Int)] 23)).alloc (.cells #[.int .i64 2, .slice (some ⟨w.heap.size, 0, none⟩) 1 1] 39))) (Sg.two (⟨2, some ⟨w.heap.size, 0, none⟩, 1, [a]⟩ : Sg)) rfl (World.ownsRow_nil _ _ _ _) (by change Value.slice (some ⟨w.heap.size + 1 + 1, 0, none⟩) 1 1 = _; simp) rfl (two_one _) (by decide) HBC.out ?_))
      intro v5 w5 hown5 hg5 hb5
      have HOF5 := Lib.hid (show Own32 w5 w.heap.size (Sg.sl (⟨2, some ⟨w.heap.size, 0, none⟩, 1, [a]⟩ : Sg)) (Sg.nums (⟨2, some ⟨w.heap.size, 0, none⟩, 1, [a]⟩ : Sg)) from World.ownsRow.kept HO5.out hg5 (by cases (Sg.sl (⟨2, some ⟨w.heap.size, 0, none⟩, 1, [a]⟩ : Sg)).ownBlock <;> simp [Value.ownBlock]))
      have HB5 := Lib.hid hb5
      obtain ⟨A5, c5, rfl⟩ : ∃ A5 c5, v5 = .slice A5 1 c5 := by
        rcases hown5.2 with ⟨_, hn⟩ | ⟨g, cap, cur, rfl, _⟩
        · omega
        · exact ⟨_, cap, rfl⟩
      have H5 := Lib.hid (show w5.ownsRow w.heap.size 39 2 (.slice A5 1 c5) 1 (Sg.two (⟨2, some ⟨w.heap.size, 0, none⟩, 1, [a]⟩ : Sg)) from by simpa using hown5)
      have HN5 := Lib.hid (segs_news4 (HS.out w5 hb5))
      have HSZ := Lib.hid (show (1 + (([] : List Sg)).length) * 32 ≤ 140737488355328 by decide)
      clear hown5 hg5 hb5
      go_wp2_with (at_builtin; refine wpList_app isSeg rfl (.tmp 40) (.tmp 41) rfl w _ 1 (Sg.two (⟨2, some ⟨w.heap.size, 0, none⟩, 1, [a]⟩ : Sg)) rfl H5.out (A) 0 (c) (flatS (([] : List Sg))) rfl (by first | (rw [flat_len]; done) | (rw [flat_len]; simp; done) | (simp [flat_len]; done)) HN5.out (flat_one4 _) (by first | exact HSZ.out | simpa using HSZ.out) HB5.out ?_)
      intro v6 w6 hown6 hg6 hb6
      obtain ⟨A6, c6, rfl, f1', f2'⟩ : ∃ A6 c6, v6 = .slice A6 (1 + 0) c6 ∧ 1 + 0 ≤ c6 ∧ c6 ≤ maxLen := by
        rcases hown6.2 with ⟨_, hn⟩ | ⟨g, cap, cur, rfl, _, _, hnc, hcm, _⟩
        · omega
        · exact ⟨_, cap, rfl, hnc, hcm⟩
      have hrow6 : w6.ownsRow w.heap.size 39 2 (.slice A6 (1 + 0) c6) ((⟨2, some ⟨w.heap.size, 0, none⟩, 1, [a]⟩ : Sg) :: ([] : List Sg)).length (flatS ((⟨2, some ⟨w.heap.size, 0, none⟩, 1, [a]⟩ : Sg) :: ([] : List Sg))) := by
        rw [flat_cons]
        have e : ((⟨2, some ⟨w.heap.size, 0, none⟩, 1, [a]⟩ : Sg) :: ([] : List Sg)).length = 1 + 0 := by simp only [List.length_cons, List.length_nil] <;> omega
        rw [e]
        exact hown6
      have hof6 : Own32 w6 w.heap.size (Sg.sl (⟨2, some ⟨w.heap.size, 0, none⟩, 1, [a]⟩ : Sg)) (Sg.nums (⟨2, some ⟨w.heap.size, 0, none⟩, 1, [a]⟩ : Sg)) := World.ownsRow.kept HOF5.out hg6 (own_types HOF5.out H5.out segNe)
      have hsg := segs_of_ok hrow6 (fun s hs => by
        rcases List.mem_cons.1 hs with rfl | hs
        · exact own_ok hof6 HFIT.out
        · exact segs_ok (HS.out w6 hb6) s hs)
      have e1 : 1 + 0 = ((⟨2, some ⟨w.heap.size, 0, none⟩, 1, [a]⟩ : Sg) :: ([] : List Sg)).length := by simp only [List.length_cons, List.length_nil] <;> omega
      have q1 : ((⟨2, some ⟨w.heap.size, 0, none⟩, 1, [a]⟩ : Sg) :: ([] : List Sg)).length ≤ c6 := by rw [← e1]; exact f1'
      have QR2 := Lib.hid (RefRight_any A6 c6 ((⟨2, some ⟨w.heap.size, 0, none⟩, 1, [a]⟩ : Sg) :: ([] : List Sg)) w6 hsg q1 f2' (by have h64 := HT64.out; simp only [totN_cons, List.length_cons, List.length_nil] at h64 ⊢; first | omega | (simp [totN] at h64 ⊢; done) | (simp [totN] at h64 ⊢; omega)))
      rw [← e1] at QR2
      have HSG := Lib.hid hsg; have HB6 := Lib.hid hb6; have Q1 := Lib.hid q1; have Q2 := Lib.hid f2'; have E1 := Lib.hid e1
      clear hown6 hg6 hb6 hrow6 hof6 hsg q1 f1' f2' e1
      obtain ⟨R, hR⟩ : ∃ R, R = rightB ((⟨2, some ⟨w.heap.size, 0, none⟩, 1, [a]⟩ : Sg) :: ([] : List Sg)) := ⟨_, rfl⟩
      rw [← hR] at QR2
      have HR := Lib.hid hR
      clear hR
      cases R with
      | false =>
        go_wp2_with fail
        refine QR2.out.mono ?_
        rintro e w7 ⟨rfl, rfl⟩
        go_wp2_with fail
        exact bodyPost_ret (v := .tuple #[.slice none 0 0, .int .i64 6]) (by simp [results, Tryd.results7, go_sem]) rfl (prep_full HP.out HPA.out HR.out.symm HB6.out)
      | true =>
        go_wp2_with fail
        refine QR2.out.mono ?_
        rintro e w7 ⟨rfl, rfl⟩
        go_wp2_with fail
        exact bodyPost_ret (v := .tuple #[.slice A6 (1 + 0) c6, .int .i64 0]) (by simp [results, Tryd.results7, go_sem]) rfl (by rw [E1.out]; exact prep_post (M := (⟨2, some ⟨w.heap.size, 0, none⟩, 1, [a]⟩ : Sg) :: ([] : List Sg)) HP.out HPA.out HR.out.symm Q1.out Q2.out HSG.out HB6.out)
    | cons s L' =>
      obtain ⟨b, off, rfl, hb, k0, k1, hok⟩ := (HS.out w (Below.refl _ _)).at (j := 0) rfl
      simp only [Nat.zero_mul, Nat.add_zero] at k0 k1
      have hpl : (0 : Int) < ((s :: L').length : Int) := by simp only [List.length_cons]; omega
      simp only [List.length_cons] at QR hc hL8 hpl ⊢
      have K0 := Lib.hid (fun W (hB : Below w.heap.size w W) => (hB.cell (p := ⟨b, off, none⟩) hb).trans k0)
      have K1 := Lib.hid (fun W (hB : Below w.heap.size w W) => (hB.cell (p := ⟨b, off + 1, none⟩) hb).trans k1)
      have d0 := K0.out _ HBB.out
      have hbl : ¬ b = w.heap.size := by omega
      have hbl2 : ¬ b = w.heap.size + 1 := by omega
      by_cases hk2 : s.kind = 2
      · have hkb : (s.kind == 2) = true := by simpa using hk2
        rw [hk2] at k0
        have K0' := Lib.hid (fun W (hB : Below w.heap.size w W) => (hB.cell (p := ⟨b, off, none⟩) hb).trans k0)
        have d0' := K0'.out _ HBB.out
        have hbd := HBB.out.drew
        have d1 := K1.out _ hbd
        have kd := (HKB.out.drewN 1)
        have n0 : (((w.alloc (.cells #[.int .u32 (a : Int)] 23)).alloc (.cells #[.int .i64 2, .slice (some ⟨w.heap.size, 0, none⟩) 1 1] 39))).drew.cell? ⟨w.heap.size + 1, 0, none⟩ = some (.int .i64 2) := HKB.out.cell 0
        have n1 : (((w.alloc (.cells #[.int .u32 (a : Int)] 23)).alloc (.cells #[.int .i64 2, .slice (some ⟨w.heap.size, 0, none⟩) 1 1] 39))).drew.cell? ⟨w.heap.size + 1, 1, none⟩ = some (.slice (some ⟨w.heap.size, 0, none⟩) 1 1) := HKB.out.cell 1
        have HOW := Lib.hid (show Own32 (((w.alloc (.cells #[.int .u32 (a : Int)] 23)).alloc (.cells #[.int .i64 2, .slice (some ⟨w.heap.size, 0, none⟩) 1 1] 39))).drew w.heap.size (.slice (some ⟨w.heap.size, 0, none⟩) 1 1) [a] from World.ownsRow.drew HOA.out)
        have HAT := Lib.hid (show At32 (((w.alloc (.cells #[.int .u32 (a : Int)] 23)).alloc (.cells #[.int .i64 2, .slice (some ⟨w.heap.size, 0, none⟩) 1 1] 39))).drew (((w.alloc (.cells #[.int .u32 (a : Int)] 23)).alloc (.cells #[.int .i64 2, .slice (some ⟨w.heap.size, 0, none⟩) 1 1] 39))).drew.heap.size s.adr s.nums from (hok.2.2.1.below hbd (Nat.le_refl _)).lift hbd.size)
        have HSZ1 := Lib.hid (show [a].length + s.nums.length ≤ 100000000000 by have := HT64.out; rw [totN_cons] at this; simp only [List.length_cons, List.length_nil]; omega)
        have HHB := Lib.hid (show w.heap.size ≤ (((w.alloc (.cells #[.int .u32 (a : Int)] 23)).alloc (.cells #[.int .i64 2, .slice (some ⟨w.heap.size, 0, none⟩) 1 1] 39))).drew.heap.size from hbd.size)
        have HSF := Lib.hid hok.2.2.2.1
        have HK := Lib.hid hk2
        have HBD := Lib.hid hbd
        have HKD := Lib.hid (show Blk (((w.alloc (.cells #[.int .u32 (a : Int)] 23)).alloc (.cells #[.int .i64 2, .slice (some ⟨w.heap.size, 0, none⟩) 1 1] 39))).drew (w.heap.size + 1) 39 [.int .i64 2, .slice (some ⟨w.heap.size, 0, none⟩) 1 1] from HKB.out)
        have hc1 : (1 : Int) ≤ (L'.length : Int) + 1 := by omega
        have hle8 : (L'.length : Int) + 1 ≤ (c : Int) := by omega
        clear k0 k1 hok d0 kd hbd
        go_enter Tryd.func7, Tryd.ntmps7
        go_wp2_with fail
        refine QR.out.mono ?_
        rintro e w1 ⟨rfl, rfl⟩
        go_wp2_with fail
        go_region_law ((refine step_app32 (by rfl) (.tmp 27) (.tmp 31) (by rfl) w.heap.size (.slice (some ⟨w.heap.size, 0, none⟩) 1 1) [a] (by rfl) HOW.out s.adr s.nums.length s.cap _ s.nums (by rfl) rfl HAT.out HSZ1.out HHB.out ?_; intro v3 w3 ho3 hg3; obtain ⟨A3, c3, rfl, q1, q2⟩ := ho3.form; have k3 := (grown_keeps (g := w.heap.size + 1) (i := 1) hg3 HKD.out.lt (by simp [Value.ownBlock])).1.trans n1; have f3 := (grown_keeps (g := w.heap.size + 1) (i := 1) hg3 HKD.out.lt (by simp [Value.ownBlock])).2.trans (HKD.out.free 1); have HO3 := Lib.hid ho3; have HG3 := Lib.hid hg3; clear ho3 hg3))
        all_goals (
          have hb4 := (HBD.out.grown HG3.out HBD.out.size (fun k hk => by have e : w.heap.size = k := by simpa [Value.ownBlock] using hk
                                                                          omega)).setCell (p := ⟨w.heap.size + 1, 1, none⟩) (by show w.heap.size ≤ w.heap.size + 1; omega) (.slice A3 ([a] ++ s.nums).length c3)
          obtain ⟨w4, hw4⟩ : ∃ x, x = w3.setCell ⟨w.heap.size + 1, 1, none⟩ (.slice A3 (s.nums.length + 1) c3) := ⟨_, rfl⟩
          have e0 : ([a] ++ s.nums).length = s.nums.length + 1 := by simp
          rw [e0] at hb4 q1
          have ho3 : Own32 w3 w.heap.size (.slice A3 (s.nums.length + 1) c3) (a :: s.nums) := by have := HO3.out; rw [e0] at this; exact this
          have kb3 := HKD.out.grown HG3.out (g' := w.heap.size) (by omega)
          have ho4 : Own32 w4 w.heap.size (.slice A3 (s.nums.length + 1) c3) (a :: s.nums) := by
            rw [hw4]
            refine World.ownsRow.kept ho3 (grown_setCell (grown_refl _ _) _ _) ?_
            rcases ho3.2 with ⟨hv, hn⟩ | ⟨g, cap, cur, hv, _, hgg, _⟩
            · left; rw [hv]; rfl
            · right
              rw [hv]
              intro e
              have e1 : g = w.heap.size + 1 := by simpa [Value.ownBlock] using e
              rw [e1, kb3] at hgg
              injection hgg with hgg
              injection hgg with _ h2 _
              exact segNe h2.symm
          have kb4 := kb3.set 1 (.slice A3 (s.nums.length + 1) c3)
          rw [← hw4] at kb4 hb4
          have m0 : w4.cell? ⟨w.heap.size + 1, 0, none⟩ = some (.int .i64 2) := kb4.cell 0
          have m1 : w4.cell? ⟨w.heap.size + 1, 1, none⟩ = some (.slice A3 (s.nums.length + 1) c3) := kb4.cell 1
          rw [← hw4]
          have HB4 := Lib.hid hb4; have HO4 := Lib.hid ho4
          clear kb3 kb4 hw4 ho3 ho4 hb4 k3 f3 e0 q1 q2 n0 n1 d1 HO3 HG3
          by_cases hcc : c = 1
          · obtain rfl : L' = [] := List.eq_nil_of_length_eq_zero (by omega)
            subst hcc
            simp only [List.length_nil] at hc hL8 hpl hle8 hc1 QR ⊢
            have HO5 := Lib.hid (show Own32 w4 w.heap.size (Sg.sl (⟨2, A3, c3, a :: s.nums⟩ : Sg)) (Sg.nums (⟨2, A3, c3, a :: s.nums⟩ : Sg)) from HO4.out)
            have HFIT := Lib.hid (show Sg.Fit (⟨2, A3, c3, a :: s.nums⟩ : Sg) from ⟨fun x hx => (List.mem_cons.1 hx).elim (fun e => by rw [e]; exact ha) (HSF.out x), by show (-9223372036854775808 : Int) ≤ 2; omega, by show (2 : Int) ≤ 9223372036854775807; omega⟩)
            have HBC := Lib.hid (HB4.out)
            have HPA := Lib.hid (show ((⟨2, A3, c3, a :: s.nums⟩ : Sg) :: ([] : List Sg)).map Sg.abs = prepA ((s :: ([] : List Sg)).map Sg.abs) a by have := prep_head s ([] : List Sg) a c3 A3 HK.out; rw [HK.out] at this; exact this)
            go_wp2_with (at_builtin; go_loud (refine wpList_app_one isSeg rfl (.tmp 36) (.tmp 38) rfl w _ 0 [] rfl (w4) (Sg.two (⟨2, A3, c3, a :: s.nums⟩ : Sg)) rfl (World.ownsRow_nil _ _ _ _) (by first | rfl | (change Value.slice (some ⟨w4.heap.size, 0, none⟩) 1 1 = _; rfl)) rfl (two_one _) (by decide) HBC.out ?_))
            intro v5 w5 hown5 hg5 hb5
            have HOF5 := Lib.hid (show Own32 w5 w.heap.size (Sg.sl (⟨2, A3, c3, a :: s.nums⟩ : Sg)) (Sg.nums (⟨2, A3, c3, a :: s.nums⟩ : Sg)) from World.ownsRow.kept HO5.out hg5 (by cases (Sg.sl (⟨2, A3, c3, a :: s.nums⟩ : Sg)).ownBlock <;> simp [Value.ownBlock]))
            have HB5 := Lib.hid hb5
            obtain ⟨A5, c5, rfl⟩ : ∃ A5 c5, v5 = .slice A5 1 c5 := by
              rcases hown5.2 with ⟨_, hn⟩ | ⟨g, cap, cur, rfl, _⟩
              · omega
              · exact ⟨_, cap, rfl⟩
            have H5 := Lib.hid (show w5.ownsRow w.heap.size 39 2 (.slice A5 1 c5) 1 (Sg.two (⟨2, A3, c3, a :: s.nums⟩ : Sg)) from by simpa using hown5)
            have HN5 := Lib.hid (segs_news4 ((fun W _ => Segs.nil W W.heap.size (some ⟨b, off, none⟩)) w5 hb5))
            have HSZ := Lib.hid (show (1 + (([] : List Sg)).length) * 32 ≤ 140737488355328 by decide)
            clear hown5 hg5 hb5
            go_wp2_with (at_builtin; refine wpList_app isSeg rfl (.tmp 40) (.tmp 41) rfl w _ 1 (Sg.two (⟨2, A3, c3, a :: s.nums⟩ : Sg)) rfl H5.out (some ⟨b, off, none⟩) 0 (0) (flatS (([] : List Sg))) rfl (by first | (rw [flat_len]; done) | (rw [flat_len]; simp; done) | (simp [flat_len]; done)) HN5.out (flat_one4 _) (by first | exact HSZ.out | simpa using HSZ.out) HB5.out ?_)
            intro v6 w6 hown6 hg6 hb6
            obtain ⟨A6, c6, rfl, f1', f2'⟩ : ∃ A6 c6, v6 = .slice A6 (1 + 0) c6 ∧ 1 + 0 ≤ c6 ∧ c6 ≤ maxLen := by
              rcases hown6.2 with ⟨_, hn⟩ | ⟨g, cap, cur, rfl, _, _, hnc, hcm, _⟩
              · omega
              · exact ⟨_, cap, rfl, hnc, hcm⟩
            have hrow6 : w6.ownsRow w.heap.size 39 2 (.slice A6 (1 + 0) c6) ((⟨2, A3, c3, a :: s.nums⟩ : Sg) :: ([] : List Sg)).length (flatS ((⟨2, A3, c3, a :: s.nums⟩ : Sg) :: ([] : List Sg))) := by
              rw [flat_cons]
              have e : ((⟨2, A3, c3, a :: s.nums⟩ : Sg) :: ([] : List Sg)).length = 1 + 0 := by simp only [List.length_cons, List.length_nil] <;> omega
              rw [e]
              exact hown6
            have hof6 : Own32 w6 w.heap.size (Sg.sl (⟨2, A3, c3, a :: s.nums⟩ : Sg)) (Sg.nums (⟨2, A3, c3, a :: s.nums⟩ : Sg)) := World.ownsRow.kept HOF5.out hg6 (own_types HOF5.out H5.out segNe)
            have hsg := segs_of_ok hrow6 (fun s hs => by
              rcases List.mem_cons.1 hs with rfl | hs
              · exact own_ok hof6 HFIT.out
              · exact segs_ok ((fun W _ => Segs.nil W W.heap.size (some ⟨b, off, none⟩)) w6 hb6) s hs)
            have e1 : 1 + 0 = ((⟨2, A3, c3, a :: s.nums⟩ : Sg) :: ([] : List Sg)).length := by simp only [List.length_cons, List.length_nil] <;> omega
            have q1 : ((⟨2, A3, c3, a :: s.nums⟩ : Sg) :: ([] : List Sg)).length ≤ c6 := by rw [← e1]; exact f1'
            have QR2 := Lib.hid (RefRight_any A6 c6 ((⟨2, A3, c3, a :: s.nums⟩ : Sg) :: ([] : List Sg)) w6 hsg q1 f2' (by have h64 := HT64.out; simp only [totN_cons, List.length_cons, List.length_nil] at h64 ⊢; first | omega | (simp [totN] at h64 ⊢; done) | (simp [totN] at h64 ⊢; omega)))
            rw [← e1] at QR2
            have HSG := Lib.hid hsg; have HB6 := Lib.hid hb6; have Q1 := Lib.hid q1; have Q2 := Lib.hid f2'; have E1 := Lib.hid e1
            clear hown6 hg6 hb6 hrow6 hof6 hsg q1 f1' f2' e1
            obtain ⟨R, hR⟩ : ∃ R, R = rightB ((⟨2, A3, c3, a :: s.nums⟩ : Sg) :: ([] : List Sg)) := ⟨_, rfl⟩
            rw [← hR] at QR2
            have HR := Lib.hid hR
            clear hR
            cases R with
            | false =>
              go_wp2_with fail
              refine QR2.out.mono ?_
              rintro e w7 ⟨rfl, rfl⟩
              go_wp2_with fail
              exact bodyPost_ret (v := .tuple #[.slice none 0 0, .int .i64 6]) (by simp [results, Tryd.results7, go_sem]) rfl (prep_full HP.out HPA.out HR.out.symm HB6.out)
            | true =>
              go_wp2_with fail
              refine QR2.out.mono ?_
              rintro e w7 ⟨rfl, rfl⟩
              go_wp2_with fail
              exact bodyPost_ret (v := .tuple #[.slice A6 (1 + 0) c6, .int .i64 0]) (by simp [results, Tryd.results7, go_sem]) rfl (by rw [E1.out]; exact prep_post (M := (⟨2, A3, c3, a :: s.nums⟩ : Sg) :: ([] : List Sg)) HP.out HPA.out HR.out.symm Q1.out Q2.out HSG.out HB6.out)
          · have hST := Lib.hid (fun W (hB : Below w.heap.size w W) => (show Segs W W.heap.size (some ⟨b, off + 2, none⟩) L' from by
              have h1 := Segs.tail (c := c) (HS.out W hB) (by simpa using hc)
              rw [if_neg (by omega)] at h1
              simpa [Addr.add_lit] using h1))
            have HO5 := Lib.hid (show Own32 w4 w.heap.size (Sg.sl (⟨2, A3, c3, a :: s.nums⟩ : Sg)) (Sg.nums (⟨2, A3, c3, a :: s.nums⟩ : Sg)) from HO4.out)
            have HFIT := Lib.hid (show Sg.Fit (⟨2, A3, c3, a :: s.nums⟩ : Sg) from ⟨fun x hx => (List.mem_cons.1 hx).elim (fun e => by rw [e]; exact ha) (HSF.out x), by show (-9223372036854775808 : Int) ≤ 2; omega, by show (2 : Int) ≤ 9223372036854775807; omega⟩)
            have HBC := Lib.hid (HB4.out)
            have HPA := Lib.hid (show ((⟨2, A3, c3, a :: s.nums⟩ : Sg) :: L').map Sg.abs = prepA ((s :: L').map Sg.abs) a by have := prep_head s L' a c3 A3 HK.out; rw [HK.out] at this; exact this)
            go_wp2_with (at_builtin; go_loud (refine wpList_app_one isSeg rfl (.tmp 36) (.tmp 38) rfl w _ 0 [] rfl (w4) (Sg.two (⟨2, A3, c3, a :: s.nums⟩ : Sg)) rfl (World.ownsRow_nil _ _ _ _) (by first | rfl | (change Value.slice (some ⟨w4.heap.size, 0, none⟩) 1 1 = _; rfl)) rfl (two_one _) (by decide) HBC.out ?_))
            intro v5 w5 hown5 hg5 hb5
            have HOF5 := Lib.hid (show Own32 w5 w.heap.size (Sg.sl (⟨2, A3, c3, a :: s.nums⟩ : Sg)) (Sg.nums (⟨2, A3, c3, a :: s.nums⟩ : Sg)) from World.ownsRow.kept HO5.out hg5 (by cases (Sg.sl (⟨2, A3, c3, a :: s.nums⟩ : Sg)).ownBlock <;> simp [Value.ownBlock]))
            have HB5 := Lib.hid hb5
            obtain ⟨A5, c5, rfl⟩ : ∃ A5 c5, v5 = .slice A5 1 c5 := by
              rcases hown5.2 with ⟨_, hn⟩ | ⟨g, cap, cur, rfl, _⟩
              · omega
              · exact ⟨_, cap, rfl⟩
            have H5 := Lib.hid (show w5.ownsRow w.heap.size 39 2 (.slice A5 1 c5) 1 (Sg.two (⟨2, A3, c3, a :: s.nums⟩ : Sg)) from by simpa using hown5)
            have HN5 := Lib.hid (segs_news4 (hST.out w5 hb5))
            have HSZ := Lib.hid (show (1 + (L').length) * 32 ≤ 140737488355328 by have := HL8.out; simp only [List.length_cons] at this ⊢; omega)
            clear hown5 hg5 hb5
            go_wp2_with (at_builtin; refine wpList_app isSeg rfl (.tmp 40) (.tmp 41) rfl w _ 1 (Sg.two (⟨2, A3, c3, a :: s.nums⟩ : Sg)) rfl H5.out (some ⟨b, off + 2, none⟩) L'.length (c - 1) (flatS (L')) rfl (by first | (rw [flat_len]; done) | (rw [flat_len]; simp; done) | (simp [flat_len]; done)) HN5.out (flat_one4 _) (by first | exact HSZ.out | simpa using HSZ.out) HB5.out ?_)
            intro v6 w6 hown6 hg6 hb6
            obtain ⟨A6, c6, rfl, f1', f2'⟩ : ∃ A6 c6, v6 = .slice A6 (1 + L'.length) c6 ∧ 1 + L'.length ≤ c6 ∧ c6 ≤ maxLen := by
              rcases hown6.2 with ⟨_, hn⟩ | ⟨g, cap, cur, rfl, _, _, hnc, hcm, _⟩
              · omega
              · exact ⟨_, cap, rfl, hnc, hcm⟩
            have hrow6 : w6.ownsRow w.heap.size 39 2 (.slice A6 (1 + L'.length) c6) ((⟨2, A3, c3, a :: s.nums⟩ : Sg) :: L').length (flatS ((⟨2, A3, c3, a :: s.nums⟩ : Sg) :: L')) := by
              rw [flat_cons]
              have e : ((⟨2, A3, c3, a :: s.nums⟩ : Sg) :: L').length = 1 + L'.length := by simp only [List.length_cons, List.length_nil] <;> omega
              rw [e]
              exact hown6
            have hof6 : Own32 w6 w.heap.size (Sg.sl (⟨2, A3, c3, a :: s.nums⟩ : Sg)) (Sg.nums (⟨2, A3, c3, a :: s.nums⟩ : Sg)) := World.ownsRow.kept HOF5.out hg6 (own_types HOF5.out H5.out segNe)
            have hsg := segs_of_ok hrow6 (fun s hs => by
              rcases List.mem_cons.1 hs with rfl | hs
              · exact own_ok hof6 HFIT.out
              · exact segs_ok (hST.out w6 hb6) s hs)
            have e1 : 1 + L'.length = ((⟨2, A3, c3, a :: s.nums⟩ : Sg) :: L').length := by simp only [List.length_cons, List.length_nil] <;> omega
            have q1 : ((⟨2, A3, c3, a :: s.nums⟩ : Sg) :: L').length ≤ c6 := by rw [← e1]; exact f1'
            have QR2 := Lib.hid (RefRight_any A6 c6 ((⟨2, A3, c3, a :: s.nums⟩ : Sg) :: L') w6 hsg q1 f2' (by have h64 := HT64.out; simp only [totN_cons, List.length_cons, List.length_nil] at h64 ⊢; first | omega | (simp [totN] at h64 ⊢; done) | (simp [totN] at h64 ⊢; omega)))
            rw [← e1] at QR2
            have HSG := Lib.hid hsg; have HB6 := Lib.hid hb6; have Q1 := Lib.hid q1; have Q2 := Lib.hid f2'; have E1 := Lib.hid e1
            clear hown6 hg6 hb6 hrow6 hof6 hsg q1 f1' f2' e1
            obtain ⟨R, hR⟩ : ∃ R, R = rightB ((⟨2, A3, c3, a :: s.nums⟩ : Sg) :: L') := ⟨_, rfl⟩
            rw [← hR] at QR2
            have HR := Lib.hid hR
            clear hR
            cases R with
            | false =>
              go_wp2_with fail
              refine QR2.out.mono ?_
              rintro e w7 ⟨rfl, rfl⟩
              go_wp2_with fail
              exact bodyPost_ret (v := .tuple #[.slice none 0 0, .int .i64 6]) (by simp [results, Tryd.results7, go_sem]) rfl (prep_full HP.out HPA.out HR.out.symm HB6.out)
            | true =>
              go_wp2_with fail
              refine QR2.out.mono ?_
              rintro e w7 ⟨rfl, rfl⟩
              go_wp2_with fail
              exact bodyPost_ret (v := .tuple #[.slice A6 (1 + L'.length) c6, .int .i64 0]) (by simp [results, Tryd.results7, go_sem]) rfl (by rw [E1.out]; exact prep_post (M := (⟨2, A3, c3, a :: s.nums⟩ : Sg) :: L') HP.out HPA.out HR.out.symm Q1.out Q2.out HSG.out HB6.out)
          )
      · have hkb : (s.kind == 2) = false := by simpa using hk2
        have HK := Lib.hid hk2
        clear k0 k1 hk2 hok
        go_enter Tryd.func7, Tryd.ntmps7
        go_wp2_with fail
        refine QR.out.mono ?_
        rintro e w1 ⟨rfl, rfl⟩
        have HO5 := Lib.hid (show Own32 _ w.heap.size (Sg.sl (⟨2, some ⟨w.heap.size, 0, none⟩, 1, [a]⟩ : Sg)) (Sg.nums (⟨2, some ⟨w.heap.size, 0, none⟩, 1, [a]⟩ : Sg)) from HOA.out)
        have HFIT := Lib.hid (show Sg.Fit (⟨2, some ⟨w.heap.size, 0, none⟩, 1, [a]⟩ : Sg) from fit_one _ ha)
        have HBC := Lib.hid (HBB.out)
        have HPA := Lib.hid (show ((⟨2, some ⟨w.heap.size, 0, none⟩, 1, [a]⟩ : Sg) :: (s :: L')).map Sg.abs = prepA ((s :: L').map Sg.abs) a from prep_other _ a _ rfl (fun x hx => by rw [← (show s = x by simpa using hx)]; exact HK.out))
        go_wp2_with (at_builtin; go_loud (refine wpList_app_one isSeg rfl (.tmp 36) (.tmp 38) rfl w _ 0 [] rfl (((w.alloc (.cells #[.int .u32 (a : Int)] 23)).alloc (.cells #[.int .i64 2, .slice (some ⟨w.heap.size, 0, none⟩) 1 1] 39))) (Sg.two (⟨2, some ⟨w.heap.size, 0, none⟩, 1, [a]⟩ : Sg)) rfl (World.ownsRow_nil _ _ _ _) (by change Value.slice (some ⟨w.heap.size + 1 + 1, 0, none⟩) 1 1 = _; simp) rfl (two_one _) (by decide) HBC.out ?_))
        intro v5 w5 hown5 hg5 hb5
        have HOF5 := Lib.hid (show Own32 w5 w.heap.size (Sg.sl (⟨2, some ⟨w.heap.size, 0, none⟩, 1, [a]⟩ : Sg)) (Sg.nums (⟨2, some ⟨w.heap.size, 0, none⟩, 1, [a]⟩ : Sg)) from World.ownsRow.kept HO5.out hg5 (by cases (Sg.sl (⟨2, some ⟨w.heap.size, 0, none⟩, 1, [a]⟩ : Sg)).ownBlock <;> simp [Value.ownBlock]))
        have HB5 := Lib.hid hb5
        obtain ⟨A5, c5, rfl⟩ : ∃ A5 c5, v5 = .slice A5 1 c5 := by
          rcases hown5.2 with ⟨_, hn⟩ | ⟨g, cap, cur, rfl, _⟩
          · omega
          · exact ⟨_, cap, rfl⟩
        have H5 := Lib.hid (show w5.ownsRow w.heap.size 39 2 (.slice A5 1 c5) 1 (Sg.two (⟨2, some ⟨w.heap.size, 0, none⟩, 1, [a]⟩ : Sg)) from by simpa using hown5)
        have HN5 := Lib.hid (segs_news4 (HS.out w5 hb5))
        have HSZ := Lib.hid (show (1 + ((s :: L')).length) * 32 ≤ 140737488355328 by have := HL8.out; simp only [List.length_cons] at this ⊢; omega)
        clear hown5 hg5 hb5
        go_wp2_with (at_builtin; refine wpList_app isSeg rfl (.tmp 40) (.tmp 41) rfl w _ 1 (Sg.two (⟨2, some ⟨w.heap.size, 0, none⟩, 1, [a]⟩ : Sg)) rfl H5.out (some ⟨b, off, none⟩) (L'.length + 1) (c) (flatS ((s :: L'))) rfl (by first | (rw [flat_len]; done) | (rw [flat_len]; simp; done) | (simp [flat_len]; done)) HN5.out (flat_one4 _) (by first | exact HSZ.out | simpa using HSZ.out) HB5.out ?_)
        intro v6 w6 hown6 hg6 hb6
        obtain ⟨A6, c6, rfl, f1', f2'⟩ : ∃ A6 c6, v6 = .slice A6 (1 + (L'.length + 1)) c6 ∧ 1 + (L'.length + 1) ≤ c6 ∧ c6 ≤ maxLen := by
          rcases hown6.2 with ⟨_, hn⟩ | ⟨g, cap, cur, rfl, _, _, hnc, hcm, _⟩
          · omega
          · exact ⟨_, cap, rfl, hnc, hcm⟩
        have hrow6 : w6.ownsRow w.heap.size 39 2 (.slice A6 (1 + (L'.length + 1)) c6) ((⟨2, some ⟨w.heap.size, 0, none⟩, 1, [a]⟩ : Sg) :: (s :: L')).length (flatS ((⟨2, some ⟨w.heap.size, 0, none⟩, 1, [a]⟩ : Sg) :: (s :: L'))) := by
          rw [flat_cons]
          have e : ((⟨2, some ⟨w.heap.size, 0, none⟩, 1, [a]⟩ : Sg) :: (s :: L')).length = 1 + (L'.length + 1) := by simp only [List.length_cons, List.length_nil] <;> omega
          rw [e]
          exact hown6
        have hof6 : Own32 w6 w.heap.size (Sg.sl (⟨2, some ⟨w.heap.size, 0, none⟩, 1, [a]⟩ : Sg)) (Sg.nums (⟨2, some ⟨w.heap.size, 0, none⟩, 1, [a]⟩ : Sg)) := World.ownsRow.kept HOF5.out hg6 (own_types HOF5.out H5.out segNe)
        have hsg := segs_of_ok hrow6 (fun s hs => by
          rcases List.mem_cons.1 hs with rfl | hs
          · exact own_ok hof6 HFIT.out
          · exact segs_ok (HS.out w6 hb6) s hs)
        have e1 : 1 + (L'.length + 1) = ((⟨2, some ⟨w.heap.size, 0, none⟩, 1, [a]⟩ : Sg) :: (s :: L')).length := by simp only [List.length_cons, List.length_nil] <;> omega
        have q1 : ((⟨2, some ⟨w.heap.size, 0, none⟩, 1, [a]⟩ : Sg) :: (s :: L')).length ≤ c6 := by rw [← e1]; exact f1'
        have QR2 := Lib.hid (RefRight_any A6 c6 ((⟨2, some ⟨w.heap.size, 0, none⟩, 1, [a]⟩ : Sg) :: (s :: L')) w6 hsg q1 f2' (by have h64 := HT64.out; simp only [totN_cons, List.length_cons, List.length_nil] at h64 ⊢; first | omega | (simp [totN] at h64 ⊢; done) | (simp [totN] at h64 ⊢; omega)))
        rw [← e1] at QR2
        have HSG := Lib.hid hsg; have HB6 := Lib.hid hb6; have Q1 := Lib.hid q1; have Q2 := Lib.hid f2'; have E1 := Lib.hid e1
        clear hown6 hg6 hb6 hrow6 hof6 hsg q1 f1' f2' e1
        obtain ⟨R, hR⟩ : ∃ R, R = rightB ((⟨2, some ⟨w.heap.size, 0, none⟩, 1, [a]⟩ : Sg) :: (s :: L')) := ⟨_, rfl⟩
        rw [← hR] at QR2
        have HR := Lib.hid hR
        clear hR
        cases R with
        | false =>
          go_wp2_with fail
          refine QR2.out.mono ?_
          rintro e w7 ⟨rfl, rfl⟩
          go_wp2_with fail
          exact bodyPost_ret (v := .tuple #[.slice none 0 0, .int .i64 6]) (by simp [results, Tryd.results7, go_sem]) rfl (prep_full HP.out HPA.out HR.out.symm HB6.out)
        | true =>
          go_wp2_with fail
          refine QR2.out.mono ?_
          rintro e w7 ⟨rfl, rfl⟩
          go_wp2_with fail
          exact bodyPost_ret (v := .tuple #[.slice A6 (1 + (L'.length + 1)) c6, .int .i64 0]) (by simp [results, Tryd.results7, go_sem]) rfl (by rw [E1.out]; exact prep_post (M := (⟨2, some ⟨w.heap.size, 0, none⟩, 1, [a]⟩ : Sg) :: (s :: L')) HP.out HPA.out HR.out.symm Q1.out Q2.out HSG.out HB6.out)
end Go.Proofs.YtlgfollajodpaaaDoor

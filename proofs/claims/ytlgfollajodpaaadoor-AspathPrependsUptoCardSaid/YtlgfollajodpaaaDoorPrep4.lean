/-
  A path with a number ahead: the program's.
-/
import Derived.Test.YtlgfollajodpaaaDoorHead4
import Derived.Test.YtlgfollajodpaaaDoorIns3
import Derived.Test.YtlgfollajodpaaaDoorRight3
import Derived.Test.YtlgfollajodpaaaDoorOne32
namespace Go.Proofs.YtlgfollajodpaaaDoor
set_option linter.unusedVariables false
set_option linter.unusedSimpArgs false
open Go.RowKit

theorem prep_head (s : Sg) (M : List Sg) (a c1 : Nat) (A1 : Option Addr) (h : s.kind = 2) : ((⟨s.kind, A1, c1, a :: s.nums⟩ : Sg) :: M).map Sg.abs = prepA ((s :: M).map Sg.abs) a := by
  simp [prepA, Sg.abs, h]
theorem prep_other (M : List Sg) (a : Nat) (x : Sg) (hx : x.abs = (2, [a])) (h : ∀ s, M[0]? = some s → ¬ s.kind = 2) : (x :: M).map Sg.abs = prepA (M.map Sg.abs) a := by
  cases M with
  | nil => simp [prepA, hx]
  | cons s M =>
    have h2 := h s rfl
    have e : (s.abs).1 = s.kind := rfl
    simp [prepA, hx, e, h2]
/-- What stands in a path's first cells. -/
theorem OwnSegs.first {w : World} {B H n c : Nat} {A : Option Addr} {s : Sg} {M : List Sg} (h : OwnSegs w B H (.slice A n c) (s :: M)) : ∃ g, A = some ⟨g, 0, none⟩ ∧ B ≤ g ∧ g < w.heap.size ∧ w.cell? ⟨g, 0, none⟩ = some (.int .i64 s.kind) ∧ w.cell? ⟨g, 1, none⟩ = some (.slice s.adr s.nums.length s.cap) ∧ w.frozen? ⟨g, 1, none⟩ = false := by
  rcases h.row.2 with ⟨hv, hn⟩ | ⟨g, cap, cur, hv, hbg, hg, hnc, hcm, hcs, htake⟩
  · simp at hn
  · have hA : A = some ⟨g, 0, none⟩ := by injection hv
    subst hA
    have hc := World.ownsRow.cells h.row (g := g) rfl
    have f := flat_at (s :: M) 0 s rfl
    have c1 := hc 0 _ f.1
    have c2 := hc 1 _ f.2
    rw [Addr.add_lit] at c1 c2
    exact ⟨g, rfl, hbg, (Array.getElem?_eq_some_iff.1 hg).1, c1, c2, by simp [World.frozen?, hg]⟩
/-- What the two ways lead to. -/
theorem prep_post {w w' : World} {r : List (Int × List Nat)} {a : Nat} {M : List Sg} {A : Option Addr} {c : Nat} (h1 : rightA r = true) (h2 : M.map Sg.abs = prepA r a) (h3 : rightB M = true) (h4 : M.length ≤ c) (h5 : c ≤ maxLen) (h6 : Segs w' w'.heap.size A M) (h7 : Below w.heap.size w w') :
    PrepPost w r a (.returned (.tuple #[.slice A M.length c, .int .i64 0])) w' := by
  unfold PrepPost
  rw [if_pos h1, if_pos (by rw [← h2, ← right_abs]; exact h3)]
  exact ⟨M, A, c, rfl, h2, h4, h5, h6, h7⟩
theorem prep_full {w w' : World} {r : List (Int × List Nat)} {a : Nat} {M : List Sg} (h1 : rightA r = true) (h2 : M.map Sg.abs = prepA r a) (h3 : rightB M = false) (h7 : Below w.heap.size w w') :
    PrepPost w r a (.returned (.tuple #[.slice none 0 0, .int .i64 6])) w' := by
  unfold PrepPost
  rw [if_pos h1, if_neg (by rw [← h2, ← right_abs, h3]; simp)]
  exact ⟨rfl, h7⟩
theorem prep_wrong {w w' : World} {r : List (Int × List Nat)} {a : Nat} (h1 : rightA r = false) (h7 : Below w.heap.size w w') :
    PrepPost w r a (.returned (.tuple #[.slice none 0 0, .int .i64 1])) w' := by
  unfold PrepPost
  rw [if_neg (by rw [h1]; simp)]
  exact ⟨rfl, h7⟩
theorem fit_one {a : Nat} (B : Option Addr) (ha : a < 4294967296) : Sg.Fit ⟨2, B, 1, [a]⟩ := by
  refine ⟨fun x hx => ?_, by show (-9223372036854775808 : Int) ≤ 2; omega, by show (2 : Int) ≤ 9223372036854775807; omega⟩
  have e : x = a := List.mem_singleton.1 hx
  rw [e]
  exact ha
theorem totN_cons (s : Sg) (M : List Sg) : totN (s :: M) = s.nums.length + totN M := by simp [totN]

set_option maxHeartbeats 12800000 in
theorem Prepend_any (A : Option Addr) (c : Nat) (L : List Sg) (a : Nat) (w : World) (h : Segs w w.heap.size A L) (hc : L.length ≤ c) (hm : c ≤ maxLen) (ht : totN L ≤ 2000000) (ha : a < 4294967296) :
    Calls Tryd.prog 6 #[.slice A L.length c, .int .u32 (a : Int)] w (PrepPost w (L.map Sg.abs) a) := by
  have HS := Lib.hid (fun W (hB : Below w.heap.size w W) => (h.below hB (Nat.le_refl _)).lift hB.size)
  have QR := Lib.hid (Right_any A c L w h hc hm (by omega))
  have HRA := Lib.hid (right_abs L)
  clear h
  cases hr : rightB L with
  | false =>
    have HP := Lib.hid (show rightA (L.map Sg.abs) = false by rw [← HRA.out]; exact hr)
    rw [hr] at QR
    clear hr
    go_enter Tryd.func6, Tryd.ntmps6
    go_wp2_with fail
    refine QR.out.mono ?_
    rintro e w1 ⟨rfl, hb1⟩
    have HB1 := Lib.hid hb1; clear hb1
    go_wp2_with fail
    exact bodyPost_ret (v := .tuple #[.slice none 0 0, .int .i64 1]) (by simp [results, Tryd.results6, go_sem]) rfl (prep_wrong HP.out HB1.out)
  | true =>
    have HP := Lib.hid (show rightA (L.map Sg.abs) = true by rw [← HRA.out]; exact hr)
    obtain ⟨hL8, hT64, hpos⟩ := right_parts hr
    have HPOS := Lib.hid hpos
    have QC := Lib.hid (fun W (hB : Below w.heap.size w W) => Copied4_any A c L W (HS.out W hB) (by omega) (by omega))
    rw [hr] at QR
    clear hr hpos
    go_enter Tryd.func6, Tryd.ntmps6
    go_wp2_with fail
    refine QR.out.mono ?_
    rintro e w1 ⟨rfl, hb1⟩
    have HB1 := Lib.hid hb1; clear hb1
    go_wp2_with fail
    refine (QC.out _ HB1.out).mono ?_
    rintro e w2 ⟨M, H, A2, c2, rfl, hab, hap, ho, hH, hb2⟩
    have HB2 := Lib.hid (HB1.out.trans (hb2.mono HB1.out.size))
    have HB12 := Lib.hid hb2
    obtain ⟨A2', c2', hv, f1, f2⟩ := ho.form
    injection hv with e1 e2 e3
    subst e1 e3
    have hml : M.length = L.length := by have := congrArg List.length hab; simpa using this
    have hmt : totN M = totN L := by
      have e : ∀ X : List Sg, totN X = totA (X.map Sg.abs) := fun X => by unfold totN totA; rw [List.map_map]; rfl
      rw [e, e, hab]
    have HAB := Lib.hid hab; have HAP := Lib.hid hap; have HO := Lib.hid ho; have HF1 := Lib.hid f1; have HF2 := Lib.hid f2; have HMT := Lib.hid hmt
    have HML := Lib.hid hml
    have HML8 := Lib.hid (show M.length ≤ 8 by omega)
    have HMT64 := Lib.hid (show totN M ≤ 64 by omega)
    clear hab hap ho f1 f2 hb2 hmt hH hml
    by_cases hk : ∃ s, M[0]? = some s ∧ s.kind = 2
    · obtain ⟨s, hs, hk2⟩ := hk
      obtain ⟨M', rfl⟩ : ∃ M', M = s :: M' := by
        cases M with
        | nil => simp at hs
        | cons x M' =>
          obtain rfl : x = s := by simpa using hs
          exact ⟨M', rfl⟩
      obtain ⟨g, rfl, hbg, hgl, k0, k1, kf⟩ := HO.out.first
      have HK2 := Lib.hid hk2
      rw [hk2] at k0
      have hpl : (0 : Int) < ((s :: M').length : Int) := by simp only [List.length_cons]; omega
      have ho1 := HO.out.own s (by simp)
      have hsn : s.nums.length ≤ 64 := by have := HMT64.out; rw [totN_cons] at this; omega
      have hbA := (Below.refl w2.heap.size w2).alloc (Nat.le_refl _) (.cells #[.int .u32 (a : Int)] 23)
      have hown1 : (w2.alloc (.cells #[.int .u32 (a : Int)] 23)).ownsRow w1.heap.size 23 1 (.slice s.adr s.nums.length s.cap) s.nums.length (cells32 s.nums) := ho1.alloc _
      have hnb : (Value.slice s.adr s.nums.length s.cap).ownBlock ≠ some w2.heap.size := fun e => by
        have := (World.ownsRow.lt ho1 _ e).2
        omega
      have QI := Lib.hid (Ins32_any w1.heap.size s.nums.length s.cap w2.heap.size s.adr [.int .u32 (a : Int)] (cells32 s.nums) (w2.alloc (.cells #[.int .u32 (a : Int)] 23)) (by have := HB12.out.size; simp; omega) hown1 (cells32_one _) (heap_alloc_new w2 _) rfl (by simp [Value.oneCell']) hnb (by omega))
      have HBG := Lib.hid hbg
      have HBA := Lib.hid hbA
      have HHO := Lib.hid ho1
      clear hs hk2 ho1 hown1 hnb hbA hsn hbg
      go_wp2_with fail
      refine QI.out.mono ?_
      rintro e w3 ⟨A3, c3, rfl, hown3, hg3, q1, q2⟩
      have O3 : Own32 w3 w1.heap.size (.slice A3 (a :: s.nums).length c3) (a :: s.nums) := hown3
      have hg3' : w2.grownBy w3 s.sl.ownBlock := ⟨hg3.os, hg3.tape, hg3.output, Nat.le_trans HBA.out.size hg3.size, fun k hk hne => (hg3.block k (Nat.lt_of_lt_of_le hk HBA.out.size) hne).trans (HBA.out.block k hk)⟩
      have hrow3 := World.ownsRow.kept HO.out.row hg3' (own_types HO.out.row HHO.out (Ne.symm segNe))
      have c31 : w3.cell? ⟨g, 1, none⟩ = some (.slice s.adr s.nums.length s.cap) := by
        have := World.ownsRow.cells hrow3 (g := g) rfl 1 _ (flat_at (s :: M') 0 s rfl).2
        rwa [Addr.add_lit] at this
      have f31 : w3.frozen? ⟨g, 1, none⟩ = false := by
        rcases hrow3.2 with ⟨hv, _⟩ | ⟨g', cap, cur, hv, _, hgg, _⟩
        · cases hv
        · injection hv with e1
          injection e1 with e1
          injection e1 with e1
          subst e1
          simp [World.frozen?, hgg]
      have hsg := OwnSegs.head (A1 := A3) (c1 := c3) (z := a :: s.nums) HO.out HAP.out O3 (fun x hx => by
        rcases List.mem_cons.1 hx with rfl | hx
        · exact ha
        · exact (HO.out.fit s (by simp)).1 x hx) hg3'
      have hbe := (HB2.out.grown hg3' HB2.out.size (fun k hk => Nat.le_trans HB1.out.size (World.ownsRow.lt HHO.out k hk).1)).setCell (p := ⟨g, 1, none⟩) (Nat.le_trans HB1.out.size HBG.out) (.slice A3 (s.nums.length + 1) c3)
      have QR2 := Lib.hid (Right_any (some ⟨g, 0, none⟩) c2 (⟨s.kind, A3, c3, a :: s.nums⟩ :: M') _ hsg (by simpa using HF1.out) HF2.out (by have := HMT64.out; rw [totN_cons] at this ⊢; simp; omega))
      have HSG := Lib.hid hsg; have HBE := Lib.hid hbe
      have HPA := Lib.hid (show ((⟨s.kind, A3, c3, a :: s.nums⟩ : Sg) :: M').map Sg.abs = prepA (L.map Sg.abs) a by rw [prep_head s M' a c3 A3 HK2.out, HAB.out])
      clear hown3 hg3 hg3' hrow3 O3 hsg hbe q1 q2 k0 k1 kf
      simp only [List.length_cons] at QR2
      obtain ⟨R, hR⟩ : ∃ R, R = rightB (⟨s.kind, A3, c3, a :: s.nums⟩ :: M') := ⟨_, rfl⟩
      rw [← hR] at QR2
      have HR := Lib.hid hR
      clear hR
      cases R with
      | false =>
        go_wp2_with fail
        refine QR2.out.mono ?_
        rintro e w4 ⟨rfl, hb4⟩
        have HB4 := Lib.hid (HBE.out.trans (hb4.mono HBE.out.size)); clear hb4
        go_wp2_with fail
        exact bodyPost_ret (v := .tuple #[.slice none 0 0, .int .i64 6]) (by simp [results, Tryd.results6, go_sem]) rfl (prep_full HP.out HPA.out HR.out.symm HB4.out)
      | true =>
        go_wp2_with fail
        refine QR2.out.mono ?_
        rintro e w4 ⟨rfl, hb4⟩
        have HB4 := Lib.hid (HBE.out.trans (hb4.mono HBE.out.size))
        have HS4 := Lib.hid ((HSG.out.below hb4 (Nat.le_refl _)).lift hb4.size)
        clear hb4
        go_wp2_with fail
        exact bodyPost_ret (v := .tuple #[.slice (some ⟨g, 0, none⟩) (M'.length + 1) c2, .int .i64 0]) (by simp [results, Tryd.results6, go_sem]) rfl (prep_post (M := ⟨s.kind, A3, c3, a :: s.nums⟩ :: M') HP.out HPA.out HR.out.symm (by simpa using HF1.out) HF2.out HS4.out HB4.out)
    · have HNK := Lib.hid (show ∀ s, M[0]? = some s → ¬ s.kind = 2 from fun s hs e => hk ⟨s, hs, e⟩)
      clear hk
      have hbA := (Below.refl w2.heap.size w2).alloc (Nat.le_refl _) (.cells #[.int .u32 (a : Int)] 23)
      have hbB := hbA.alloc hbA.size (.cells #[.int .i64 2, .slice (some ⟨w2.heap.size, 0, none⟩) 1 1] 39)
      have eB : (w2.alloc (.cells #[.int .u32 (a : Int)] 23)).heap.size = w2.heap.size + 1 := by simp
      have kB := Blk.new (w2.alloc (.cells #[.int .u32 (a : Int)] 23)) 39 [.int .i64 2, .slice (some ⟨w2.heap.size, 0, none⟩) 1 1]
      rw [eB] at kB
      have hown0 := own_lit w2 a
      have hownA := (hown0.alloc (.cells #[.int .i64 2, .slice (some ⟨w2.heap.size, 0, none⟩) 1 1] 39)).lower (HB12.out.size)
      have hrow2 := (HO.out.below hbB)
      have hnb : (Value.slice A2 M.length c2).ownBlock ≠ some (w2.heap.size + 1) := fun e => by
        have := (World.ownsRow.lt HO.out.row _ e).2
        omega
      have QI := Lib.hid (InsS_any w1.heap.size M.length c2 (w2.heap.size + 1) A2 (Sg.two ⟨2, some ⟨w2.heap.size, 0, none⟩, 1, [a]⟩) (flatS M) _ (by have := HB12.out.size; simp; omega) hrow2.row (by
        intro u hu
        obtain ⟨s, _, hs⟩ := List.mem_flatMap.1 hu
        exact two_one s u hs) kB rfl (two_one _) hnb (by have := HML8.out; omega))
      have HR2 := Lib.hid hrow2
      have HOA := Lib.hid hownA
      have HBB := Lib.hid hbB
      have HL0 := Lib.hid (show M.length ≤ 8 from HML8.out)
      clear hbA hbB eB kB hown0 hownA hrow2 hnb
      cases M with
      | nil =>
        simp only [List.length_nil] at QI
        go_wp2_with fail
        refine QI.out.mono ?_
        rintro e w3 ⟨A3, c3, rfl, hown3, hg3, q1, q2⟩
        have hsg := OwnSegs.ahead (s := ⟨2, some ⟨w2.heap.size, 0, none⟩, 1, [a]⟩) HR2.out HOA.out (fit_one _ ha) hown3 hg3
        have hb2w := HB2.out.trans (HBB.out.mono HB2.out.size)
        have hbe := hb2w.grown hg3 hb2w.size (fun k hk => Nat.le_trans HB1.out.size (World.ownsRow.lt HR2.out.row k hk).1)
        have QR2 := Lib.hid (Right_any A3 c3 (⟨2, some ⟨w2.heap.size, 0, none⟩, 1, [a]⟩ :: []) w3 hsg (by simpa using q1) q2 (by have := HMT64.out; rw [totN_cons]; simp only [List.length_cons, List.length_nil]; omega))
        have HSG := Lib.hid hsg; have HBE := Lib.hid hbe
        have HPA := Lib.hid (show ((⟨2, some ⟨w2.heap.size, 0, none⟩, 1, [a]⟩ : Sg) :: []).map Sg.abs = prepA (L.map Sg.abs) a by rw [prep_other _ a _ rfl HNK.out, HAB.out])
        have Q1 := Lib.hid q1; have Q2 := Lib.hid q2
        clear hown3 hg3 hsg hbe hb2w q1 q2
        simp only [List.length_cons, List.length_nil] at QR2
        obtain ⟨R, hR⟩ : ∃ R, R = rightB (⟨2, some ⟨w2.heap.size, 0, none⟩, 1, [a]⟩ :: []) := ⟨_, rfl⟩
        rw [← hR] at QR2
        have HR := Lib.hid hR
        clear hR
        cases R with
        | false =>
          go_wp2_with fail
          refine QR2.out.mono ?_
          rintro e w4 ⟨rfl, hb4⟩
          have HB4 := Lib.hid (HBE.out.trans (hb4.mono HBE.out.size)); clear hb4
          go_wp2_with fail
          exact bodyPost_ret (v := .tuple #[.slice none 0 0, .int .i64 6]) (by simp [results, Tryd.results6, go_sem]) rfl (prep_full HP.out HPA.out HR.out.symm HB4.out)
        | true =>
          go_wp2_with fail
          refine QR2.out.mono ?_
          rintro e w4 ⟨rfl, hb4⟩
          have HB4 := Lib.hid (HBE.out.trans (hb4.mono HBE.out.size))
          have HS4 := Lib.hid ((HSG.out.below hb4 (Nat.le_refl _)).lift hb4.size)
          clear hb4
          go_wp2_with fail
          exact bodyPost_ret (v := .tuple #[.slice A3 (0 + 1) c3, .int .i64 0]) (by simp [results, Tryd.results6, go_sem]) rfl (prep_post (M := ⟨2, some ⟨w2.heap.size, 0, none⟩, 1, [a]⟩ :: []) HP.out HPA.out HR.out.symm (by simpa using Q1.out) Q2.out HS4.out HB4.out)
      | cons s M' =>
        obtain ⟨g, rfl, hbg, hgl, k0, k1, kf⟩ := HO.out.first
        have hkb : (s.kind == 2) = false := by simpa using HNK.out s rfl
        have hpl : (0 : Int) < ((s :: M').length : Int) := by simp only [List.length_cons]; omega
        simp only [List.length_cons] at QI
        go_wp2_with fail
        refine QI.out.mono ?_
        rintro e w3 ⟨A3, c3, rfl, hown3, hg3, q1, q2⟩
        have hsg := OwnSegs.ahead (s := ⟨2, some ⟨w2.heap.size, 0, none⟩, 1, [a]⟩) HR2.out HOA.out (fit_one _ ha) hown3 hg3
        have hb2w := HB2.out.trans (HBB.out.mono HB2.out.size)
        have hbe := hb2w.grown hg3 hb2w.size (fun k hk => Nat.le_trans HB1.out.size (World.ownsRow.lt HR2.out.row k hk).1)
        have QR2 := Lib.hid (Right_any A3 c3 (⟨2, some ⟨w2.heap.size, 0, none⟩, 1, [a]⟩ :: s :: M') w3 hsg (by simpa using q1) q2 (by have := HMT64.out; rw [totN_cons]; simp only [List.length_cons, List.length_nil]; omega))
        have HSG := Lib.hid hsg; have HBE := Lib.hid hbe
        have HPA := Lib.hid (show ((⟨2, some ⟨w2.heap.size, 0, none⟩, 1, [a]⟩ : Sg) :: s :: M').map Sg.abs = prepA (L.map Sg.abs) a by rw [prep_other _ a _ rfl HNK.out, HAB.out])
        have Q1 := Lib.hid q1; have Q2 := Lib.hid q2
        clear hown3 hg3 hsg hbe hb2w q1 q2
        simp only [List.length_cons, List.length_nil] at QR2
        obtain ⟨R, hR⟩ : ∃ R, R = rightB (⟨2, some ⟨w2.heap.size, 0, none⟩, 1, [a]⟩ :: s :: M') := ⟨_, rfl⟩
        rw [← hR] at QR2
        have HR := Lib.hid hR
        clear hR
        cases R with
        | false =>
          go_wp2_with fail
          refine QR2.out.mono ?_
          rintro e w4 ⟨rfl, hb4⟩
          have HB4 := Lib.hid (HBE.out.trans (hb4.mono HBE.out.size)); clear hb4
          go_wp2_with fail
          exact bodyPost_ret (v := .tuple #[.slice none 0 0, .int .i64 6]) (by simp [results, Tryd.results6, go_sem]) rfl (prep_full HP.out HPA.out HR.out.symm HB4.out)
        | true =>
          go_wp2_with fail
          refine QR2.out.mono ?_
          rintro e w4 ⟨rfl, hb4⟩
          have HB4 := Lib.hid (HBE.out.trans (hb4.mono HBE.out.size))
          have HS4 := Lib.hid ((HSG.out.below hb4 (Nat.le_refl _)).lift hb4.size)
          clear hb4
          go_wp2_with fail
          exact bodyPost_ret (v := .tuple #[.slice A3 (M'.length + 1 + 1) c3, .int .i64 0]) (by simp [results, Tryd.results6, go_sem]) rfl (prep_post (M := ⟨2, some ⟨w2.heap.size, 0, none⟩, 1, [a]⟩ :: s :: M') HP.out HPA.out HR.out.symm (by simpa using Q1.out) Q2.out HS4.out HB4.out)
end Go.Proofs.YtlgfollajodpaaaDoor

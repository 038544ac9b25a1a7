/-
  RankPairs' walk.
-/
import Derived.Test.YtpjhidicgclmbaaBest15W
namespace Go.Proofs.Ytpjhidicgclmbaa
set_option linter.unusedVariables false
set_option linter.unusedSimpArgs false
open Go.RowKit

theorem pair_range (x y : Rn) : ∀ k s, -1 ≤ (pairF x y k s).1 ∧ (pairF x y k s).1 ≤ 1
  | 0, _ => by simp [pairF]
  | k + 1, s => by
    unfold pairF
    split
    · simp
    · split
      · simp
      · exact pair_range x y k (s + 1)
theorem pairZ_turn (a b : Cv) : pairZ b a = (-(pairZ a b).1, (pairZ a b).2) := pair_turn (keyOf a 0) (keyOf b 0) 8 1
set_option maxHeartbeats 6400000 in
theorem RankPairs.walk (a b : Cv) (W : World) (ha : a.In W W.heap.size) (hb : b.In W W.heap.size) (wa : Wt reachBytes a.path) (wb : Wt reachBytes b.path) :
    Calls Try.prog 4 #[a.agg, b.agg] W fun e w' => e = .returned (.bool true) ∧ Below W.heap.size W w' := by
  have QA := Lib.hid (fun W => awake15_any W)
  have hb0 := ((Below.refl W.heap.size W).alloc (Nat.le_refl _) (.cells a.row.toArray 34)).alloc (by simp <;> omega) (.cells b.row.toArray 34)
  have kA := (Blk.new W 34 a.row).below ((Below.refl _ (W.alloc (.cells a.row.toArray 34))).alloc (Nat.le_refl _) (.cells b.row.toArray 34)) (by simp)
  have kB := Blk.new (W.alloc (.cells a.row.toArray 34)) 34 b.row
  have e1 : (W.alloc (.cells a.row.toArray 34)).heap.size = W.heap.size + 1 := by simp
  rw [e1] at kB
  obtain ⟨w0, hw0⟩ : ∃ w0, w0 = (W.alloc (.cells a.row.toArray 34)).alloc (.cells b.row.toArray 34) := ⟨_, rfl⟩
  rw [← hw0] at hb0 kA kB
  have HW0 := Lib.hid hw0
  have HB0 := Lib.hid hb0
  have HCV := Lib.hid (fun (w : World) (h : Below w0.heap.size w0 w) => And.intro (cv_blk (kA.below h kA.lt)) (cv_blk (kB.below h kB.lt)))
  have hbF := hb0.alloc hb0.size (.cells (flatC [a, b]).toArray 34)
  have QF := Lib.hid (few_any (some ⟨w0.heap.size, 0, none⟩) 2 [a, b] 2 _ (cands_new w0 34 [a, b] (fun s hs => by
    rcases List.mem_cons.1 hs with rfl | hs
    · exact ha.go hb0
    · rw [List.mem_singleton.1 hs]; exact hb.go hb0)) (by decide))
  simp only [List.length_cons, List.length_nil, Nat.zero_add, show (1 + 1 : Nat) = 2 from rfl, show ((2 : Nat) : Int) = 2 from rfl] at QF
  have HBF := Lib.hid hbF
  have HBF0 := Lib.hid ((Below.refl w0.heap.size w0).alloc (Nat.le_refl _) (.cells (flatC [a, b]).toArray 34))
  have HIN := Lib.hid (And.intro ha hb); have HWT := Lib.hid (And.intro wa wb)
  clear ha hb wa wb hb0 kA kB e1 hw0 hbF
  go_enter Try.func4, Try.ntmps4
  go_wp2_with (first
    | (refine wpList_boxC _ rfl (.tmp 0) rfl a rfl ?_)
    | (refine wpList_boxC _ rfl (.tmp 1) rfl b rfl ?_)
    | (rw [← HW0.out]; refine wpList_loadC _ rfl (.tmp 2) rfl W.heap.size 0 a rfl (HCV.out _ (Below.refl _ _)).1 ?_)
    | (refine wpList_loadC _ rfl (.tmp 2) rfl W.heap.size 0 a rfl (HCV.out _ (Below.refl _ _)).1 ?_)
    | (refine wpList_loadC _ rfl (.tmp 3) rfl (W.heap.size + 1) 0 b rfl (HCV.out _ (Below.refl _ _)).2 ?_)
    | (refine wpList_build2C _ rfl (.tmp 11) (.tmp 12) rfl a b rfl rfl ?_))
  refine QF.out.mono ?_
  rintro e w1 ⟨q, rfl, hfew, hb1⟩
  have HB1 := Lib.hid (HBF.out.trans (hb1.mono HBF.out.size))
  have HB01 := Lib.hid (HBF0.out.trans (hb1.mono HBF0.out.size))
  clear hb1 QF HBF HBF0
  cases q with
  | false =>
    clear hfew
    go_wp2_with fail
    refine (QA.out _).mono ?_
    rintro e w2 ⟨rfl, hb2⟩
    have HB2 := Lib.hid (HB1.out.trans (hb2.mono HB1.out.size))
    clear hb2
    go_wp2_with fail
    go_ret
    exact ⟨rfl, HB2.out⟩
  | true =>
    have hall := (hfew rfl).2
    have oka : CntOk a := cnt_ok (hall a (by simp)) HWT.out.1
    have okb : CntOk b := cnt_ok (hall b (by simp)) HWT.out.2
    have Q1 := Lib.hid (fun (w : World) (h : Below W.heap.size W w) => Compare_any a b w (HIN.out.1.go h) (HIN.out.2.go h) oka okb)
    have Q2 := Lib.hid (fun (w : World) (h : Below W.heap.size W w) => RefCompare_any a b w (HIN.out.1.go h) (HIN.out.2.go h) oka okb)
    have Q3 := Lib.hid (fun (w : World) (h : Below W.heap.size W w) => Compare_any b a w (HIN.out.2.go h) (HIN.out.1.go h) okb oka)
    rw [pairZ_turn a b] at Q3
    have hrg := pair_range (keyOf a 0) (keyOf b 0) 8 1
    obtain ⟨p, hp⟩ : ∃ p, p = pairZ a b := ⟨_, rfl⟩
    rw [← hp] at Q1 Q2 Q3
    have hrg2 : -1 ≤ p.1 ∧ p.1 ≤ 1 := by rw [hp]; exact hrg
    obtain ⟨n, s⟩ := p
    unfold retPair at Q1 Q2 Q3
    dsimp only at Q1 Q2 Q3 hrg2
    have ew := IntWalk.i64_in (-n) (by omega)
    have HC1 := Lib.hid (HCV.out w1 HB01.out)
    clear hfew hall oka okb hrg hp hrg2
    go_wp2_with (first
      | (refine wpList_loadC _ rfl (.tmp 2) rfl W.heap.size 0 a rfl HC1.out.1 ?_)
      | (refine wpList_loadC _ rfl (.tmp 3) rfl (W.heap.size + 1) 0 b rfl HC1.out.2 ?_))
    refine (Q1.out _ HB1.out).mono ?_
    rintro e w2 ⟨rfl, hb2⟩
    have HB2 := Lib.hid (HB1.out.trans (hb2.mono HB1.out.size))
    have HB02 := Lib.hid (HB01.out.trans (hb2.mono HB01.out.size))
    have HC2 := Lib.hid (HCV.out w2 HB02.out)
    clear hb2 HC1 Q1
    go_wp2_with (first
      | (refine wpList_loadC _ rfl (.tmp 2) rfl W.heap.size 0 a rfl HC2.out.1 ?_)
      | (refine wpList_loadC _ rfl (.tmp 3) rfl (W.heap.size + 1) 0 b rfl HC2.out.2 ?_))
    refine (Q2.out _ HB2.out).mono ?_
    rintro e w3 ⟨rfl, hb3⟩
    have HB3 := Lib.hid (HB2.out.trans (hb3.mono HB2.out.size))
    have HC3 := Lib.hid (HCV.out w3 (HB02.out.trans (hb3.mono HB02.out.size)))
    clear hb3 HC2 Q2
    go_wp2_with (first
      | (refine wpList_loadC _ rfl (.tmp 2) rfl W.heap.size 0 a rfl HC3.out.1 ?_)
      | (refine wpList_loadC _ rfl (.tmp 3) rfl (W.heap.size + 1) 0 b rfl HC3.out.2 ?_))
    refine (Q3.out _ HB3.out).mono ?_
    rintro e w4 ⟨rfl, hb4⟩
    have HB4 := Lib.hid (HB3.out.trans (hb4.mono HB3.out.size))
    clear hb4 HC3 Q3
    go_wp2_with fail
    refine (QA.out _).mono ?_
    rintro e w5 ⟨rfl, hb5⟩
    have HB5 := Lib.hid (HB4.out.trans (hb5.mono HB4.out.size))
    clear hb5
    go_wp2_with fail
    go_ret
    exact ⟨rfl, HB5.out⟩
end Go.Proofs.Ytpjhidicgclmbaa

/-
  The calls of a store of versions (of int) that make it, or write it.
-/
import Derived.Test.YtagfehfggkehmaaOpsI
namespace Go.Proofs.Ytagfehfggkehmaa
set_option linter.unusedVariables false
set_option linter.unusedSimpArgs false
open Go.RowKit Go.Maps

set_option maxHeartbeats 1600000 in
theorem NewI (x : Int) (w : World) :
    Calls Try.prog 7 #[.int .i64 x] w fun e w' => ∃ g b, e = .returned (.pointer (some ⟨g, 0, none⟩)) ∧ w.heap.size ≤ g ∧ w.heap.size ≤ b ∧ StI w' g b 1 0 (putF (fun _ => none) 0 (x, 0)) 1 ∧ Below w.heap.size w w' := by
  have hm0 := MapI.made w
  have hmm := @run_makeMap Try.prog
  obtain ⟨w1, hrun, hm1, ht1⟩ := hm0.put (by decide) (k := 0) (by decide) (x, 0)
  dsimp only at hrun
  have hb1 : Below w.heap.size w w1 := ((Below.refl _ _).alloc (Nat.le_refl _) _).trans (below_of_grown ht1.grown (by simp) (Nat.le_refl _))
  have HM := Lib.hid hm1
  have HB := Lib.hid hb1
  have HL := Lib.hid hm1.lt
  clear hm0 hm1 ht1 hb1
  go_enter Try.func7, Try.ntmps7
  go_wp2
  go_ret
  refine ⟨w1.heap.size, w.heap.size, rfl, HB.out.size, Nat.le_refl _, ⟨Blk.new _ _ _, HM.out.block ?_, Nat.ne_of_lt HL.out⟩, HB.out.alloc HB.out.size _⟩
  exact Below.heap_alloc _ _ _ HL.out

set_option maxHeartbeats 1600000 in
theorem CommitI {w : World} {g b n c : Nat} {h : Int} {F : Int → Option (Int × Int)} (s : StI w g b n h F c) (x : Int) (hn : n < 1000000) (hh : 0 ≤ h ∧ h ≤ 1000000) :
    Calls Try.prog 9 #[.pointer (some ⟨g, 0, none⟩), .int .i64 x] w fun e w' => e = .returned (.int .i64 (h + 1)) ∧ StI w' g b (n + 1) (h + 1) (dropF (putF F (h + 1) (x, 0)) 0 (h + 1) h) (dropC (putF F (h + 1) (x, 0)) 0 (h + 1) h (putC F (h + 1) c)) ∧ Keep2 w w' g b := by
  have c0 : w.cell? ⟨g, 0, none⟩ = some (.int .i64 h) := s.blk.cell 0
  have c1 : w.cell? ⟨g, 1, none⟩ = some (.map (some b)) := s.blk.cell 1
  have f0 : w.frozen? ⟨g, 0, none⟩ = false := s.blk.free 0
  have s1 := (s.setHead (h + 1)).drew
  obtain ⟨w1, hrun, hm1, ht1⟩ := s1.map.put (by unfold maxLen; omega) (k := h + 1) (WalkArith.wf_i64 (by omega)) (x, 0)
  dsimp only at hrun
  have s2 := s1.turn hm1 ht1
  have hk : Keep2 w w1 g b := ((Keep2.refl w g b).set 0 (.int .i64 (h + 1))).drew.trans (Keep2.turned ht1)
  have HS := Lib.hid s
  have HS2 := Lib.hid s2
  have HK := Lib.hid hk
  have HW := Lib.hid (WalkArith.wf_i64 (by omega) : (Lit.int .i64 h).wf = true)
  obtain ⟨hh1, hh2⟩ := hh
  clear s s1 hm1 ht1 s2 hk hn
  go_enter Try.func9, Try.ntmps9
  go_wp2_with ((go_at_call 22; refine (madeI HS.out).mono ?_; rintro e w1 ⟨rfl, rfl⟩))
  go_region
  go_wp2_with ((go_at_call 23; refine (dropI HS2.out h HW.out).mono ?_; rintro e w3 ⟨rfl, s3, t3⟩; have c3 : w3.cell? ⟨g, 0, none⟩ = some (.int .i64 (h + 1)) := s3.blk.cell 0; have HS3 := Lib.hid s3; have HK3 := Lib.hid (HK.out.trans (Keep2.turned t3)); clear s3 t3 c0 c1 f0 hrun))
  go_ret
  exact ⟨rfl, HS3.out, HK3.out⟩

set_option maxHeartbeats 1600000 in
theorem PinI {w : World} {g b n c : Nat} {h : Int} {F : Int → Option (Int × Int)} (s : StI w g b n h F c) (x : Int) (p : Int) (hF : F h = some (x, p)) (hn : n < 1000000) (hh : 0 ≤ h ∧ h ≤ 1000000) (hp : 0 ≤ p ∧ p ≤ 1000000) :
    Calls Try.prog 11 #[.pointer (some ⟨g, 0, none⟩)] w fun e w' => e = .returned (.int .i64 h) ∧ StI w' g b (n + 1) h (putF F h (x, p + 1)) (putC F h c) ∧ Keep2 w w' g b := by
  have hwh : (Lit.int .i64 h).wf = true := WalkArith.wf_i64 (by omega)
  have c0 : w.cell? ⟨g, 0, none⟩ = some (.int .i64 h) := s.blk.cell 0
  have c1 : w.cell? ⟨g, 1, none⟩ = some (.map (some b)) := s.blk.cell 1
  have hlook := s.drew.map.look false hwh
  rw [hF] at hlook
  simp only [Option.getD_some, Bool.false_eq_true, if_false] at hlook
  have hb : Below w.heap.size w (w.alloc (.cells #[.int .i64 x, .int .i64 (p + 1)] 49)) := (Below.refl _ _).alloc (by simp) _
  have s1 := ((s.below hb s.lt.1 s.lt.2).drew).drew
  have hb0 : Below w.heap.size w (w.alloc (.cells #[.int .i64 0, .int .i64 0] 49)) := (Below.refl _ _).alloc (by simp) _
  have s0 := (s.below hb0 s.lt.1 s.lt.2).drew
  have d0 : (w.alloc (.cells #[.int .i64 0, .int .i64 0] 49)).cell? ⟨g, 0, none⟩ = some (.int .i64 h) := s0.blk.cell 0
  have d1 : (w.alloc (.cells #[.int .i64 0, .int .i64 0] 49)).cell? ⟨g, 1, none⟩ = some (.map (some b)) := s0.blk.cell 1
  have hlook0 := s0.map.look false hwh
  rw [hF] at hlook0
  simp only [Option.getD_some, Bool.false_eq_true, if_false] at hlook0
  have e0 : (w.alloc (.cells #[.int .i64 x, .int .i64 (p + 1)] 49)).cell? ⟨g, 0, none⟩ = some (.int .i64 h) := s1.blk.cell 0
  have e1 : (w.alloc (.cells #[.int .i64 x, .int .i64 (p + 1)] 49)).cell? ⟨g, 1, none⟩ = some (.map (some b)) := s1.blk.cell 1
  obtain ⟨w1, hrun, hm1, ht1⟩ := s1.map.put (by unfold maxLen; omega) (k := h) hwh (x, p + 1)
  dsimp only at hrun
  have s2 := s1.turn hm1 ht1
  have hk : Keep2 w w1 g b := (((Keep2.refl w g b).alloc _).drew).drew.trans (Keep2.turned ht1)
  have c3 : w1.cell? ⟨g, 0, none⟩ = some (.int .i64 h) := s2.blk.cell 0
  have HS := Lib.hid s
  have HS2 := Lib.hid s2
  have HK := Lib.hid hk
  obtain ⟨hh1, hh2⟩ := hh
  obtain ⟨hp1, hp2⟩ := hp
  clear s s1 hm1 ht1 s2 hk hn hb hF hwh s0 hb0
  go_enter Try.func11, Try.ntmps11
  go_wp2_with ((go_at_call 22; refine (madeI HS.out).mono ?_; rintro e w1 ⟨rfl, rfl⟩))
  go_region
  all_goals
    go_wp2
    go_region
    all_goals
      go_wp2
      go_ret
      exact ⟨rfl, HS2.out, HK.out⟩

set_option maxHeartbeats 1600000 in
theorem ReleaseNoI_of {w : World} {v : Value} {k : Int} {x : Int} {q : Bool}
    (hget : Calls Try.prog 24 #[v, .int .i64 k] w fun e w' => e = .returned (retGetI (x, 0) q) ∧ Below w.heap.size w w') :
    Calls Try.prog 13 #[v, .int .i64 k] w fun e w' => e = .returned (.bool false) ∧ Below w.heap.size w w' := by
  have HG := Lib.hid hget
  clear hget
  go_enter Try.func13, Try.ntmps13
  go_wp2_with ((go_at_call 24; refine HG.out.mono ?_; rintro e w1 ⟨rfl, hb1⟩; unfold retGetI))
  go_ret
  exact ⟨rfl, hb1.alloc hb1.size _⟩

set_option maxHeartbeats 1600000 in
theorem ReleaseI {w : World} {g b n c : Nat} {h : Int} {F : Int → Option (Int × Int)} (s : StI w g b n h F c) (k : Int) (x : Int) (p : Int) (hF : F k = some (x, p)) (hn : n < 1000000) (hk : (Lit.int .i64 k).wf = true) (hp : 0 < p ∧ p ≤ 1000000) :
    Calls Try.prog 13 #[.pointer (some ⟨g, 0, none⟩), .int .i64 k] w fun e w' => e = .returned (.bool true) ∧ StI w' g b (n + 1) h (dropF (putF F k (x, p - 1)) 0 h k) (dropC (putF F k (x, p - 1)) 0 h k (putC F k c)) ∧ Keep2 w w' g b := by
  have hget := getI s k hk
  rw [show atI F k = (x, p) by simp [atI, hF]] at hget
  have HG := Lib.hid hget
  have HS := Lib.hid s
  have HW := Lib.hid hk
  have HN := Lib.hid (show n < maxLen by unfold maxLen; omega)
  obtain ⟨hp1, hp2⟩ := hp
  have hp0 : (p == 0) = false := by simpa using Int.ne_of_gt hp1
  clear hget hk hn hF s
  go_enter Try.func13, Try.ntmps13
  go_wp2_with ((go_at_call 24; refine HG.out.mono ?_; rintro e w1 ⟨rfl, hb1⟩; unfold retGetI))
  have hb2 : Below w.heap.size w (w1.alloc (.cells #[.int .i64 x, .int .i64 (p - 1)] 49)).drew := (hb1.alloc hb1.size _).drew
  have s2 := HS.out.below hb2 HS.out.lt.1 HS.out.lt.2
  have c1 : (w1.alloc (.cells #[.int .i64 x, .int .i64 (p - 1)] 49)).cell? ⟨g, 1, none⟩ = some (.map (some b)) := s2.blk.cell 1
  obtain ⟨w3, hrun, hm3, ht3⟩ := s2.map.put HN.out HW.out (x, p - 1)
  dsimp only at hrun
  have HS3 := Lib.hid (s2.turn hm3 ht3)
  have HK3 := Lib.hid ((Keep2.of_below hb2).trans (Keep2.turned (g := g) ht3))
  clear s2 hb2 hm3 ht3
  go_region
  go_wp2_with ((go_at_call 23; refine (dropI HS3.out k HW.out).mono ?_; rintro e w4 ⟨rfl, s4, t4⟩))
  go_ret
  exact ⟨rfl, s4, HK3.out.trans (Keep2.turned t4)⟩
end Go.Proofs.Ytagfehfggkehmaa

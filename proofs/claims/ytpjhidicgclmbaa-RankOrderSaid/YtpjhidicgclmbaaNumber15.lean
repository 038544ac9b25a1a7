/-
  What the document's steps look at.
-/
import Derived.Test.YtpjhidicgclmbaaSmall15
import Derived.Deep.QuietTactic
import Derived.BigQuiet
namespace Go.Proofs.Ytpjhidicgclmbaa
set_option linter.unusedVariables false
set_option linter.unusedSimpArgs false
open Go.RowKit

/-- A number of 32 bits, as a number of 64. -/
theorem wrap32 {x : Int} (h : 0 ≤ x ∧ x ≤ 4294967295) : IntKind.i64.wrap x = x := IntWalk.i64_in _ (by omega)
set_option maxRecDepth 100000 in
set_option maxHeartbeats 3200000 in
theorem number1 (c : Cv) (w : World) (h : c.In w w.heap.size) (hk : CntOk c) :
    Calls Try.prog 31 #[c.agg, .int .i64 1] w fun e w' => e = .returned (.int .i64 ((keyOf c 0).num 1)) ∧ Below w.heap.size w w' := by
  show Calls _ _ _ _ fun e w' => e = .returned (.int .i64 (-(prefN c))) ∧ Below w.heap.size w w'
  obtain ⟨h1, h2, h3, h4, h5, h6, h7, h8, h9⟩ := h
  obtain ⟨peer, ext, near, id, addr, org, pathA, pathC, path, next, med, pref, atomic, has, aas, aad, commsA, commsN, commsC, rawsA, rawsN, rawsC⟩ := c
  dsimp only at h1 h2 h3 h4 h5 h6 h7 h8 h9
  unfold Cv.agg Cv.row
  unfold CntOk at hk
  dsimp only at hk ⊢
  unfold prefN
  dsimp only
  clear h1 hk
  by_cases hp : pref < 0
  · rw [if_pos hp]
    go_enter Try.func31, Try.ntmps31
    go_wp2_with fail
    go_ret
    exact ⟨rfl, (Below.refl _ _).alloc (Nat.le_refl _) _⟩
  · rw [if_neg hp]
    go_enter Try.func31, Try.ntmps31
    go_wp2_with fail
    go_ret
    exact ⟨rfl, (Below.refl _ _).alloc (Nat.le_refl _) _⟩
set_option maxRecDepth 100000 in
set_option maxHeartbeats 3200000 in
theorem number2 (c : Cv) (w : World) (h : c.In w w.heap.size) (hk : CntOk c) :
    Calls Try.prog 31 #[c.agg, .int .i64 2] w fun e w' => e = .returned (.int .i64 ((keyOf c 0).num 2)) ∧ Below w.heap.size w w' := by
  show Calls _ _ _ _ fun e w' => e = .returned (.int .i64 ((cntN c.path : Nat))) ∧ Below w.heap.size w w'
  obtain ⟨h1, h2, h3, h4, h5, h6, h7, h8, h9⟩ := h
  obtain ⟨peer, ext, near, id, addr, org, pathA, pathC, path, next, med, pref, atomic, has, aas, aad, commsA, commsN, commsC, rawsA, rawsN, rawsC⟩ := c
  dsimp only at h1 h2 h3 h4 h5 h6 h7 h8 h9
  unfold Cv.agg Cv.row
  unfold CntOk at hk
  dsimp only at hk ⊢
  have hb0 := (Below.refl w.heap.size w).alloc (Nat.le_refl _) (.cells #[.int .i64 peer, .bool ext, .int .u32 near, .int .u32 id, .int .u32 addr, .int .i64 org, .slice pathA path.length pathC, .int .u32 next, .int .i64 med, .int .i64 pref, .bool atomic, .bool has, .int .u32 aas, .int .u32 aad, .slice commsA commsN commsC, .slice rawsA rawsN rawsC] 34)
  have q := RefCount_any pathA pathC path _ ((h1.below hb0 (Nat.le_refl _)).lift hb0.size) h2.1 h2.2 hk
  have Q := Lib.hid q
  have HB := Lib.hid hb0
  clear h1 h2 hk q hb0
  go_enter Try.func31, Try.ntmps31
  go_wp2_with fail
  refine Q.out.mono ?_
  rintro e w1 ⟨rfl, rfl⟩
  go_wp2_with fail
  go_ret
  exact ⟨rfl, HB.out⟩
set_option maxRecDepth 100000 in
set_option maxHeartbeats 3200000 in
theorem number3 (c : Cv) (w : World) (h : c.In w w.heap.size) (hk : CntOk c) :
    Calls Try.prog 31 #[c.agg, .int .i64 3] w fun e w' => e = .returned (.int .i64 ((keyOf c 0).num 3)) ∧ Below w.heap.size w w' := by
  show Calls _ _ _ _ fun e w' => e = .returned (.int .i64 (c.org)) ∧ Below w.heap.size w w'
  obtain ⟨h1, h2, h3, h4, h5, h6, h7, h8, h9⟩ := h
  obtain ⟨peer, ext, near, id, addr, org, pathA, pathC, path, next, med, pref, atomic, has, aas, aad, commsA, commsN, commsC, rawsA, rawsN, rawsC⟩ := c
  dsimp only at h1 h2 h3 h4 h5 h6 h7 h8 h9
  unfold Cv.agg Cv.row
  unfold CntOk at hk
  dsimp only at hk ⊢
  clear h1 hk
  go_enter Try.func31, Try.ntmps31
  go_wp2_with fail
  go_ret
  exact ⟨rfl, (Below.refl _ _).alloc (Nat.le_refl _) _⟩
set_option maxRecDepth 100000 in
set_option maxHeartbeats 3200000 in
theorem number4 (c : Cv) (w : World) (h : c.In w w.heap.size) (hk : CntOk c) :
    Calls Try.prog 31 #[c.agg, .int .i64 4] w fun e w' => e = .returned (.int .i64 ((keyOf c 0).num 4)) ∧ Below w.heap.size w w' := by
  show Calls _ _ _ _ fun e w' => e = .returned (.int .i64 (medN c)) ∧ Below w.heap.size w w'
  obtain ⟨h1, h2, h3, h4, h5, h6, h7, h8, h9⟩ := h
  obtain ⟨peer, ext, near, id, addr, org, pathA, pathC, path, next, med, pref, atomic, has, aas, aad, commsA, commsN, commsC, rawsA, rawsN, rawsC⟩ := c
  dsimp only at h1 h2 h3 h4 h5 h6 h7 h8 h9
  unfold Cv.agg Cv.row
  unfold CntOk at hk
  dsimp only at hk ⊢
  clear h1 hk
  by_cases hm : med < 0
  · have e : max med 0 = 0 := by omega
    unfold medN
    dsimp only
    rw [e]
    clear e
    go_enter Try.func31, Try.ntmps31
    go_wp2_with fail
    go_ret
    exact ⟨rfl, (Below.refl _ _).alloc (Nat.le_refl _) _⟩
  · have e : max med 0 = med := by omega
    unfold medN
    dsimp only
    rw [e]
    clear e
    go_enter Try.func31, Try.ntmps31
    go_wp2_with fail
    go_ret
    exact ⟨rfl, (Below.refl _ _).alloc (Nat.le_refl _) _⟩
set_option maxRecDepth 100000 in
set_option maxHeartbeats 3200000 in
theorem number5 (c : Cv) (w : World) (h : c.In w w.heap.size) (hk : CntOk c) :
    Calls Try.prog 31 #[c.agg, .int .i64 5] w fun e w' => e = .returned (.int .i64 ((keyOf c 0).num 5)) ∧ Below w.heap.size w w' := by
  show Calls _ _ _ _ fun e w' => e = .returned (.int .i64 (if c.ext then 0 else 1)) ∧ Below w.heap.size w w'
  obtain ⟨h1, h2, h3, h4, h5, h6, h7, h8, h9⟩ := h
  obtain ⟨peer, ext, near, id, addr, org, pathA, pathC, path, next, med, pref, atomic, has, aas, aad, commsA, commsN, commsC, rawsA, rawsN, rawsC⟩ := c
  dsimp only at h1 h2 h3 h4 h5 h6 h7 h8 h9
  unfold Cv.agg Cv.row
  unfold CntOk at hk
  dsimp only at hk ⊢
  clear h1 hk
  cases ext with
  | true =>
    go_enter Try.func31, Try.ntmps31
    go_wp2_with fail
    go_ret
    exact ⟨rfl, (Below.refl _ _).alloc (Nat.le_refl _) _⟩
  | false =>
    go_enter Try.func31, Try.ntmps31
    go_wp2_with fail
    go_ret
    exact ⟨rfl, (Below.refl _ _).alloc (Nat.le_refl _) _⟩
set_option maxRecDepth 100000 in
set_option maxHeartbeats 3200000 in
theorem number6 (c : Cv) (w : World) (h : c.In w w.heap.size) (hk : CntOk c) :
    Calls Try.prog 31 #[c.agg, .int .i64 6] w fun e w' => e = .returned (.int .i64 ((keyOf c 0).num 6)) ∧ Below w.heap.size w w' := by
  show Calls _ _ _ _ fun e w' => e = .returned (.int .i64 (c.id)) ∧ Below w.heap.size w w'
  obtain ⟨h1, h2, h3, h4, h5, h6, h7, h8, h9⟩ := h
  obtain ⟨peer, ext, near, id, addr, org, pathA, pathC, path, next, med, pref, atomic, has, aas, aad, commsA, commsN, commsC, rawsA, rawsN, rawsC⟩ := c
  dsimp only at h1 h2 h3 h4 h5 h6 h7 h8 h9
  unfold Cv.agg Cv.row
  unfold CntOk at hk
  dsimp only at hk ⊢
  have e := wrap32 h4
  clear h1 hk
  go_enter Try.func31, Try.ntmps31
  go_wp2_with fail
  go_ret
  exact ⟨rfl, (Below.refl _ _).alloc (Nat.le_refl _) _⟩
set_option maxRecDepth 100000 in
set_option maxHeartbeats 3200000 in
theorem number7 (c : Cv) (w : World) (h : c.In w w.heap.size) (hk : CntOk c) :
    Calls Try.prog 31 #[c.agg, .int .i64 7] w fun e w' => e = .returned (.int .i64 ((keyOf c 0).num 7)) ∧ Below w.heap.size w w' := by
  show Calls _ _ _ _ fun e w' => e = .returned (.int .i64 (c.addr)) ∧ Below w.heap.size w w'
  obtain ⟨h1, h2, h3, h4, h5, h6, h7, h8, h9⟩ := h
  obtain ⟨peer, ext, near, id, addr, org, pathA, pathC, path, next, med, pref, atomic, has, aas, aad, commsA, commsN, commsC, rawsA, rawsN, rawsC⟩ := c
  dsimp only at h1 h2 h3 h4 h5 h6 h7 h8 h9
  unfold Cv.agg Cv.row
  unfold CntOk at hk
  dsimp only at hk ⊢
  have e := wrap32 h5
  clear h1 hk
  go_enter Try.func31, Try.ntmps31
  go_wp2_with fail
  go_ret
  exact ⟨rfl, (Below.refl _ _).alloc (Nat.le_refl _) _⟩
set_option maxRecDepth 100000 in
set_option maxHeartbeats 3200000 in
theorem number8 (c : Cv) (w : World) (h : c.In w w.heap.size) (hk : CntOk c) :
    Calls Try.prog 31 #[c.agg, .int .i64 8] w fun e w' => e = .returned (.int .i64 ((keyOf c 0).num 8)) ∧ Below w.heap.size w w' := by
  show Calls _ _ _ _ fun e w' => e = .returned (.int .i64 (c.peer)) ∧ Below w.heap.size w w'
  obtain ⟨h1, h2, h3, h4, h5, h6, h7, h8, h9⟩ := h
  obtain ⟨peer, ext, near, id, addr, org, pathA, pathC, path, next, med, pref, atomic, has, aas, aad, commsA, commsN, commsC, rawsA, rawsN, rawsC⟩ := c
  dsimp only at h1 h2 h3 h4 h5 h6 h7 h8 h9
  unfold Cv.agg Cv.row
  unfold CntOk at hk
  dsimp only at hk ⊢
  clear h1 hk
  go_enter Try.func31, Try.ntmps31
  go_wp2_with fail
  go_ret
  exact ⟨rfl, (Below.refl _ _).alloc (Nat.le_refl _) _⟩
theorem number_any (c : Cv) (s : Nat) (w : World) (h : c.In w w.heap.size) (hk : CntOk c) (hs : 1 ≤ s ∧ s ≤ 8) :
    Calls Try.prog 31 #[c.agg, .int .i64 (s : Int)] w fun e w' => e = .returned (.int .i64 ((keyOf c 0).num s)) ∧ Below w.heap.size w w' := by
  have : s = 1 ∨ s = 2 ∨ s = 3 ∨ s = 4 ∨ s = 5 ∨ s = 6 ∨ s = 7 ∨ s = 8 := by omega
  rcases this with rfl | rfl | rfl | rfl | rfl | rfl | rfl | rfl
  · exact number1 c w h hk
  · exact number2 c w h hk
  · exact number3 c w h hk
  · exact number4 c w h hk
  · exact number5 c w h hk
  · exact number6 c w h hk
  · exact number7 c w h hk
  · exact number8 c w h hk
end Go.Proofs.Ytpjhidicgclmbaa

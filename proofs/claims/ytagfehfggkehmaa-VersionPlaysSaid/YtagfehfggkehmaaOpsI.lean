/-
  The calls of a store of versions (of int).
-/
import Derived.Test.YtagfehfggkehmaaVerI
import Derived.Deep.QuietTactic
import Derived.BigQuiet
import Derived.StillTailTactics
namespace Go.Proofs.Ytagfehfggkehmaa
set_option linter.unusedVariables false
set_option linter.unusedSimpArgs false
open Go.RowKit Go.Maps

theorem madeI {w : World} {g b n c : Nat} {h : Int} {F : Int → Option (Int × Int)} (s : StI w g b n h F c) :
    Calls Try.prog 22 #[.pointer (some ⟨g, 0, none⟩)] w fun e w' => e = .returned (.bool true) ∧ w = w' := by
  have c1 : w.cell? ⟨g, 1, none⟩ = some (.map (some b)) := s.blk.cell 1
  clear s
  have hnm : ∀ (r : Option Nat) (W : World), (binOp .neq 43 (.map r) (.map none)).run Try.prog W = .ok (.bool r.isSome) W := by intro r W; cases r <;> kernel_rfl
  go_enter Try.func22, Try.ntmps22
  go_wp2
  go_ret
  exact ⟨rfl, rfl⟩

/-- A store that there is none of, or that no call made. -/
def NoneI (w : World) (v : Value) : Prop := v = .pointer none ∨ ∃ g, v = .pointer (some ⟨g, 0, none⟩) ∧ Blk w g 45 [.int .i64 0, .map none]

theorem madeNoI {w : World} {v : Value} (s : NoneI w v) :
    Calls Try.prog 22 #[v] w fun e w' => e = .returned (.bool false) ∧ w = w' := by
  rcases s with rfl | ⟨g, rfl, s⟩
  · go_enter Try.func22, Try.ntmps22
    go_wp2
    go_ret
    exact ⟨rfl, rfl⟩
  · have c1 : w.cell? ⟨g, 1, none⟩ = some (.map none) := s.cell 1
    clear s
    have hnm : ∀ (r : Option Nat) (W : World), (binOp .neq 43 (.map r) (.map none)).run Try.prog W = .ok (.bool r.isSome) W := by intro r W; cases r <;> kernel_rfl
    go_enter Try.func22, Try.ntmps22
    go_wp2
    go_ret
    exact ⟨rfl, rfl⟩
theorem NoneI.below {w w' : World} {v : Value} (s : NoneI w v) (hb : Below w.heap.size w w') : NoneI w' v := by
  rcases s with rfl | ⟨g, rfl, s⟩
  · exact .inl rfl
  · exact .inr ⟨g, rfl, s.below hb s.lt⟩

/-- What a call tells of a version, and whether there is one. -/
def retGetI (v : Int × Int) (q : Bool) : Value := .tuple #[.agg #[.int .i64 v.1, .int .i64 v.2], .bool q]
def retAtI (v : Int × Int) (q : Bool) : Value := .tuple #[.int .i64 v.1, .bool q]
def atI (F : Int → Option (Int × Int)) (k : Int) : Int × Int := (F k).getD (0, 0)

set_option maxHeartbeats 1600000 in
theorem getI {w : World} {g b n c : Nat} {h : Int} {F : Int → Option (Int × Int)} (s : StI w g b n h F c) (k : Int) (hk : (Lit.int .i64 k).wf = true) :
    Calls Try.prog 24 #[.pointer (some ⟨g, 0, none⟩), .int .i64 k] w fun e w' => e = .returned (retGetI (atI F k) (F k).isSome) ∧ Below w.heap.size w w' := by
  have hb : Below w.heap.size w (w.alloc (.cells #[.int .i64 0, .int .i64 0] 49)) := (Below.refl _ _).alloc (Nat.le_refl _) _
  have s2 := s.below hb s.lt.1 s.lt.2
  have c1 : (w.alloc (.cells #[.int .i64 0, .int .i64 0] 49)).cell? ⟨g, 1, none⟩ = some (.map (some b)) := s2.blk.cell 1
  have hrun := s2.map.look true hk
  unfold atI
  obtain ⟨v, hv⟩ : ∃ v, v = (F k).getD (0, 0) := ⟨_, rfl⟩
  obtain ⟨q, hq⟩ : ∃ q, q = (F k).isSome := ⟨_, rfl⟩
  rw [← hv, ← hq] at hrun
  simp only [if_true] at hrun
  rw [← hv, ← hq]
  have H2 := Lib.hid s2
  have HB := Lib.hid hb
  obtain ⟨x, p⟩ := v
  dsimp only at hrun ⊢
  clear hv hq s s2 hb hk
  go_enter Try.func24, Try.ntmps24
  go_wp2_with ((go_at_call 22; refine (madeI H2.out).mono ?_; rintro e w1 ⟨rfl, rfl⟩))
  exact bodyPost_ret (v := retGetI (x, p) q) (by simp [results, Try.results24, go_sem, retGetI]) rfl ⟨rfl, ((Below.refl _ _).alloc (Nat.le_refl _) _).alloc (by simp) _⟩

set_option maxHeartbeats 1600000 in
theorem getNoI {w : World} {v : Value} (s : NoneI w v) (k : Int) :
    Calls Try.prog 24 #[v, .int .i64 k] w fun e w' => e = .returned (retGetI (0, 0) false) ∧ Below w.heap.size w w' := by
  have hb : Below w.heap.size w (w.alloc (.cells #[.int .i64 0, .int .i64 0] 49)) := (Below.refl _ _).alloc (Nat.le_refl _) _
  have H2 := Lib.hid (s.below hb)
  clear s hb
  go_enter Try.func24, Try.ntmps24
  go_wp2_with ((go_at_call 22; refine (madeNoI H2.out).mono ?_; rintro e w1 ⟨rfl, rfl⟩))
  exact bodyPost_ret (v := retGetI (0, 0) false) (by simp [results, Try.results24, go_sem, retGetI]) rfl ⟨rfl, (Below.refl _ _).alloc (Nat.le_refl _) _⟩

/-- At, out of get. -/
theorem AtI_of {w : World} {v : Value} {k : Int} {u : Int × Int} {q : Bool}
    (hget : Calls Try.prog 24 #[v, .int .i64 k] w fun e w' => e = .returned (retGetI u q) ∧ Below w.heap.size w w') :
    Calls Try.prog 15 #[v, .int .i64 k] w fun e w' => e = .returned (retAtI u q) ∧ Below w.heap.size w w' := by
  have HG := Lib.hid hget
  obtain ⟨x, p⟩ := u
  clear hget
  go_enter Try.func15, Try.ntmps15
  go_wp2_with ((go_at_call 24; refine HG.out.mono ?_; rintro e w1 ⟨rfl, hb1⟩; unfold retGetI))
  exact bodyPost_ret (v := retAtI (x, p) q) (by simp [results, Try.results15, go_sem, retAtI]) rfl ⟨rfl, hb1.alloc hb1.size _⟩

theorem LiveI {w : World} {g b n c : Nat} {h : Int} {F : Int → Option (Int × Int)} (s : StI w g b n h F c) :
    Calls Try.prog 18 #[.pointer (some ⟨g, 0, none⟩)] w fun e w' => e = .returned (.int .i64 (c : Int)) ∧ w = w' := by
  have c1 : w.cell? ⟨g, 1, none⟩ = some (.map (some b)) := s.blk.cell 1
  obtain ⟨D, ho, _, _, rfl⟩ := s.map
  have HS := Lib.hid s
  have HO := Lib.hid ho
  clear s ho
  go_enter Try.func18, Try.ntmps18
  go_wp2_with (first
    | (go_at_call 22; refine (madeI HS.out).mono ?_; rintro e w1 ⟨rfl, rfl⟩)
    | (at_len; refine wpList_len_own _ rfl _ 43 rfl 3 49 Try.underlying43 _ b n D rfl HO.out ?_))
  go_ret
  exact ⟨rfl, rfl⟩

theorem fieldVI (x : Int) (p : Int) (W : World) : (Instr.field 49 (.agg #[.int .i64 x, .int .i64 p]) 0).run Try.prog W = .ok (.int .i64 x) W := by kernel_rfl
theorem fieldPI (x : Int) (p : Int) (W : World) : (Instr.field 49 (.agg #[.int .i64 x, .int .i64 p]) 1).run Try.prog W = .ok (.int .i64 p) W := by kernel_rfl

set_option maxHeartbeats 1600000 in
theorem dropI {w : World} {g b n c : Nat} {h : Int} {F : Int → Option (Int × Int)} (s : StI w g b n h F c) (k : Int) (hk : (Lit.int .i64 k).wf = true) :
    Calls Try.prog 23 #[.pointer (some ⟨g, 0, none⟩), .int .i64 k] w fun e w' => e = .returned (.tuple #[]) ∧ StI w' g b n h (dropF F 0 h k) (dropC F 0 h k c) ∧ w.mapTurned w' b := by
  have c0 : w.cell? ⟨g, 0, none⟩ = some (.int .i64 h) := s.blk.cell 0
  have c1 : w.cell? ⟨g, 1, none⟩ = some (.map (some b)) := s.blk.cell 1
  have hrun := s.map.look false hk
  obtain ⟨D, ho, hh, ha, hs⟩ := s.map
  obtain ⟨v, hv⟩ : ∃ v, v = (F k).getD (0, 0) := ⟨_, rfl⟩
  have hd := drop_is F 0 h k c
  rw [← hv] at hrun hd
  have HS := Lib.hid s
  have HO := Lib.hid ho
  have HH := Lib.hid (And.intro hh (And.intro ha hs))
  have HK := Lib.hid hk
  have HKEY := Lib.hid (keyOf_int_mk (P := Try.prog) Try.underlying3 hk)
  obtain ⟨x, p⟩ := v
  simp only [Bool.false_eq_true, if_false] at hrun
  dsimp only at hrun hd
  have HD := Lib.hid hd
  clear hd hv s ho hh ha hs hk
  have hfp := fieldPI x p
  by_cases hkh : k = h
  · subst hkh
    have h1 : (k != k) = false := by simp
    go_enter Try.func23, Try.ntmps23
    go_wp2
    go_end0
    rw [(HD.out.2 (fun h => h.1 rfl)).1, (HD.out.2 (fun h => h.1 rfl)).2]
    exact ⟨rfl, HS.out, HO.out.turned_refl⟩
  · have h1 : (k != h) = true := by simpa using hkh
    have h2 : (k == h) = false := by simpa using hkh
    by_cases hp : p = 0
    · subst hp
      go_enter Try.func23, Try.ntmps23
      go_wp2_with (at_delete; refine wpList_delete_own _ rfl _ _ 43 3 rfl 49 lawI Try.underlying43 _ b n D rfl HO.out _ _ rfl HKEY.out ?_; intro w1 hown1 hturn1)
      go_end0
      rw [(HD.out.1 ⟨hkh, by first | rfl | trivial⟩).1, (HD.out.1 ⟨hkh, by first | rfl | trivial⟩).2]
      exact ⟨rfl, HS.out.turn (HS.out.map.del HK.out D HH.out.1 HH.out.2.1 HH.out.2.2 HO.out hown1) hturn1, hturn1⟩
    · have h3 : (p == 0) = false := by simpa using hp
      have h4 : (p != 0) = true := by simpa using hp
      go_enter Try.func23, Try.ntmps23
      go_wp2
      go_end0
      rw [(HD.out.2 (fun h => hp h.2)).1, (HD.out.2 (fun h => hp h.2)).2]
      exact ⟨rfl, HS.out, HO.out.turned_refl⟩
end Go.Proofs.Ytagfehfggkehmaa

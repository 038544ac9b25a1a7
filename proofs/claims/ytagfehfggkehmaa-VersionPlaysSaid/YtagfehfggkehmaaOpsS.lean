/-
  The calls of a store of versions (of string).
-/
import Derived.Test.YtagfehfggkehmaaVerS
import Derived.Deep.QuietTactic
import Derived.BigQuiet
import Derived.StillTailTactics
namespace Go.Proofs.Ytagfehfggkehmaa
set_option linter.unusedVariables false
set_option linter.unusedSimpArgs false
open Go.RowKit Go.Maps

theorem madeS {w : World} {g b n c : Nat} {h : Int} {F : Int → Option (ByteArray × Int)} (s : StS w g b n h F c) :
    Calls Try.prog 32 #[.pointer (some ⟨g, 0, none⟩)] w fun e w' => e = .returned (.bool true) ∧ w = w' := by
  have c1 : w.cell? ⟨g, 1, none⟩ = some (.map (some b)) := s.blk.cell 1
  clear s
  have hnm : ∀ (r : Option Nat) (W : World), (binOp .neq 61 (.map r) (.map none)).run Try.prog W = .ok (.bool r.isSome) W := by intro r W; cases r <;> kernel_rfl
  go_enter Try.func32, Try.ntmps32
  go_wp2
  go_ret
  exact ⟨rfl, rfl⟩

/-- A store that there is none of, or that no call made. -/
def NoneS (w : World) (v : Value) : Prop := v = .pointer none ∨ ∃ g, v = .pointer (some ⟨g, 0, none⟩) ∧ Blk w g 63 [.int .i64 0, .map none]

theorem madeNoS {w : World} {v : Value} (s : NoneS w v) :
    Calls Try.prog 32 #[v] w fun e w' => e = .returned (.bool false) ∧ w = w' := by
  rcases s with rfl | ⟨g, rfl, s⟩
  · go_enter Try.func32, Try.ntmps32
    go_wp2
    go_ret
    exact ⟨rfl, rfl⟩
  · have c1 : w.cell? ⟨g, 1, none⟩ = some (.map none) := s.cell 1
    clear s
    have hnm : ∀ (r : Option Nat) (W : World), (binOp .neq 61 (.map r) (.map none)).run Try.prog W = .ok (.bool r.isSome) W := by intro r W; cases r <;> kernel_rfl
    go_enter Try.func32, Try.ntmps32
    go_wp2
    go_ret
    exact ⟨rfl, rfl⟩
theorem NoneS.below {w w' : World} {v : Value} (s : NoneS w v) (hb : Below w.heap.size w w') : NoneS w' v := by
  rcases s with rfl | ⟨g, rfl, s⟩
  · exact .inl rfl
  · exact .inr ⟨g, rfl, s.below hb s.lt⟩

/-- What a call tells of a version, and whether there is one. -/
def retGetS (v : ByteArray × Int) (q : Bool) : Value := .tuple #[.agg #[.string v.1, .int .i64 v.2], .bool q]
def retAtS (v : ByteArray × Int) (q : Bool) : Value := .tuple #[.string v.1, .bool q]
def atS (F : Int → Option (ByteArray × Int)) (k : Int) : ByteArray × Int := (F k).getD ((⟨#[]⟩ : ByteArray), 0)

set_option maxHeartbeats 1600000 in
theorem getS {w : World} {g b n c : Nat} {h : Int} {F : Int → Option (ByteArray × Int)} (s : StS w g b n h F c) (k : Int) (hk : (Lit.int .i64 k).wf = true) :
    Calls Try.prog 34 #[.pointer (some ⟨g, 0, none⟩), .int .i64 k] w fun e w' => e = .returned (retGetS (atS F k) (F k).isSome) ∧ Below w.heap.size w w' := by
  have hb : Below w.heap.size w (w.alloc (.cells #[.string (⟨#[]⟩ : ByteArray), .int .i64 0] 60)) := (Below.refl _ _).alloc (Nat.le_refl _) _
  have s2 := s.below hb s.lt.1 s.lt.2
  have c1 : (w.alloc (.cells #[.string (⟨#[]⟩ : ByteArray), .int .i64 0] 60)).cell? ⟨g, 1, none⟩ = some (.map (some b)) := s2.blk.cell 1
  have hrun := s2.map.look true hk
  unfold atS
  obtain ⟨v, hv⟩ : ∃ v, v = (F k).getD ((⟨#[]⟩ : ByteArray), 0) := ⟨_, rfl⟩
  obtain ⟨q, hq⟩ : ∃ q, q = (F k).isSome := ⟨_, rfl⟩
  rw [← hv, ← hq] at hrun
  simp only [if_true] at hrun
  rw [← hv, ← hq]
  have H2 := Lib.hid s2
  have HB := Lib.hid hb
  obtain ⟨x, p⟩ := v
  dsimp only at hrun ⊢
  clear hv hq s s2 hb hk
  go_enter Try.func34, Try.ntmps34
  go_wp2_with ((go_at_call 32; refine (madeS H2.out).mono ?_; rintro e w1 ⟨rfl, rfl⟩))
  exact bodyPost_ret (v := retGetS (x, p) q) (by simp [results, Try.results34, go_sem, retGetS]) rfl ⟨rfl, ((Below.refl _ _).alloc (Nat.le_refl _) _).alloc (by simp) _⟩

set_option maxHeartbeats 1600000 in
theorem getNoS {w : World} {v : Value} (s : NoneS w v) (k : Int) :
    Calls Try.prog 34 #[v, .int .i64 k] w fun e w' => e = .returned (retGetS ((⟨#[]⟩ : ByteArray), 0) false) ∧ Below w.heap.size w w' := by
  have hb : Below w.heap.size w (w.alloc (.cells #[.string (⟨#[]⟩ : ByteArray), .int .i64 0] 60)) := (Below.refl _ _).alloc (Nat.le_refl _) _
  have H2 := Lib.hid (s.below hb)
  clear s hb
  go_enter Try.func34, Try.ntmps34
  go_wp2_with ((go_at_call 32; refine (madeNoS H2.out).mono ?_; rintro e w1 ⟨rfl, rfl⟩))
  exact bodyPost_ret (v := retGetS ((⟨#[]⟩ : ByteArray), 0) false) (by simp [results, Try.results34, go_sem, retGetS]) rfl ⟨rfl, (Below.refl _ _).alloc (Nat.le_refl _) _⟩

/-- At, out of get. -/
theorem AtS_of {w : World} {v : Value} {k : Int} {u : ByteArray × Int} {q : Bool}
    (hget : Calls Try.prog 34 #[v, .int .i64 k] w fun e w' => e = .returned (retGetS u q) ∧ Below w.heap.size w w') :
    Calls Try.prog 29 #[v, .int .i64 k] w fun e w' => e = .returned (retAtS u q) ∧ Below w.heap.size w w' := by
  have HG := Lib.hid hget
  obtain ⟨x, p⟩ := u
  clear hget
  go_enter Try.func29, Try.ntmps29
  go_wp2_with ((go_at_call 34; refine HG.out.mono ?_; rintro e w1 ⟨rfl, hb1⟩; unfold retGetS))
  exact bodyPost_ret (v := retAtS (x, p) q) (by simp [results, Try.results29, go_sem, retAtS]) rfl ⟨rfl, hb1.alloc hb1.size _⟩

theorem LiveS {w : World} {g b n c : Nat} {h : Int} {F : Int → Option (ByteArray × Int)} (s : StS w g b n h F c) :
    Calls Try.prog 31 #[.pointer (some ⟨g, 0, none⟩)] w fun e w' => e = .returned (.int .i64 (c : Int)) ∧ w = w' := by
  have c1 : w.cell? ⟨g, 1, none⟩ = some (.map (some b)) := s.blk.cell 1
  obtain ⟨D, ho, _, _, rfl⟩ := s.map
  have HS := Lib.hid s
  have HO := Lib.hid ho
  clear s ho
  go_enter Try.func31, Try.ntmps31
  go_wp2_with (first
    | (go_at_call 32; refine (madeS HS.out).mono ?_; rintro e w1 ⟨rfl, rfl⟩)
    | (at_len; refine wpList_len_own _ rfl _ 61 rfl 3 60 Try.underlying61 _ b n D rfl HO.out ?_))
  go_ret
  exact ⟨rfl, rfl⟩

theorem fieldVS (x : ByteArray) (p : Int) (W : World) : (Instr.field 60 (.agg #[.string x, .int .i64 p]) 0).run Try.prog W = .ok (.string x) W := by kernel_rfl
theorem fieldPS (x : ByteArray) (p : Int) (W : World) : (Instr.field 60 (.agg #[.string x, .int .i64 p]) 1).run Try.prog W = .ok (.int .i64 p) W := by kernel_rfl

set_option maxHeartbeats 1600000 in
theorem dropS {w : World} {g b n c : Nat} {h : Int} {F : Int → Option (ByteArray × Int)} (s : StS w g b n h F c) (k : Int) (hk : (Lit.int .i64 k).wf = true) :
    Calls Try.prog 33 #[.pointer (some ⟨g, 0, none⟩), .int .i64 k] w fun e w' => e = .returned (.tuple #[]) ∧ StS w' g b n h (dropF F (⟨#[]⟩ : ByteArray) h k) (dropC F (⟨#[]⟩ : ByteArray) h k c) ∧ w.mapTurned w' b := by
  have c0 : w.cell? ⟨g, 0, none⟩ = some (.int .i64 h) := s.blk.cell 0
  have c1 : w.cell? ⟨g, 1, none⟩ = some (.map (some b)) := s.blk.cell 1
  have hrun := s.map.look false hk
  obtain ⟨D, ho, hh, ha, hs⟩ := s.map
  obtain ⟨v, hv⟩ : ∃ v, v = (F k).getD ((⟨#[]⟩ : ByteArray), 0) := ⟨_, rfl⟩
  have hd := drop_is F (⟨#[]⟩ : ByteArray) h k c
  rw [← hv] at hrun hd
  have HS := Lib.hid s
  have HO := Lib.hid ho
  have HH := Lib.hid (And.intro hh (And.intro ha hs))
  have HK := Lib.hid hk
  have HKEY := Lib.hid (keyOf_int_mk (P := Try.prog) Try.underlying3 hk)
  obtain ⟨x, p⟩ := v
  simp only [Bool.false_eq_true, if_false] at hrun
  dsimp only at hrun hd
  have HD := Lib.hid hd
  clear hd hv s ho hh ha hs hk
  have hfp := fieldPS x p
  by_cases hkh : k = h
  · subst hkh
    have h1 : (k != k) = false := by simp
    go_enter Try.func33, Try.ntmps33
    go_wp2
    go_end0
    rw [(HD.out.2 (fun h => h.1 rfl)).1, (HD.out.2 (fun h => h.1 rfl)).2]
    exact ⟨rfl, HS.out, HO.out.turned_refl⟩
  · have h1 : (k != h) = true := by simpa using hkh
    have h2 : (k == h) = false := by simpa using hkh
    by_cases hp : p = 0
    · subst hp
      go_enter Try.func33, Try.ntmps33
      go_wp2_with (at_delete; refine wpList_delete_own _ rfl _ _ 61 3 rfl 60 lawS Try.underlying61 _ b n D rfl HO.out _ _ rfl HKEY.out ?_; intro w1 hown1 hturn1)
      go_end0
      rw [(HD.out.1 ⟨hkh, by first | rfl | trivial⟩).1, (HD.out.1 ⟨hkh, by first | rfl | trivial⟩).2]
      exact ⟨rfl, HS.out.turn (HS.out.map.del HK.out D HH.out.1 HH.out.2.1 HH.out.2.2 HO.out hown1) hturn1, hturn1⟩
    · have h3 : (p == 0) = false := by simpa using hp
      have h4 : (p != 0) = true := by simpa using hp
      go_enter Try.func33, Try.ntmps33
      go_wp2
      go_end0
      rw [(HD.out.2 (fun h => hp h.2)).1, (HD.out.2 (fun h => hp h.2)).2]
      exact ⟨rfl, HS.out, HO.out.turned_refl⟩
end Go.Proofs.Ytagfehfggkehmaa

/-
  A stream: what was fed, and not taken.
-/
import Derived.Test.YtjhmkapafhgofaaDoorTail7
import Derived.Test.YtjhmkapafhgofaaDoorNext7
import Derived.Test.YtjhmkapafhgofaaDoorAllF7
namespace Go.Proofs.YtjhmkapafhgofaaDoor
set_option linter.unusedVariables false
set_option linter.unusedSimpArgs false
open Go.RowKit

/-- Block g holds a stream without a fault, with R in it, in the slice v. -/
def StOk (w : World) (g : Nat) (v : Value) (R : List UInt8) : Prop := Blk w g 55 [v, .int .i64 0, .int .i64 0, .slice none 0 0] ∧ Tl w (g + 1) v R
/-- Block g holds a stream with a fault. -/
def StBad (w : World) (g U : Nat) (D : List UInt8) : Prop :=
  ∃ (A : Option Addr) (dc : Nat), Blk w g 55 [.slice none 0 0, .int .i64 1, .int .i64 (U : Int), .slice A D.length dc] ∧ D.length ≤ dc ∧ dc ≤ maxLen ∧ Own w (g + 1) 5 (.slice A D.length dc) D
/-- Nothing has turned but the stream, and the block of what is in it. -/
structure Keep (w w' : World) (g : Nat) (v v' : Value) : Prop where
  os : w'.os = w.os
  tape : w'.tape = w.tape
  output : w'.output = w.output
  size : w.heap.size ≤ w'.heap.size
  block : ∀ k, k < w.heap.size → k ≠ g → v.ownBlock ≠ some k → w'.heap[k]? = w.heap[k]?
  own : v'.ownBlock = v.ownBlock ∨ ∀ k, v'.ownBlock = some k → w.heap.size ≤ k
theorem Keep.refl (w : World) (g : Nat) (v : Value) : Keep w w g v v := ⟨rfl, rfl, rfl, Nat.le_refl _, fun _ _ _ _ => rfl, .inl rfl⟩
theorem Keep.trans {w1 w2 w3 : World} {g : Nat} {v v' v'' : Value} (h : Keep w1 w2 g v v') (k : Keep w2 w3 g v' v'') : Keep w1 w3 g v v'' := by
  refine ⟨k.os.trans h.os, k.tape.trans h.tape, k.output.trans h.output, Nat.le_trans h.size k.size, fun i hi hg hv => ?_, ?_⟩
  · refine (k.block i (Nat.lt_of_lt_of_le hi h.size) hg (fun e => ?_)).trans (h.block i hi hg hv)
    rcases h.own with ho | ho
    · exact hv (ho ▸ e)
    · have := ho i e; omega
  · rcases k.own with ho | ho
    · rcases h.own with ho' | ho'
      · exact .inl (ho.trans ho')
      · exact .inr fun i hi => ho' i (ho ▸ hi)
    · exact .inr fun i hi => Nat.le_trans h.size (ho i hi)
theorem Keep.below {w w' : World} {g B : Nat} {v v' : Value} (h : Keep w w' g v v') (hg : B ≤ g) (hv : ∀ k, v.ownBlock = some k → B ≤ k) (hB : B ≤ w.heap.size) : Below B w w' :=
  ⟨h.os, h.tape, h.output, h.size, fun k hk => h.block k (by omega) (by omega) (fun e => by have := hv k e; omega)⟩
theorem Keep.of_below {w w' : World} {g : Nat} {v : Value} (h : Below w.heap.size w w') : Keep w w' g v v := ⟨h.os, h.tape, h.output, h.size, fun k hk _ _ => h.block k hk, .inl rfl⟩
theorem Keep.set {w w' : World} {g : Nat} {v v' : Value} (h : Keep w w' g v v') (o : Nat) (u : Value) (v'' : Value) (hv : v''.ownBlock = v'.ownBlock ∨ v''.ownBlock = none) : Keep w (w'.setCell ⟨g, o, none⟩ u) g v v'' := by
  refine ⟨h.os, h.tape, h.output, by simpa [World.setCell] using h.size, fun k hk hg hk' => ?_, ?_⟩
  · exact (Below.heap_setCell w' ⟨g, o, none⟩ u k (fun e => hg (by simp [e]))).trans (h.block k hk hg hk')
  · rcases hv with hv | hv
    · rw [hv]; exact h.own
    · exact .inr fun k e => by rw [hv] at e; cases e
theorem Keep.drew {w w' : World} {g : Nat} {v v' : Value} (h : Keep w w' g v v') : Keep w w'.drew g v v' := ⟨h.os, h.tape, h.output, h.size, h.block, h.own⟩

theorem StOk.lt {w : World} {g : Nat} {v : Value} {R : List UInt8} (h : StOk w g v R) : g < w.heap.size := h.1.lt
theorem StOk.below {w w' : World} {g : Nat} {v : Value} {R : List UInt8} (h : StOk w g v R) (hb : Below w.heap.size w w') : StOk w' g v R := ⟨h.1.below hb h.1.lt, h.2.below hb⟩
theorem StBad.below {w w' : World} {g U : Nat} {D : List UInt8} (h : StBad w g U D) (hb : Below w.heap.size w w') : StBad w' g U D := by
  obtain ⟨A, dc, hk, f, q, ho⟩ := h
  exact ⟨A, dc, hk.below hb hk.lt, f, q, ho.below hb⟩
theorem StOk.own {w : World} {g k : Nat} {v : Value} {R : List UInt8} (h : StOk w g v R) (hk : v.ownBlock = some k) : g < k ∧ k < w.heap.size := by have := h.2.lt hk; omega

set_option maxHeartbeats 1600000 in
theorem Feed_any (g : Nat) (v : Value) (R : List UInt8) (A : Option Addr) (c : Nat) (m : List UInt8) (w : World) (h : StOk w g v R) (hm : Bytes w A m) (hsz : R.length + m.length ≤ 1000000000) :
    Calls Tryd.prog 18 #[.pointer (some ⟨g, 0, none⟩), .slice A m.length c] w fun e w' => e = .returned (.tuple #[]) ∧ ∃ v', StOk w' g v' (R ++ m) ∧ Keep w w' g v v' := by
  obtain ⟨hk, ht⟩ := h
  have c0 : w.cell? ⟨g, 0, none⟩ = some v := hk.cell 0
  have c1 : w.cell? ⟨g, 1, none⟩ = some (.int .i64 0) := hk.cell 1
  have f0 : w.frozen? ⟨g, 0, none⟩ = false := hk.free 0
  obtain ⟨Av, cv, rfl, fv, gv, _⟩ := ht.form
  have HK := Lib.hid hk; have HT := Lib.hid ht; have HM := Lib.hid hm; have HSZ := Lib.hid hsz
  clear hk ht hm fv hsz
  go_enter Tryd.func18, Tryd.ntmps18
  go_wp2_with (at_builtin; refine wpList_append_tail isBytes rfl (.tmp 18) (.tmp 19) rfl (g + 1) _ R rfl HT.out HK.out.lt A m _ c rfl rfl HM.out HSZ.out ?_)
  intro v' w1 ht1 hg1 hn1
  have hk1 : Blk w1 g 55 [.slice Av R.length cv, .int .i64 0, .int .i64 0, .slice none 0 0] :=
    (hg1.block g HK.out.lt (fun e => by have := (HT.out.lt e.symm).1; omega)).trans HK.out
  have c2 : w1.cell? ⟨g, 0, none⟩ = some (.slice Av R.length cv) := hk1.cell 0
  have f2 : w1.frozen? ⟨g, 0, none⟩ = false := hk1.free 0
  obtain ⟨A2, c9, rfl, _, _, _⟩ := ht1.form
  obtain ⟨N, hN⟩ : ∃ N, N = (R ++ m).length := ⟨_, rfl⟩
  rw [← hN] at ht1 hn1
  simp only [← hN]
  clear hN
  have HK1 := Lib.hid hk1; have HT1 := Lib.hid ht1
  have HKE := Lib.hid (show Keep w w1 g (.slice Av R.length cv) (.slice A2 N c9) from ⟨hg1.os, hg1.tape, hg1.output, hg1.size, fun k hk _ hv => hg1.block k hk (fun e => hv e.symm), hn1⟩)
  clear hk1 ht1 hg1 hn1 c0 c1 f0
  go_wp2_with fail
  go_end0
  exact ⟨rfl, _, ⟨HK1.out.set 0 (.slice A2 N c9), HT1.out.beside (grown_setCell (grown_refl _ _) _ _) (Nat.lt_succ_self _)⟩, HKE.out.set 0 _ _ (.inl rfl)⟩
/-- A stream with a fault takes nothing more. -/
theorem FeedBad_any (g U : Nat) (D : List UInt8) (A : Option Addr) (n c : Nat) (w : World) (h : StBad w g U D) :
    Calls Tryd.prog 18 #[.pointer (some ⟨g, 0, none⟩), .slice A n c] w fun e w' => e = .returned (.tuple #[]) ∧ w = w' := by
  obtain ⟨A1, dc, hk, f, q, ho⟩ := h
  have c1 : w.cell? ⟨g, 1, none⟩ = some (.int .i64 1) := hk.cell 1
  clear hk ho f q
  go_enter Tryd.func18, Tryd.ntmps18
  go_wp2_with fail
  refine bodyPost_ret (results_none rfl _ _ _) rfl ?_
  exact ⟨rfl, rfl⟩
theorem FeedNil_any (A : Option Addr) (n c : Nat) (w : World) :
    Calls Tryd.prog 18 #[.pointer none, .slice A n c] w fun e w' => e = .returned (.tuple #[]) ∧ w = w' := by
  go_enter Tryd.func18, Tryd.ntmps18
  go_wp2_with fail
  refine bodyPost_ret (results_none rfl _ _ _) rfl ?_
  exact ⟨rfl, rfl⟩
theorem NextNil_any (w : World) :
    Calls Tryd.prog 19 #[.pointer none] w fun e w' => e = .returned (.tuple #[.int .i64 0, .slice none 0 0, .bool false]) ∧ w = w' := by
  go_enter Tryd.func19, Tryd.ntmps19
  go_wp2_with fail
  go_ret3
  exact ⟨rfl, rfl⟩
theorem LeftNil_any (w : World) : Calls Tryd.prog 22 #[.pointer none] w fun e w' => e = .returned (.int .i64 0) ∧ w = w' := by
  go_enter Tryd.func22, Tryd.ntmps22
  go_wp2_with fail
  go_ret
  exact ⟨rfl, rfl⟩
theorem FaultNil_any (w : World) : Calls Tryd.prog 21 #[.pointer none] w fun e w' => e = .returned (.agg #[.int .i64 0, .int .i64 0, .slice none 0 0]) ∧ Below w.heap.size w w' := by
  go_enter Tryd.func21, Tryd.ntmps21
  go_wp2_with fail
  exact bodyPost_ret (v := .agg #[.int .i64 0, .int .i64 0, .slice none 0 0]) (by simp [results, Tryd.results21, go_sem]) rfl ⟨rfl, (Below.refl _ _).alloc (Nat.le_refl _) _⟩

/-- What the stream's Next leaves, where there is no fault ahead of it. -/
def SNext (w : World) (g : Nat) (v : Value) (R : List UInt8) (x : Nx) (e : Ending) (w' : World) : Prop :=
  (x.code = 0 ∧ ∃ v' A c, e = .returned (.tuple #[.int .i64 (x.kind : Int), .slice A x.body.length c, .bool (decide (0 < x.size))]) ∧ StOk w' g v' (R.drop x.size) ∧ Keep w w' g v v' ∧
    x.body.length ≤ c ∧ c ≤ maxLen ∧ Own w' w.heap.size 5 (.slice A x.body.length c) x.body ∧ (v'.ownBlock = v.ownBlock)) ∨
  (x.code = 1 ∧ e = .returned (.tuple #[.int .i64 0, .slice none 0 0, .bool false]) ∧ StBad w' g x.sub x.data ∧ Keep w w' g v (.slice none 0 0))

theorem block_add (A : Option Addr) (S n c n' c' : Nat) : (Value.slice (A.map (·.add S)) n c).ownBlock = (Value.slice A n' c').ownBlock := by
  cases A with
  | none => rfl
  | some a =>
    show some (a.add S).block = some a.block
    unfold Addr.add
    split <;> rfl
theorem snext_ok {w W : World} {g : Nat} {A A' A1 : Option Addr} {R Bd : List UInt8} {c c' n' S c1 K : Nat} {U : Nat} {D : List UInt8} {b : Bool} (hs : StOk W g (.slice A R.length c) R) (hb : Below w.heap.size w W) (hg : g < w.heap.size)
    (ht : Tl (W.setCell ⟨g, 0, none⟩ (.slice A' n' c')) (g + 1) (.slice A R.length c) R → Tl (W.setCell ⟨g, 0, none⟩ (.slice A' n' c')) (g + 1) (.slice A' n' c') (R.drop S)) (p1 : Bd.length ≤ c1) (p2 : c1 ≤ maxLen)
    (ho : Own W w.heap.size 5 (.slice A1 Bd.length c1) Bd) (hbl : b = decide (0 < S)) (hA : (Value.slice A' n' c').ownBlock = (Value.slice A R.length c).ownBlock) :
    SNext w g (.slice A R.length c) R ⟨K, Bd, S, 0, U, D⟩ (.returned (.tuple #[.int .i64 (K : Int), .slice A1 Bd.length c1, .bool b])) (W.setCell ⟨g, 0, none⟩ (.slice A' n' c')) := by
  subst hbl
  refine .inl ⟨rfl, _, A1, c1, rfl, ⟨hs.1.set 0 (.slice A' n' c'), ht (hs.2.beside (grown_setCell (grown_refl _ _) _ _) (Nat.lt_succ_self _))⟩, ?_, p1, p2, ho.beside (grown_setCell (grown_refl _ _) _ _) hg, hA⟩
  exact (Keep.of_below hb).set 0 _ _ (.inl hA)

set_option maxHeartbeats 3200000 in
theorem SNext_any (g : Nat) (v : Value) (R : List UInt8) (w : World) (h : StOk w g v R) (hm : R.length ≤ 1000000) (ht : TabL w) :
    Calls Tryd.prog 19 #[.pointer (some ⟨g, 0, none⟩)] w (SNext w g v R (nextF R)) := by
  have HS := Lib.hid h
  have c0 : w.cell? ⟨g, 0, none⟩ = some v := h.1.cell 0
  obtain ⟨A, c, rfl, f1, g1, hy⟩ := h.2.form
  have q := Next_any A c R w hy f1 g1 hm ht
  have hx := nextF_size R
  have hcc := nextF_code R
  obtain ⟨x, hxe⟩ : ∃ x, x = nextF R := ⟨_, rfl⟩
  rw [← hxe] at q hx hcc ⊢
  clear hxe
  obtain ⟨K, Bd, S, C, U, D⟩ := x
  dsimp only at hx hcc
  have Q := Lib.hid q
  have hm1 : c ≤ 9223372036854775807 := by unfold maxLen at g1; omega
  clear q h hy
  have hxs := hx.1
  rcases hcc with rfl | rfl
  · clear hx
    have hSc : (S : Int) ≤ (c : Int) := by omega
    have HTD := Lib.hid (fun (w' : World) (h : Tl w' (g + 1) (.slice A R.length c) R) => h.drop hxs)
    by_cases hc : c = S
    · subst hc
      have hrc : R.length - c = 0 := by omega
      have HTE := Lib.hid (fun (w' : World) (h : Tl w' (g + 1) (.slice A R.length c) R) => (show Tl w' (g + 1) (.slice A 0 0) (R.drop c) from by
        have h1 := HTD.out w' h
        first | rw [if_pos trivial] at h1 | rw [if_pos rfl] at h1
        rw [hrc, Nat.sub_self] at h1
        exact h1))
      clear hrc HTD
      go_enter Tryd.func19, Tryd.ntmps19
      go_wp2_with fail
      refine Q.out.mono ?_
      rintro e w1 ⟨hb1, A1, c1, A2, c2, rfl, ⟨p1, q1, ho1⟩, ⟨p2, q2, ho2⟩⟩
      dsimp only at p1 ho1 p2 ho2
      have hal := (Below.refl w1.heap.size w1).alloc (Nat.le_refl _) (.cells #[.int .i64 0, .int .i64 (U : Int), .slice A2 D.length c2] 33)
      have hb1' := hb1.trans (hal.mono hb1.size)
      have hs1 := HS.out.below hb1'
      have k0 : World.cell? _ ⟨g, 0, none⟩ = some _ := hs1.1.cell 0
      have kf0 : World.frozen? _ ⟨g, 0, none⟩ = false := hs1.1.free 0
      have HS1 := Lib.hid hs1; have HB1 := Lib.hid hb1'; have HO1 := Lib.hid (ho1.below hal); have HP := Lib.hid (And.intro p1 q1)
      have HGL := Lib.hid HS.out.lt
      clear hs1 hb1' hb1 ho1 ho2 hal p1 q1 p2 q2 Q c0
      go_wp2_with fail
      go_ret3
      exact snext_ok HS1.out HB1.out HGL.out (HTE.out _) HP.out.1 HP.out.2 HO1.out (by simp) (by cases A <;> rfl)
    · have HTE := Lib.hid (fun (w' : World) (h : Tl w' (g + 1) (.slice A R.length c) R) => (show Tl w' (g + 1) (.slice (A.map (·.add S)) (R.length - S) (c - S)) (R.drop S) from by
        have h1 := HTD.out w' h
        rw [if_neg hc] at h1
        exact h1))
      clear HTD
      go_enter Tryd.func19, Tryd.ntmps19
      go_wp2_with fail
      refine Q.out.mono ?_
      rintro e w1 ⟨hb1, A1, c1, A2, c2, rfl, ⟨p1, q1, ho1⟩, ⟨p2, q2, ho2⟩⟩
      dsimp only at p1 ho1 p2 ho2
      have hal := (Below.refl w1.heap.size w1).alloc (Nat.le_refl _) (.cells #[.int .i64 0, .int .i64 (U : Int), .slice A2 D.length c2] 33)
      have hb1' := hb1.trans (hal.mono hb1.size)
      have hs1 := HS.out.below hb1'
      have k0 : World.cell? _ ⟨g, 0, none⟩ = some _ := hs1.1.cell 0
      have kf0 : World.frozen? _ ⟨g, 0, none⟩ = false := hs1.1.free 0
      have HS1 := Lib.hid hs1; have HB1 := Lib.hid hb1'; have HO1 := Lib.hid (ho1.below hal); have HP := Lib.hid (And.intro p1 q1)
      have HGL := Lib.hid HS.out.lt
      clear hs1 hb1' hb1 ho1 ho2 hal p1 q1 p2 q2 Q c0
      go_wp2_with fail
      go_ret3
      exact snext_ok HS1.out HB1.out HGL.out (HTE.out _) HP.out.1 HP.out.2 HO1.out (by simp) (block_add _ _ _ _ _ _)
  · clear hx
    go_enter Tryd.func19, Tryd.ntmps19
    go_wp2_with fail
    refine Q.out.mono ?_
    rintro e w1 ⟨hb1, A1, c1, A2, c2, rfl, ⟨p1, q1, ho1⟩, ⟨p2, q2, ho2⟩⟩
    dsimp only at p1 ho1 p2 ho2
    have hal := (Below.refl w1.heap.size w1).alloc (Nat.le_refl _) (.cells #[.int .i64 1, .int .i64 (U : Int), .slice A2 D.length c2] 33)
    have hb1' := hb1.trans (hal.mono hb1.size)
    have hs1 := HS.out.below hb1'
    have k0 : World.cell? _ ⟨g, 0, none⟩ = some _ := hs1.1.cell 0
    have k1 : World.cell? _ ⟨g, 1, none⟩ = some _ := hs1.1.cell 1
    have k2 : World.cell? _ ⟨g, 2, none⟩ = some _ := hs1.1.cell 2
    have k3 : World.cell? _ ⟨g, 3, none⟩ = some _ := hs1.1.cell 3
    have kf0 : World.frozen? _ ⟨g, 0, none⟩ = false := hs1.1.free 0
    have kf1 : World.frozen? _ ⟨g, 1, none⟩ = false := hs1.1.free 1
    have kf2 : World.frozen? _ ⟨g, 2, none⟩ = false := hs1.1.free 2
    have kf3 : World.frozen? _ ⟨g, 3, none⟩ = false := hs1.1.free 3
    have HS1 := Lib.hid hs1; have HB1 := Lib.hid hb1'; have HO2 := Lib.hid (ho2.below hal); have HP := Lib.hid (And.intro p2 q2)
    have hne1 : w1.heap.size ≠ g := fun e => by have := HS.out.lt; have := hb1.size; omega
    have hne2 : g ≠ w1.heap.size := fun e => hne1 e.symm
    have HGL := Lib.hid HS.out.lt
    clear hs1 hb1' hb1 ho1 ho2 hal p1 q1 p2 q2 Q c0
    go_wp2_with fail
    go_region
    all_goals (go_wp2_with fail)
    have hgr : (w1.alloc (.cells #[.int .i64 1, .int .i64 (U : Int), .slice A2 D.length c2] 33)).grownBy (((((w1.alloc (.cells #[.int .i64 1, .int .i64 (U : Int), .slice A2 D.length c2] 33)).setCell ⟨g, 0, none⟩ (.slice none 0 0)).setCell ⟨g, 1, none⟩ (.int .i64 1)).setCell ⟨g, 2, none⟩ (.int .i64 (U : Int))).setCell ⟨g, 3, none⟩ (.slice A2 D.length c2)) (some g) :=
      grown_setCell (grown_setCell (grown_setCell (grown_setCell (grown_refl _ _) _ _) _ _) _ _) _ _
    have hke : Keep w ((((w1.alloc (.cells #[.int .i64 1, .int .i64 (U : Int), .slice A2 D.length c2] 33)).setCell ⟨g, 0, none⟩ (.slice none 0 0)).setCell ⟨g, 1, none⟩ (.int .i64 1)).setCell ⟨g, 2, none⟩ (.int .i64 (U : Int))) g (.slice A R.length c) (.slice none 0 0) :=
      (((Keep.of_below HB1.out).set 0 _ (.slice none 0 0) (.inr rfl)).set 1 _ (.slice none 0 0) (.inl rfl)).set 2 _ (.slice none 0 0) (.inl rfl)
    go_ret3
    exact .inr ⟨rfl, rfl, ⟨A2, c2, ((((HS1.out.1.set 0 (.slice none 0 0)).set 1 (.int .i64 1)).set 2 (.int .i64 (U : Int))).set 3 (.slice A2 D.length c2)).drewN 1, HP.out.1, HP.out.2, ((HO2.out.beside hgr HGL.out).lower HGL.out).drew⟩, (hke.set 3 _ (.slice none 0 0) (.inl rfl)).drew⟩
/-- The stream's Next where there is a fault. -/
theorem SNextBad_any (g U : Nat) (D : List UInt8) (w : World) (h : StBad w g U D) (ht : TabL w) :
    Calls Tryd.prog 19 #[.pointer (some ⟨g, 0, none⟩)] w fun e w' => (∃ A c, e = .returned (.tuple #[.int .i64 0, .slice A 0 c, .bool false])) ∧ StBad w' g U D ∧ Keep w w' g (.slice none 0 0) (.slice none 0 0) := by
  obtain ⟨A, dc, hk, f, q, ho⟩ := h
  have c0 : w.cell? ⟨g, 0, none⟩ = some (.slice none 0 0) := hk.cell 0
  have HQ := Lib.hid (next_short none 0 [] w (by decide))
  have hN : nextF [] = ⟨0, [], 0, 0, 0, []⟩ := nextF_short (by decide)
  have HK := Lib.hid hk; have HO := Lib.hid ho; have HF := Lib.hid (And.intro f q)
  have Q := Lib.hid (show Calls Tryd.prog 14 #[.slice none 0 0] w (NextVal w ⟨0, [], 0, 0, 0, []⟩) from by have h := HQ.out; rw [hN] at h; exact h)
  clear hk ho f q HQ hN
  go_enter Tryd.func19, Tryd.ntmps19
  go_wp2_with fail
  refine Q.out.mono ?_
  rintro e w1 ⟨hb1, A1, c1, A2, c2, rfl, ⟨p1, q1, ho1⟩, ⟨p2, q2, ho2⟩⟩
  dsimp only at p1 ho1 p2 ho2
  have hal := (Below.refl w1.heap.size w1).alloc (Nat.le_refl _) (.cells #[.int .i64 0, .int .i64 0, .slice A2 0 c2] 33)
  have hb1' := hb1.trans (hal.mono hb1.size)
  have hk1 := HK.out.below hb1' HK.out.lt
  have k0 : World.cell? _ ⟨g, 0, none⟩ = some _ := hk1.cell 0
  have kf0 : World.frozen? _ ⟨g, 0, none⟩ = false := hk1.free 0
  have HK1 := Lib.hid hk1; have HB1 := Lib.hid hb1'; have HO1 := Lib.hid (HO.out.below hb1')
  clear hk1 hb1' hb1 ho1 ho2 hal p1 q1 p2 q2 Q c0
  go_wp2_with fail
  go_ret3
  exact ⟨⟨A1, c1, rfl⟩, ⟨A, dc, HK1.out.set 0 (.slice none 0 0), HF.out.1, HF.out.2, HO1.out.beside (grown_setCell (grown_refl _ _) _ _) (Nat.lt_succ_self _)⟩, (Keep.of_below HB1.out).set 0 _ _ (.inl rfl)⟩
end Go.Proofs.YtjhmkapafhgofaaDoor

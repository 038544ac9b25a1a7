/-
  The OPEN of a side.
-/
import Derived.Test.YtpdnpphkkobhgaaCap6
import Derived.Test.YtpdnpphkkobhgaaPutB
import Derived.Test.YtpdnpphkkobhgaaStr7
import Derived.Test.YtpdnpphkkobhgaaFlow
namespace Go.Proofs.Ytpdnpphkkobhgaa
set_option linter.unusedVariables false
open Go.RowKit

def mineA (a : Int) : Int := if 65535 < a then 23456 else a
def mineH (h : Int) : Int := min (max h 0) 65535
/-- An OPEN with one capability, 65, of four bytes. -/
def RetMine (w : World) (a id h : Int) (e : Ending) (w' : World) : Prop :=
  Below w.heap.size w w' ∧ ∃ g A c, e = .returned (.agg #[.int .i64 4, .int .i64 (mineA a), .int .i64 (mineH h), .int .u32 id, .slice (some ⟨g, 0, none⟩) 1 1]) ∧ CpIn w' w'.heap.size (some ⟨g, 0, none⟩) [⟨65, A, c, be32 a⟩] ∧ (be32 a).length ≤ c ∧ c ≤ maxLen

theorem cells5 {w : World} {g T : Nat} {a b c d e : Value} (h : Blk w g T [a, b, c, d, e]) : w.cell? ⟨g, 0, none⟩ = some a ∧ w.cell? ⟨g, 1, none⟩ = some b ∧ w.cell? ⟨g, 2, none⟩ = some c ∧ w.cell? ⟨g, 3, none⟩ = some d ∧ w.cell? ⟨g, 4, none⟩ = some e := ⟨h.cell 0, h.cell 1, h.cell 2, h.cell 3, h.cell 4⟩
theorem free5 {w : World} {g T : Nat} {cs : List Value} (h : Blk w g T cs) : w.frozen? ⟨g, 0, none⟩ = false ∧ w.frozen? ⟨g, 1, none⟩ = false ∧ w.frozen? ⟨g, 2, none⟩ = false ∧ w.frozen? ⟨g, 3, none⟩ = false ∧ w.frozen? ⟨g, 4, none⟩ = false := ⟨h.free 0, h.free 1, h.free 2, h.free 3, h.free 4⟩
theorem Blk.set5 {w : World} {g T : Nat} {a0 b0 c0 d0 e0 : Value} (a b c d e : Value) (hk : Blk w g T [a0, b0, c0, d0, e0]) : Blk (((((w.setCell ⟨g, 0, none⟩ a).setCell ⟨g, 1, none⟩ b).setCell ⟨g, 2, none⟩ c).setCell ⟨g, 3, none⟩ d).setCell ⟨g, 4, none⟩ e) g T [a, b, c, d, e] :=
  ((((hk.set 0 a).set 1 b).set 2 c).set 3 d).set 4 e
theorem grown_set5 (w : World) (g : Nat) (a b c d e : Value) : w.grownBy (((((w.setCell ⟨g, 0, none⟩ a).setCell ⟨g, 1, none⟩ b).setCell ⟨g, 2, none⟩ c).setCell ⟨g, 3, none⟩ d).setCell ⟨g, 4, none⟩ e) (some g) :=
  grown_setCell (grown_setCell (grown_setCell (grown_setCell (grown_setCell (grown_refl _ _) _ _) _ _) _ _) _ _) _ _

/-- Where Mine's region stands: the capability's row, and its bytes, lie from B on. -/
def MRow (w : World) (B : Nat) (a : Int) (g : Nat) (A : Option Addr) (c : Nat) : Prop := B ≤ g ∧ Blk w g 54 [.int .i64 65, .slice A (be32 a).length c] ∧ (be32 a).length ≤ c ∧ c ≤ maxLen ∧ Own w B 5 (.slice A (be32 a).length c) (be32 a)
def MFin (w : World) (B rb : Nat) (a m id h : Int) : Prop := ∃ g A c, MRow w B a g A c ∧ Blk w rb 25 [.int .i64 4, .int .i64 m, .int .i64 h, .int .u32 id, .slice (some ⟨g, 0, none⟩) 1 1]
def MHas (w : World) (rb : Nat) : Prop := ∃ x0 x1 x2 x3 x4, Blk w rb 25 [x0, x1, x2, x3, x4]
def MD (L B rb : Nat) (a m id h : Int) : Nat → World → Value → Prop
  | 0, w, v => v = .int .i64 m
  | 1, w, v => v = .pointer (some ⟨L, 3, none⟩)
  | 2, w, v => v = .int .i64 h
  | 3, w, v => v = .int .i64 (if h < 0 then 0 else h)
  | 4, w, v => v = .int .i64 (mineH h)
  | 5, w, v => v = .pointer (some ⟨L, 1, none⟩)
  | 6, w, v => v = .int .u32 id
  | 7, w, v => v = .pointer (some ⟨L, 0, none⟩)
  | 8, w, v => v = .int .u32 a
  | 9, w, v => ∃ A c, v = .slice A (be32 a).length c ∧ (be32 a).length ≤ c ∧ c ≤ maxLen ∧ Own w B 5 (.slice A (be32 a).length c) (be32 a)
  | 10, w, v => ∃ A c, v = .agg #[.int .i64 65, .slice A (be32 a).length c] ∧ (be32 a).length ≤ c ∧ c ≤ maxLen ∧ Own w B 5 (.slice A (be32 a).length c) (be32 a)
  | 11, w, v => ∃ g A c, v = .slice (some ⟨g, 0, none⟩) 1 1 ∧ MRow w B a g A c
  | 12, w, v => ∃ g A c, v = .agg #[.int .i64 4, .int .i64 m, .int .i64 (mineH h), .int .u32 id, .slice (some ⟨g, 0, none⟩) 1 1] ∧ MRow w B a g A c
  | _, w, v => MFin w B rb a m id (mineH h)
def MR (B rb : Nat) (a m id h : Int) (w w' : World) : Prop := w.grownBy w' (some rb) ∧ (MHas w rb → MHas w' rb) ∧ (MFin w B rb a m id (mineH h) → MFin w' B rb a m id (mineH h))
section
variable {w w' : World} {L B rb : Nat} {a m id h : Int}
theorem MRow.grown {g : Nat} {A : Option Addr} {c : Nat} (x : MRow w B a g A c) (hg : w.grownBy w' (some rb)) (hrb : rb < B) : MRow w' B a g A c :=
  ⟨x.1, x.2.1.grown hg (by have := x.1; omega), x.2.2.1, x.2.2.2.1, x.2.2.2.2.beside hg hrb⟩
theorem MR.fresh (hb : Below w.heap.size w w') (hrb : rb < B) : MR B rb a m id h w w' :=
  ⟨⟨hb.os, hb.tape, hb.output, hb.size, fun i hi _ => hb.block i hi⟩, fun ⟨x0, x1, x2, x3, x4, hk⟩ => ⟨x0, x1, x2, x3, x4, hk.below hb hk.lt⟩,
   fun ⟨g, A, c, hr, hk⟩ => ⟨g, A, c, hr.grown (rb := rb) ⟨hb.os, hb.tape, hb.output, hb.size, fun i hi _ => hb.block i hi⟩ hrb, hk.below hb hk.lt⟩⟩
theorem MR.same (hrb : rb < B) : MR B rb a m id h w w := MR.fresh (Below.refl _ _) hrb
theorem MD.keep (hrb : rb < B) (i : Nat) (w w' : World) (v : Value) (hd : MD L B rb a m id h i w v) (hr : MR B rb a m id h w w') : MD L B rb a m id h i w' v := by
  match i, hd with
  | 0, hd => exact hd
  | 1, hd => exact hd
  | 2, hd => exact hd
  | 3, hd => exact hd
  | 4, hd => exact hd
  | 5, hd => exact hd
  | 6, hd => exact hd
  | 7, hd => exact hd
  | 8, hd => exact hd
  | 9, ⟨A, c, e, h1, h2, ho⟩ => exact ⟨A, c, e, h1, h2, ho.beside hr.1 hrb⟩
  | 10, ⟨A, c, e, h1, h2, ho⟩ => exact ⟨A, c, e, h1, h2, ho.beside hr.1 hrb⟩
  | 11, ⟨g, A, c, e, x⟩ => exact ⟨g, A, c, e, x.grown hr.1 hrb⟩
  | 12, ⟨g, A, c, e, x⟩ => exact ⟨g, A, c, e, x.grown hr.1 hrb⟩
  | n + 13, hd => exact hr.2.2 hd
end
theorem cap_one {w : World} {g c : Nat} {A : Option Addr} {l : List UInt8} {k : Int} (hk : Blk w g 54 [.int .i64 k, .slice A l.length c]) (hb : Bytes w A l) : CpIn w w.heap.size (some ⟨g, 0, none⟩) [⟨k, A, c, l⟩] := fun _ =>
  ⟨g, 0, rfl, hk.lt, fun j s hj => by
    rcases j with _ | j
    · simp at hj
      subst hj
      exact ⟨hk.cell 0, hk.cell 1, hb⟩
    · simp at hj⟩
theorem mineH_if (h : Int) : (if 65535 < (if h < 0 then 0 else h) then (65535 : Int) else (if h < 0 then 0 else h)) = mineH h := by
  unfold mineH
  split <;> split <;> omega
theorem below5 {B : Nat} {w w1 : World} {g : Nat} {a b c d e : Value} (hb : Below B w w1) (hg : B ≤ g) : Below B w (((((w1.setCell ⟨g, 0, none⟩ a).setCell ⟨g, 1, none⟩ b).setCell ⟨g, 2, none⟩ c).setCell ⟨g, 3, none⟩ d).setCell ⟨g, 4, none⟩ e) :=
  ((((hb.setCell (p := ⟨g, 0, none⟩) hg _).setCell (p := ⟨g, 1, none⟩) hg _).setCell (p := ⟨g, 2, none⟩) hg _).setCell (p := ⟨g, 3, none⟩) hg _).setCell (p := ⟨g, 4, none⟩) hg _

set_option maxRecDepth 100000 in
set_option maxHeartbeats 3200000 in
theorem Mine_any (a id ad h : Int) (w : World) (ha : 0 ≤ a ∧ a < 4294967296) (hh : -9223372036854775808 ≤ h ∧ h ≤ 9223372036854775807) :
    Calls Try.prog 22 #[.agg #[.int .u32 a, .int .u32 id, .int .u32 ad, .int .i64 h]] w (RetMine w a id h) := by
  obtain ⟨ha1, ha2⟩ := ha
  have Q := Lib.hid (fun W => (show Calls Try.prog 31 #[.slice none 0 0, .int .u32 a] W (RetBytes W (be32 a)) from Put32_any none 0 0 [] rfl a W (by simp) (Bytes.nil _ _) ha1 ha2))
  have kL := Blk.new w 48 [.int .u32 a, .int .u32 id, .int .u32 ad, .int .i64 h]
  have hz : (w.alloc (.cells #[.int .u32 a, .int .u32 id, .int .u32 ad, .int .i64 h] 48)).heap.size = w.heap.size + 1 := by simp
  have kR := Blk.new (w.alloc (.cells #[.int .u32 a, .int .u32 id, .int .u32 ad, .int .i64 h] 48)) 25 [.int .i64 0, .int .i64 0, .int .i64 0, .int .u32 0, .slice none 0 0]
  rw [hz] at kR
  have b0 := (Below.refl w.heap.size w).alloc (Nat.le_refl _) (.cells #[.int .u32 a, .int .u32 id, .int .u32 ad, .int .i64 h] 48)
  have b1 := b0.alloc (by simp) (.cells #[.int .i64 0, .int .i64 0, .int .i64 0, .int .u32 0, .slice none 0 0] 25)
  have kL1 := kL.below ((Below.refl _ _).alloc (Nat.le_refl _) (.cells #[.int .i64 0, .int .i64 0, .int .i64 0, .int .u32 0, .slice none 0 0] 25)) kL.lt
  have HR := Lib.hid kR
  have HB := Lib.hid b1
  obtain ⟨W1, hW1⟩ : ∃ W1, W1 = (w.alloc (.cells #[.int .u32 a, .int .u32 id, .int .u32 ad, .int .i64 h] 48)).alloc (.cells #[.int .i64 0, .int .i64 0, .int .i64 0, .int .u32 0, .slice none 0 0] 25) := ⟨_, rfl⟩
  have HL := Lib.hid (show Blk W1 w.heap.size 48 _ from by rw [hW1]; exact kL1)
  have HSZ := Lib.hid (show W1.heap.size = w.heap.size + 1 + 1 by rw [hW1]; simp)
  have HW := Lib.hid hW1
  clear kL hz kR b0 b1 kL1 hW1
  by_cases hA : 65535 < a
  · have HA := Lib.hid (show mineA a = 23456 from if_pos hA)
    go_enter Try.func22, Try.ntmps22
    go_wp2_with fail
    rw [← HW.out] at HR HB ⊢
    refine region_flow (by kernel_rfl) (MD w.heap.size W1.heap.size (w.heap.size + 1) a 23456 id h) (MR W1.heap.size (w.heap.size + 1) a 23456 id h) (fun W => Below (w.heap.size + 1) W1 W ∧ MHas W (w.heap.size + 1)) (fun i w' w'' v => MD.keep (by rw [HSZ.out]; omega) i w' w'' v) ?_ (by kernel_rfl) ?_ ?_ ?_
    · rintro W W' ⟨hb, hh⟩ hr
      exact ⟨hb.grown hr.1 (by have := hb.size; have := HSZ.out; omega) (fun k hk => by cases hk; exact Nat.le_refl _), hr.2.1 hh⟩
    · exact ⟨(Below.refl _ _).drew, _, _, _, _, _, HR.out⟩
    · intro i o ho A W hInv hfree hdep
      rcases i with _ | _ | _ | _ | _ | _ | _ | _ | _ | _ | _ | _ | _ | _ | i
      · cases (show some _ = some o from ho)
        have e3 : A.tmps.getD 3 undef = .int .i64 23456 := hfree 3 (by kernel_rfl)
        unfold OpTo
        go_simp
        exact ⟨MR.same (by have := HSZ.out; omega), rfl⟩
      · cases (show some _ = some o from ho)
        have e1 : A.tmps.getD 1 undef = .pointer (some ⟨w.heap.size, 0, none⟩) := hfree 1 (by kernel_rfl)
        unfold OpTo
        go_simp
        exact ⟨MR.same (by have := HSZ.out; omega), rfl⟩
      · cases (show some _ = some o from ho)
        have e10 : A.tmps.getD 10 undef = .pointer (some ⟨w.heap.size, 3, none⟩) := hdep 1 _ 10 rfl rfl (by kernel_rfl)
        have cL : W.cell? ⟨w.heap.size, 3, none⟩ = some (.int .i64 h) := (HL.out.below hInv.1 (Nat.lt_succ_self _)).cell 3
        unfold OpTo
        go_simp
        exact ⟨MR.same (by have := HSZ.out; omega), rfl⟩
      · cases (show some _ = some o from ho)
        have e11 : A.tmps.getD 11 undef = .int .i64 h := hdep 2 _ 11 rfl rfl (by kernel_rfl)
        unfold OpTo
        go_simp
        exact ⟨MR.same (by have := HSZ.out; omega), rfl⟩
      · cases (show some _ = some o from ho)
        have e12 : A.tmps.getD 12 undef = .int .i64 (if h < 0 then 0 else h) := hdep 3 _ 12 rfl rfl (by kernel_rfl)
        unfold OpTo
        go_simp
        exact ⟨MR.same (by have := HSZ.out; omega), congrArg (Value.int .i64) (mineH_if h)⟩
      · cases (show some _ = some o from ho)
        have e1 : A.tmps.getD 1 undef = .pointer (some ⟨w.heap.size, 0, none⟩) := hfree 1 (by kernel_rfl)
        unfold OpTo
        go_simp
        exact ⟨MR.same (by have := HSZ.out; omega), rfl⟩
      · cases (show some _ = some o from ho)
        have e14 : A.tmps.getD 14 undef = .pointer (some ⟨w.heap.size, 1, none⟩) := hdep 5 _ 14 rfl rfl (by kernel_rfl)
        have cL : W.cell? ⟨w.heap.size, 1, none⟩ = some (.int .u32 id) := (HL.out.below hInv.1 (Nat.lt_succ_self _)).cell 1
        unfold OpTo
        go_simp
        exact ⟨MR.same (by have := HSZ.out; omega), rfl⟩
      · cases (show some _ = some o from ho)
        have e1 : A.tmps.getD 1 undef = .pointer (some ⟨w.heap.size, 0, none⟩) := hfree 1 (by kernel_rfl)
        unfold OpTo
        go_simp
        exact ⟨MR.same (by have := HSZ.out; omega), rfl⟩
      · cases (show some _ = some o from ho)
        have e16 : A.tmps.getD 16 undef = .pointer (some ⟨w.heap.size, 0, none⟩) := hdep 7 _ 16 rfl rfl (by kernel_rfl)
        have cL : W.cell? ⟨w.heap.size, 0, none⟩ = some (.int .u32 a) := (HL.out.below hInv.1 (Nat.lt_succ_self _)).cell 0
        unfold OpTo
        go_simp
        exact ⟨MR.same (by have := HSZ.out; omega), rfl⟩
      · cases (show some _ = some o from ho)
        have e17 : A.tmps.getD 17 undef = .int .u32 a := hdep 8 _ 17 rfl rfl (by kernel_rfl)
        unfold OpTo
        go_simp
        refine (Q.out _).mono ?_
        rintro e wx ⟨A', c, rfl, f, g, ho', hb⟩
        exact ⟨_, rfl, MR.fresh hb (by have := HSZ.out; omega), A', c, rfl, f, g, ho'.lower hInv.1.size⟩
      · cases (show some _ = some o from ho)
        obtain ⟨A', c, e18, f, g, ho'⟩ := hdep 9 _ 18 rfl rfl (by kernel_rfl)
        have q18 := e18
        rw [Array.getD_eq_getD_getElem?] at q18
        unfold OpTo
        go_simp
        exact ⟨MR.same (by have := HSZ.out; omega), A', c, rfl, f, g, ho'⟩
      · cases (show some _ = some o from ho)
        obtain ⟨A', c, e19, f, g, ho'⟩ := hdep 10 _ 19 rfl rfl (by kernel_rfl)
        have q19 := e19
        rw [Array.getD_eq_getD_getElem?] at q19
        unfold OpTo
        go_simp
        exact ⟨MR.fresh ((Below.refl _ _).alloc (Nat.le_refl _) _) (by have := HSZ.out; omega), W.heap.size, A', c, rfl, hInv.1.size, Blk.new W _ _, f, g, ho'.alloc _⟩
      · cases (show some _ = some o from ho)
        have e9 : A.tmps.getD 9 undef = .int .i64 23456 := hdep 0 _ 9 rfl rfl (by kernel_rfl)
        have e13 : A.tmps.getD 13 undef = .int .i64 (mineH h) := hdep 4 _ 13 rfl rfl (by kernel_rfl)
        have e15 : A.tmps.getD 15 undef = .int .u32 id := hdep 6 _ 15 rfl rfl (by kernel_rfl)
        obtain ⟨g', A', c, e20, hr⟩ := hdep 11 _ 20 rfl rfl (by kernel_rfl)
        have q9 := e9
        rw [Array.getD_eq_getD_getElem?] at q9
        have q13 := e13
        rw [Array.getD_eq_getD_getElem?] at q13
        have q15 := e15
        rw [Array.getD_eq_getD_getElem?] at q15
        have q20 := e20
        rw [Array.getD_eq_getD_getElem?] at q20
        unfold OpTo
        go_simp
        exact ⟨MR.same (by have := HSZ.out; omega), g', A', c, rfl, hr⟩
      · cases (show some _ = some o from ho)
        have e2 : A.tmps.getD 2 undef = .pointer (some ⟨w.heap.size + 1, 0, none⟩) := hfree 2 (by kernel_rfl)
        obtain ⟨g', A', c, e21, hr⟩ := hdep 12 _ 21 rfl rfl (by kernel_rfl)
        obtain ⟨x0, x1, x2, x3, x4, hk⟩ := hInv.2
        have c5 := cells5 hk
        have f5 := free5 hk
        unfold OpTo
        go_simp
        have hg := grown_set5 W (w.heap.size + 1) (.int .i64 4) (.int .i64 23456) (.int .i64 (mineH h)) (.int .u32 id) (.slice (some ⟨g', 0, none⟩) 1 1)
        have hk2 := hk.set5 (.int .i64 4) (.int .i64 23456) (.int .i64 (mineH h)) (.int .u32 id) (.slice (some ⟨g', 0, none⟩) 1 1)
        have fin : MFin _ W1.heap.size (w.heap.size + 1) a 23456 id (mineH h) := ⟨g', A', c, hr.grown hg (by have := HSZ.out; omega), hk2⟩
        exact ⟨⟨hg, fun _ => ⟨_, _, _, _, _, hk2⟩, fun _ => fin⟩, fin⟩
      · simp at ho
    · intro A W hInv hfree hsz hdf hall
      obtain ⟨g', A', c, hr, hk⟩ := hall 13 _ rfl
      have e2 : A.tmps.getD 2 undef = .pointer (some ⟨w.heap.size + 1, 0, none⟩) := hfree 2 (by kernel_rfl)
      have c5 := cells5 hk
      have q2 := e2
      rw [Array.getD_eq_getD_getElem?] at q2
      go_wp2
      refine bodyPost_ret (v := .agg #[.int .i64 4, .int .i64 23456, .int .i64 (mineH h), .int .u32 id, .slice (some ⟨g', 0, none⟩) 1 1]) (by simp [results, Try.results22, go_sem, q2, c5]) (hdf.trans rfl) ?_
      exact ⟨HB.out.trans (hInv.1.mono (Nat.le_succ _)), g', A', c, by rw [HA.out], cap_one hr.2.1 hr.2.2.2.2.bytes, hr.2.2.1, hr.2.2.2.1⟩
  · have HA := Lib.hid (show mineA a = a from if_neg hA)
    go_enter Try.func22, Try.ntmps22
    go_wp2_with fail
    rw [← HW.out] at HR HB ⊢
    refine region_flow (by kernel_rfl) (MD w.heap.size W1.heap.size (w.heap.size + 1) a a id h) (MR W1.heap.size (w.heap.size + 1) a a id h) (fun W => Below (w.heap.size + 1) W1 W ∧ MHas W (w.heap.size + 1)) (fun i w' w'' v => MD.keep (by rw [HSZ.out]; omega) i w' w'' v) ?_ (by kernel_rfl) ?_ ?_ ?_
    · rintro W W' ⟨hb, hh⟩ hr
      exact ⟨hb.grown hr.1 (by have := hb.size; have := HSZ.out; omega) (fun k hk => by cases hk; exact Nat.le_refl _), hr.2.1 hh⟩
    · exact ⟨(Below.refl _ _).drew, _, _, _, _, _, HR.out⟩
    · intro i o ho A W hInv hfree hdep
      rcases i with _ | _ | _ | _ | _ | _ | _ | _ | _ | _ | _ | _ | _ | _ | i
      · cases (show some _ = some o from ho)
        have e3 : A.tmps.getD 3 undef = .int .i64 a := hfree 3 (by kernel_rfl)
        unfold OpTo
        go_simp
        exact ⟨MR.same (by have := HSZ.out; omega), rfl⟩
      · cases (show some _ = some o from ho)
        have e1 : A.tmps.getD 1 undef = .pointer (some ⟨w.heap.size, 0, none⟩) := hfree 1 (by kernel_rfl)
        unfold OpTo
        go_simp
        exact ⟨MR.same (by have := HSZ.out; omega), rfl⟩
      · cases (show some _ = some o from ho)
        have e10 : A.tmps.getD 10 undef = .pointer (some ⟨w.heap.size, 3, none⟩) := hdep 1 _ 10 rfl rfl (by kernel_rfl)
        have cL : W.cell? ⟨w.heap.size, 3, none⟩ = some (.int .i64 h) := (HL.out.below hInv.1 (Nat.lt_succ_self _)).cell 3
        unfold OpTo
        go_simp
        exact ⟨MR.same (by have := HSZ.out; omega), rfl⟩
      · cases (show some _ = some o from ho)
        have e11 : A.tmps.getD 11 undef = .int .i64 h := hdep 2 _ 11 rfl rfl (by kernel_rfl)
        unfold OpTo
        go_simp
        exact ⟨MR.same (by have := HSZ.out; omega), rfl⟩
      · cases (show some _ = some o from ho)
        have e12 : A.tmps.getD 12 undef = .int .i64 (if h < 0 then 0 else h) := hdep 3 _ 12 rfl rfl (by kernel_rfl)
        unfold OpTo
        go_simp
        exact ⟨MR.same (by have := HSZ.out; omega), congrArg (Value.int .i64) (mineH_if h)⟩
      · cases (show some _ = some o from ho)
        have e1 : A.tmps.getD 1 undef = .pointer (some ⟨w.heap.size, 0, none⟩) := hfree 1 (by kernel_rfl)
        unfold OpTo
        go_simp
        exact ⟨MR.same (by have := HSZ.out; omega), rfl⟩
      · cases (show some _ = some o from ho)
        have e14 : A.tmps.getD 14 undef = .pointer (some ⟨w.heap.size, 1, none⟩) := hdep 5 _ 14 rfl rfl (by kernel_rfl)
        have cL : W.cell? ⟨w.heap.size, 1, none⟩ = some (.int .u32 id) := (HL.out.below hInv.1 (Nat.lt_succ_self _)).cell 1
        unfold OpTo
        go_simp
        exact ⟨MR.same (by have := HSZ.out; omega), rfl⟩
      · cases (show some _ = some o from ho)
        have e1 : A.tmps.getD 1 undef = .pointer (some ⟨w.heap.size, 0, none⟩) := hfree 1 (by kernel_rfl)
        unfold OpTo
        go_simp
        exact ⟨MR.same (by have := HSZ.out; omega), rfl⟩
      · cases (show some _ = some o from ho)
        have e16 : A.tmps.getD 16 undef = .pointer (some ⟨w.heap.size, 0, none⟩) := hdep 7 _ 16 rfl rfl (by kernel_rfl)
        have cL : W.cell? ⟨w.heap.size, 0, none⟩ = some (.int .u32 a) := (HL.out.below hInv.1 (Nat.lt_succ_self _)).cell 0
        unfold OpTo
        go_simp
        exact ⟨MR.same (by have := HSZ.out; omega), rfl⟩
      · cases (show some _ = some o from ho)
        have e17 : A.tmps.getD 17 undef = .int .u32 a := hdep 8 _ 17 rfl rfl (by kernel_rfl)
        unfold OpTo
        go_simp
        refine (Q.out _).mono ?_
        rintro e wx ⟨A', c, rfl, f, g, ho', hb⟩
        exact ⟨_, rfl, MR.fresh hb (by have := HSZ.out; omega), A', c, rfl, f, g, ho'.lower hInv.1.size⟩
      · cases (show some _ = some o from ho)
        obtain ⟨A', c, e18, f, g, ho'⟩ := hdep 9 _ 18 rfl rfl (by kernel_rfl)
        have q18 := e18
        rw [Array.getD_eq_getD_getElem?] at q18
        unfold OpTo
        go_simp
        exact ⟨MR.same (by have := HSZ.out; omega), A', c, rfl, f, g, ho'⟩
      · cases (show some _ = some o from ho)
        obtain ⟨A', c, e19, f, g, ho'⟩ := hdep 10 _ 19 rfl rfl (by kernel_rfl)
        have q19 := e19
        rw [Array.getD_eq_getD_getElem?] at q19
        unfold OpTo
        go_simp
        exact ⟨MR.fresh ((Below.refl _ _).alloc (Nat.le_refl _) _) (by have := HSZ.out; omega), W.heap.size, A', c, rfl, hInv.1.size, Blk.new W _ _, f, g, ho'.alloc _⟩
      · cases (show some _ = some o from ho)
        have e9 : A.tmps.getD 9 undef = .int .i64 a := hdep 0 _ 9 rfl rfl (by kernel_rfl)
        have e13 : A.tmps.getD 13 undef = .int .i64 (mineH h) := hdep 4 _ 13 rfl rfl (by kernel_rfl)
        have e15 : A.tmps.getD 15 undef = .int .u32 id := hdep 6 _ 15 rfl rfl (by kernel_rfl)
        obtain ⟨g', A', c, e20, hr⟩ := hdep 11 _ 20 rfl rfl (by kernel_rfl)
        have q9 := e9
        rw [Array.getD_eq_getD_getElem?] at q9
        have q13 := e13
        rw [Array.getD_eq_getD_getElem?] at q13
        have q15 := e15
        rw [Array.getD_eq_getD_getElem?] at q15
        have q20 := e20
        rw [Array.getD_eq_getD_getElem?] at q20
        unfold OpTo
        go_simp
        exact ⟨MR.same (by have := HSZ.out; omega), g', A', c, rfl, hr⟩
      · cases (show some _ = some o from ho)
        have e2 : A.tmps.getD 2 undef = .pointer (some ⟨w.heap.size + 1, 0, none⟩) := hfree 2 (by kernel_rfl)
        obtain ⟨g', A', c, e21, hr⟩ := hdep 12 _ 21 rfl rfl (by kernel_rfl)
        obtain ⟨x0, x1, x2, x3, x4, hk⟩ := hInv.2
        have c5 := cells5 hk
        have f5 := free5 hk
        unfold OpTo
        go_simp
        have hg := grown_set5 W (w.heap.size + 1) (.int .i64 4) (.int .i64 a) (.int .i64 (mineH h)) (.int .u32 id) (.slice (some ⟨g', 0, none⟩) 1 1)
        have hk2 := hk.set5 (.int .i64 4) (.int .i64 a) (.int .i64 (mineH h)) (.int .u32 id) (.slice (some ⟨g', 0, none⟩) 1 1)
        have fin : MFin _ W1.heap.size (w.heap.size + 1) a a id (mineH h) := ⟨g', A', c, hr.grown hg (by have := HSZ.out; omega), hk2⟩
        exact ⟨⟨hg, fun _ => ⟨_, _, _, _, _, hk2⟩, fun _ => fin⟩, fin⟩
      · simp at ho
    · intro A W hInv hfree hsz hdf hall
      obtain ⟨g', A', c, hr, hk⟩ := hall 13 _ rfl
      have e2 : A.tmps.getD 2 undef = .pointer (some ⟨w.heap.size + 1, 0, none⟩) := hfree 2 (by kernel_rfl)
      have c5 := cells5 hk
      have q2 := e2
      rw [Array.getD_eq_getD_getElem?] at q2
      go_wp2
      refine bodyPost_ret (v := .agg #[.int .i64 4, .int .i64 a, .int .i64 (mineH h), .int .u32 id, .slice (some ⟨g', 0, none⟩) 1 1]) (by simp [results, Try.results22, go_sem, q2, c5]) (hdf.trans rfl) ?_
      exact ⟨HB.out.trans (hInv.1.mono (Nat.le_succ _)), g', A', c, by rw [HA.out], cap_one hr.2.1 hr.2.2.2.2.bytes, hr.2.2.1, hr.2.2.2.1⟩
end Go.Proofs.Ytpdnpphkkobhgaa

/-
  Texts of this seat, put together: Small4, Out4, Read3, Same3.
-/
import Derived.Deep.RegionLaw
import Derived.Shelf.Abstract
import Derived.Test.YtglbpfkfkdimaaaDoorLook4Mg
import Derived.Test.YtglbpfkfkdimaaaDoorMg1
import Derived.Test.YtglbpfkfkdimaaaDoorEqual3Mg
/-
  Attributes' small functions: which next ones may be, what nothing says, the document's flags.
-/
namespace Go.Proofs.YtglbpfkfkdimaaaDoor
set_option linter.unusedVariables false
set_option linter.unusedSimpArgs false
open Go.RowKit

/-- A known kind's flags; 0: it is not known. -/
def flagsF (k : Int) : Int := if k = 1 then 64 else if k = 2 then 64 else if k = 3 then 64 else if k = 5 then 64 else if k = 6 then 64 else if k = 4 then 128 else if k = 7 then 192 else if k = 8 then 192 else if k = 17 then 192 else if k = 18 then 192 else 0
theorem known_flags (k : Int) : knownB k = (flagsF k != 0) := by
  by_cases h1 : k = 1
  · subst h1; rfl
  by_cases h2 : k = 2
  · subst h2; rfl
  by_cases h3 : k = 3
  · subst h3; rfl
  by_cases h5 : k = 5
  · subst h5; rfl
  by_cases h6 : k = 6
  · subst h6; rfl
  by_cases h4 : k = 4
  · subst h4; rfl
  by_cases h7 : k = 7
  · subst h7; rfl
  by_cases h8 : k = 8
  · subst h8; rfl
  by_cases h17 : k = 17
  · subst h17; rfl
  by_cases h18 : k = 18
  · subst h18; rfl
  have e : flagsF k = 0 := by unfold flagsF; simp [h1, h2, h3, h5, h6, h4, h7, h8, h17, h18]
  rw [e]
  unfold knownB lookN looksL
  have f : ∀ c : Int, ¬ k = c → (c == k) = false := fun c h => by simpa using fun e => h e.symm
  simp [List.find?, f 1 h1, f 2 h2, f 3 h3, f 5 h5, f 6 h6, f 4 h4, f 7 h7, f 8 h8, f 17 h17, f 18 h18]
set_option maxHeartbeats 1600000 in
theorem RefFlags_any (k : Int) (w : World) :
    Calls Tryd.prog 13 #[.int .i64 k] w fun e w' => e = .returned (.int .i64 (flagsF k)) ∧ w = w' := by
  by_cases h1 : k = 1
  · subst h1
    go_enter Tryd.func13, Tryd.ntmps13
    go_wp2_with fail
    go_ret
    exact ⟨rfl, rfl⟩
  by_cases h2 : k = 2
  · subst h2
    go_enter Tryd.func13, Tryd.ntmps13
    go_wp2_with fail
    go_ret
    exact ⟨rfl, rfl⟩
  by_cases h3 : k = 3
  · subst h3
    go_enter Tryd.func13, Tryd.ntmps13
    go_wp2_with fail
    go_ret
    exact ⟨rfl, rfl⟩
  by_cases h5 : k = 5
  · subst h5
    go_enter Tryd.func13, Tryd.ntmps13
    go_wp2_with fail
    go_ret
    exact ⟨rfl, rfl⟩
  by_cases h6 : k = 6
  · subst h6
    go_enter Tryd.func13, Tryd.ntmps13
    go_wp2_with fail
    go_ret
    exact ⟨rfl, rfl⟩
  by_cases h4 : k = 4
  · subst h4
    go_enter Tryd.func13, Tryd.ntmps13
    go_wp2_with fail
    go_ret
    exact ⟨rfl, rfl⟩
  by_cases h7 : k = 7
  · subst h7
    go_enter Tryd.func13, Tryd.ntmps13
    go_wp2_with fail
    go_ret
    exact ⟨rfl, rfl⟩
  by_cases h8 : k = 8
  · subst h8
    go_enter Tryd.func13, Tryd.ntmps13
    go_wp2_with fail
    go_ret
    exact ⟨rfl, rfl⟩
  by_cases h17 : k = 17
  · subst h17
    go_enter Tryd.func13, Tryd.ntmps13
    go_wp2_with fail
    go_ret
    exact ⟨rfl, rfl⟩
  by_cases h18 : k = 18
  · subst h18
    go_enter Tryd.func13, Tryd.ntmps13
    go_wp2_with fail
    go_ret
    exact ⟨rfl, rfl⟩
  have e := Lib.hid (show flagsF k = 0 by unfold flagsF; simp [h1, h2, h3, h5, h6, h4, h7, h8, h17, h18])
  have e1 : (k == 1) = false := by simpa using h1
  have e2 : (k == 2) = false := by simpa using h2
  have e3 : (k == 3) = false := by simpa using h3
  have e5 : (k == 5) = false := by simpa using h5
  have e6 : (k == 6) = false := by simpa using h6
  have e4 : (k == 4) = false := by simpa using h4
  have e7 : (k == 7) = false := by simpa using h7
  have e8 : (k == 8) = false := by simpa using h8
  have e17 : (k == 17) = false := by simpa using h17
  have e18 : (k == 18) = false := by simpa using h18
  go_enter Tryd.func13, Tryd.ntmps13
  go_wp2_with fail
  go_ret
  exact ⟨by rw [e.out]; rfl, rfl⟩

theorem dec224 (q : Nat) : (!false && !false && decide (q < 224)) = decide ((q : Int) < 224) := by
  by_cases h : q < 224
  · rw [decide_eq_true h, decide_eq_true (show (q : Int) < 224 by omega)]; rfl
  · rw [decide_eq_false h, decide_eq_false (show ¬ (q : Int) < 224 by omega)]; rfl
/-- May a number be a next one? -/
def nextB (n : Nat) : Bool := !(n / 16777216 == 0) && !(n / 16777216 == 127) && decide (n / 16777216 < 224)
set_option maxHeartbeats 1600000 in
theorem RefNext_any (n : Nat) (w : World) (hn : n < 4294967296) :
    Calls Tryd.prog 15 #[.int .u32 (n : Int)] w fun e w' => e = .returned (.bool (nextB n)) ∧ w = w' := by
  have hi : (n : Int) ≤ 4294967295 := by omega
  have hd : ((n : Int) / 16777216) = ((n / 16777216 : Nat) : Int) := by omega
  have HV := Lib.hid (show nextB n = (!(n / 16777216 == 0) && !(n / 16777216 == 127) && decide (n / 16777216 < 224)) from rfl)
  have hq : n / 16777216 < 256 := by omega
  obtain ⟨q, hqq⟩ : ∃ q, q = n / 16777216 := ⟨_, rfl⟩
  rw [← hqq] at hd HV hq
  have HD := Lib.hid hd
  by_cases h0 : q = 0
  · have e0 : ((q : Int) != 0) = false := by simp [h0]
    have HE := Lib.hid (show nextB n = false by rw [HV.out]; simp [h0])
    clear HV hqq
    go_enter Tryd.func15, Tryd.ntmps15
    go_wp2_with fail
    go_ret
    exact ⟨by rw [HE.out]; rfl, rfl⟩
  · have e0 : ((q : Int) != 0) = true := by simp; omega
    by_cases h1 : q = 127
    · have e1 : ((q : Int) != 127) = false := by simp [h1]
      have HE := Lib.hid (show nextB n = false by rw [HV.out]; simp [h1])
      clear HV hqq
      go_enter Tryd.func15, Tryd.ntmps15
      go_wp2_with fail
      go_ret
      exact ⟨by rw [HE.out]; rfl, rfl⟩
    · have e1 : ((q : Int) != 127) = true := by simp; omega
      have HE := Lib.hid (show nextB n = decide ((q : Int) < 224) by rw [HV.out, show (q == 0) = false from by simpa using h0, show (q == 127) = false from by simpa using h1]; exact dec224 q)
      clear HV hqq
      go_enter Tryd.func15, Tryd.ntmps15
      go_wp2_with fail
      go_ret
      exact ⟨by rw [HE.out]; rfl, rfl⟩
set_option maxHeartbeats 1600000 in
theorem Next_any (n : Nat) (w : World) (hn : n < 4294967296) :
    Calls Tryd.prog 14 #[.int .u32 (n : Int)] w fun e w' => e = .returned (.bool (nextB n)) ∧ w = w' := by
  have hi : (n : Int) ≤ 4294967295 := by omega
  have hd : ((n : Int) / 16777216) = ((n / 16777216 : Nat) : Int) := by omega
  have HV := Lib.hid (show nextB n = (!(n / 16777216 == 0) && !(n / 16777216 == 127) && decide (n / 16777216 < 224)) from rfl)
  have hq : n / 16777216 < 256 := by omega
  obtain ⟨q, hqq⟩ : ∃ q, q = n / 16777216 := ⟨_, rfl⟩
  rw [← hqq] at hd HV hq
  have HD := Lib.hid hd
  by_cases h0 : q = 0
  · have e0 : ((q : Int) != 0) = false := by simp [h0]
    have HE := Lib.hid (show nextB n = false by rw [HV.out]; simp [h0])
    clear HV hqq
    go_enter Tryd.func14, Tryd.ntmps14
    go_wp2_with fail
    go_ret
    exact ⟨by rw [HE.out]; rfl, rfl⟩
  · have e0 : ((q : Int) != 0) = true := by simp; omega
    by_cases h1 : q = 127
    · have e1 : ((q : Int) != 127) = false := by simp [h1]
      have HE := Lib.hid (show nextB n = false by rw [HV.out]; simp [h1])
      clear HV hqq
      go_enter Tryd.func14, Tryd.ntmps14
      go_wp2_with fail
      go_ret
      exact ⟨by rw [HE.out]; rfl, rfl⟩
    · have e1 : ((q : Int) != 127) = true := by simp; omega
      have HE := Lib.hid (show nextB n = decide ((q : Int) < 224) by rw [HV.out, show (q == 0) = false from by simpa using h0, show (q == 127) = false from by simpa using h1]; exact dec224 q)
      clear HV hqq
      go_enter Tryd.func14, Tryd.ntmps14
      go_wp2_with fail
      go_ret
      exact ⟨by rw [HE.out]; rfl, rfl⟩

/-- Attributes of which nothing is said, as a row. -/
def zeroRow : List Value := [.int .i64 0, .slice none 0 0, .int .u32 0, .int .i64 (-1), .int .i64 (-1), .bool false, .bool false, .int .u32 0, .int .u32 0, .slice none 0 0, .slice none 0 0]
set_option maxHeartbeats 1600000 in
theorem Zero_any (w : World) :
    Calls Tryd.prog 17 #[] w fun e w' => e = .returned (.agg zeroRow.toArray) ∧ Below w.heap.size w w' := by
  have hb0 := (Below.refl w.heap.size w).alloc (Nat.le_refl _) (.cells zeroRow.toArray 27)
  unfold zeroRow at hb0 ⊢
  go_enter Tryd.func17, Tryd.ntmps17
  go_wp2_with fail
  exact bodyPost_ret (v := .agg #[.int .i64 0, .slice none 0 0, .int .u32 0, .int .i64 (-1), .int .i64 (-1), .bool false, .bool false, .int .u32 0, .int .u32 0, .slice none 0 0, .slice none 0 0]) (by simp [results, Tryd.results17, go_sem, *]) rfl ⟨rfl, hb0⟩
set_option maxHeartbeats 1600000 in
theorem RefZero_any (w : World) :
    Calls Tryd.prog 18 #[] w fun e w' => e = .returned (.agg zeroRow.toArray) ∧ Below w.heap.size w w' := by
  have hb0 := (Below.refl w.heap.size w).alloc (Nat.le_refl _) (.cells zeroRow.toArray 27)
  unfold zeroRow at hb0 ⊢
  go_enter Tryd.func18, Tryd.ntmps18
  go_wp2_with fail
  exact bodyPost_ret (v := .agg #[.int .i64 0, .slice none 0 0, .int .u32 0, .int .i64 (-1), .int .i64 (-1), .bool false, .bool false, .int .u32 0, .int .u32 0, .slice none 0 0, .slice none 0 0]) (by simp [results, Tryd.results18, go_sem, *]) rfl ⟨rfl, hb0⟩
end Go.Proofs.YtglbpfkfkdimaaaDoor

/-
  Bytes that are gathered by a closure.
-/
namespace Go.Proofs.YtglbpfkfkdimaaaDoor
set_option linter.unusedVariables false
set_option linter.unusedSimpArgs false
open Go.RowKit

/-- Block g holds a slice of the call's own, with the bytes l. -/
def OutAt (B : Nat) (W : World) (g : Nat) (v : Value) (l : List UInt8) : Prop := Blk W g 36 [v] ∧ Own W B 5 v l
/-- Nothing has turned but block g, and the row of v. -/
structure KpO (g : Nat) (v : Value) (W W' : World) : Prop where
  size : W.heap.size ≤ W'.heap.size
  block : ∀ k, k < W.heap.size → k ≠ g → v.ownBlock ≠ some k → W'.heap[k]? = W.heap[k]?
theorem KpO.blk {g k T : Nat} {v : Value} {W W' : World} {cs : List Value} {B : Nat} {l : List UInt8} (h : KpO g v W W') (hk : Blk W k T cs) (hg : k ≠ g) (ho : Own W B 5 v l) (hT : 5 ≠ T) : Blk W' k T cs :=
  (h.block k hk.lt hg (ho.ne_blk hk hT)).trans hk
/-- What the closure leaves that puts an attribute. -/
def PutRet (w W : World) (g : Nat) (v : Value) (l : List UInt8) (e : Ending) (W' : World) : Prop :=
  e = .returned (.tuple #[]) ∧ Below w.heap.size w W' ∧ KpO g v W W' ∧ ∃ v', OutAt w.heap.size W' g v' l
set_option maxHeartbeats 800000 in
/-- An attribute that is not there. -/
theorem put1_no (w W : World) (k : Int) (f : Value) (g : Nat) (v : Value) (l : List UInt8) (hb : Below w.heap.size w W) (h : OutAt w.heap.size W g v l) :
    Calls Tryd.prog 38 #[.bool false, .int .i64 k, f, .pointer (some ⟨g, 0, none⟩)] W (PutRet w W g v l) := by
  have HB := Lib.hid hb; have H := Lib.hid h
  clear hb h
  go_enter Tryd.func38, Tryd.ntmps38
  go_wp2_with fail
  refine bodyPost_ret (results_none rfl _ _ _) rfl ?_
  exact ⟨rfl, HB.out, ⟨Nat.le_refl _, fun _ _ _ _ => rfl⟩, v, H.out⟩
end Go.Proofs.YtglbpfkfkdimaaaDoor

/-
  The path of bytes.
-/
namespace Go.Proofs.YtglbpfkfkdimaaaDoor
set_option linter.unusedVariables false
set_option linter.unusedSimpArgs false
open Go.RowKit

/-- How many bytes lie before a reader, off memory. -/
def leftAt (w : World) (g : Nat) : Nat := match w.cell? ⟨g, 0, none⟩ with
  | some (.slice _ n _) => n
  | _ => 0
theorem rd_left {w : World} {B g : Nat} {l : List UInt8} {s : Bool} (h : Rd w B g l s) : leftAt w g = l.length := by
  obtain ⟨_, A, c, hk, _⟩ := h
  have c0 : w.cell? ⟨g, 0, none⟩ = some (.slice A l.length c) := hk.cell 0
  unfold leftAt
  rw [c0]
/-- 'x.f = append(x.f, n)' over numbers, n in a block of its own. -/
theorem step_one32 {ops : Array Oper} {o : Oper} {a : Act} {w : World} {K : Act → World → Prop} {Q : Exit → Act → World → Prop} {E : Prop} (hgd : o.guard = none) (s x : Operand) (ho : o.op = .call { callee := .builtin .append, args := #[s, x], argTypes := #[24, 24] })
    (base : Nat) (v : Value) (z : List Nat) (hs : a.eval s = v) (wr : World) (n : Nat) (hw : w = wr.alloc (.cells #[.int .u32 (n : Int)] 23)) (hown : Own32 wr base v z) (hx : a.eval x = .slice (some ⟨wr.heap.size, 0, none⟩) 1 1)
    (hsz : z.length + 1 ≤ 100000000000) (hb : base ≤ wr.heap.size)
    (h : ∀ v' w', Own32 w' base v' (z ++ [n]) → wr.grownBy w' v.ownBlock → K (a.put o.dst v') w') : if Region.wanted o (yielded ops a.tmps) = true then Oper.wp Tryd.prog o a w K Q else E := by
  subst hw
  have hA : At32 (wr.alloc (.cells #[.int .u32 (n : Int)] 23)) (wr.heap.size + 1) (some ⟨wr.heap.size, 0, none⟩) [n] := by
    intro _
    refine ⟨wr.heap.size, 0, rfl, by omega, fun j hj => ?_⟩
    have hj0 : j = 0 := by simpa using hj
    subst hj0
    exact (Blk.new wr 23 [.int .u32 (n : Int)]).cell 0
  exact step_app32 hgd s x ho base v z hs (hown.alloc _) _ 1 1 _ [n] hx rfl hA (by simpa using hsz) (by simp; omega) fun v' w' h1 h2 => h v' w' h1 (grown_of_alloc h2)
/-- Segments of the call's own stay, if one other block, ahead of all of theirs, is written. -/
theorem OwnSegs.apart {w w' : World} {B H g : Nat} {v : Value} {M : List Sg} (h : OwnSegs w B H v M) (hg : w.grownBy w' (some g)) (hB : g < B) : OwnSegs w' B H v M := by
  have far : ∀ (u : Value) (e : TypeId) (size n : Nat) (xs : List Value), w.ownsRow B e size u n xs → u.ownBlock = none ∨ u.ownBlock ≠ some g := by
    intro u e size n xs hu
    cases he : u.ownBlock with
    | none => exact .inl rfl
    | some k =>
      right
      intro e2
      have := (World.ownsRow.lt hu k he).1
      have e3 : k = g := by simpa using e2
      omega
  exact ⟨World.ownsRow.kept h.row hg (far _ _ _ _ _ h.row), fun s hs => World.ownsRow.kept (h.own s hs) hg (far _ _ _ _ _ (h.own s hs)), h.low, h.last, h.fit⟩
theorem grown_of_drew {a b : World} {row : Option Nat} (h : a.drew.grownBy b row) : a.grownBy b row := ⟨h.os, h.tape, h.output, h.size, h.block⟩
theorem grown_fresh {a b c : World} {g : Nat} {row' : Option Nat} (h : a.grownBy b (some g)) (k : b.grownBy c row') (hr : ∀ j, row' = some j → a.heap.size ≤ j) : a.grownBy c (some g) :=
  ⟨k.os.trans h.os, k.tape.trans h.tape, k.output.trans h.output, Nat.le_trans h.size k.size, fun i hi hne => (k.block i (Nat.lt_of_lt_of_le hi h.size) (fun e => by have := hr i e.symm; omega)).trans (h.block i hi hne)⟩
def ReadPost (w : World) (r : Option (List (Int × List Nat))) (e : Ending) (w' : World) : Prop := match r with
  | none => e = .returned (.tuple #[.slice none 0 0, .int .i64 5]) ∧ Below w.heap.size w w'
  | some r => ∃ (M : List Sg) (A : Option Addr) (c : Nat), e = .returned (.tuple #[.slice A M.length c, .int .i64 0]) ∧ M.map Sg.abs = r ∧ M.length ≤ c ∧ c ≤ maxLen ∧ (∃ H, OwnSegs w' (w.heap.size + 1) H (.slice A M.length c) M) ∧ Below w.heap.size w w'
/-- What the loop over the segments holds. -/
def ReadRel (w : World) (wide : Bool) (l : List UInt8) (v : Value) (wr : World) : Prop :=
  Below w.heap.size w wr ∧ ∃ (M : List Sg) (H : Nat) (r : List UInt8) (s : Bool), OwnSegs wr (w.heap.size + 1) H v M ∧ w.heap.size + 1 ≤ H ∧ H ≤ wr.heap.size ∧ Rd wr w.heap.size w.heap.size r s ∧ M.length + r.length ≤ l.length ∧ totN M ≤ 255 * M.length ∧ Hid (readGo wide r.length (M.map Sg.abs, r, s) = readAll wide l)
/-- What the loop over a segment's numbers holds: W2 is the world ahead of the segment's block h. -/
def NumRel (W2 : World) (g h : Nat) (K : Int) (wide : Bool) (l1 : List UInt8) (s1 : Bool) (n : Nat) (i : Value) (wr : World) : Prop :=
  W2.grownBy wr (some g) ∧ ∃ (v : Value) (k : Nat), k ≤ n ∧ i = .int .i64 (k : Int) ∧ Blk wr h 87 [.int .i64 K, v] ∧ Own32 wr (h + 1) v (numsS wide l1 s1 k).1 ∧ Rd wr g g (numsS wide l1 s1 k).2.1 (numsS wide l1 s1 k).2.2
theorem nums_next (wide : Bool) (l : List UInt8) (s : Bool) (k : Nat) : (numsS wide l s (k + 1)).1 = (numsS wide l s k).1 ++ [num (rdTake (numsS wide l s k).2.1 (numsS wide l s k).2.2 (nextN wide)).1] ∧ (numsS wide l s (k + 1)).2 = (rdTake (numsS wide l s k).2.1 (numsS wide l s k).2.2 (nextN wide)).2 := ⟨rfl, rfl⟩

set_option maxRecDepth 100000 in
set_option maxHeartbeats 12800000 in
theorem Read3_any (A : Option Addr) (c : Nat) (l : List UInt8) (wide : Bool) (w : World) (h : Bytes w A l) (hc : l.length ≤ c) (hm : c ≤ maxLen) (hl : l.length ≤ 10000000) :
    Calls Tryd.prog 95 #[.slice A l.length c, .bool wide] w (ReadPost w (readL wide l)) := by
  have Q0 := Lib.hid (New_any A l.length c l rfl w h hc hm)
  clear h hc hm
  go_enter Tryd.func95, Tryd.ntmps95
  go_wp2_with fail
  refine Q0.out.mono ?_
  rintro e w1 ⟨rfl, hr0, hb0⟩
  have HR0 := Lib.hid hr0; have HB0 := Lib.hid hb0
  have HS0 := Lib.hid hr0.lt
  clear hr0 hb0 Q0
  go_wp2_with fail
  go_loopw [6] (fun v wr => ReadRel w wide l v wr) (fun _ wr => leftAt wr w.heap.size)
  case atStart => exact ⟨HB0.out, [], w.heap.size + 1, l, false, OwnSegs.nil _ _ _, Nat.le_refl _, HS0.out, HR0.out, by simp, by simp [totN], Lib.hid rfl⟩
  case round =>
    clear HR0 HB0 HS0
    obtain ⟨hbr, M, H, r, s, hown, hH, hH2, hrd, hlen, htot, hgo⟩ := hrel
    have QL := Lib.hid (Left_any _ _ _ _ wr hrd)
    by_cases hr : r = []
    · subst hr
      obtain ⟨A0, c0, rfl, g1, g2⟩ := hown.form
      have hM : M.length ≤ 10000000 := by simp at hlen; omega
      have QR := Lib.hid (Right_any A0 c0 M wr hown.segs g1 g2 (by omega))
      have HSG := Lib.hid hown
      have hend := readL_end (t := (M.map Sg.abs, [], s)) hgo.out rfl
      simp only at hend
      rw [← right_abs] at hend
      have HEND := Lib.hid hend
      have QL0 := Lib.hid (show Calls Tryd.prog 57 #[.pointer (some ⟨w.heap.size, 0, none⟩)] wr fun e w' => e = .returned (.int .i64 0) ∧ wr = w' from Left_any _ _ _ _ wr hrd)
      have HBR := Lib.hid hbr
      have QE := Lib.hid (Err_any _ _ _ _ wr hrd)
      clear hend QL hgo hown hrd htot hlen hbr
      cases s with
      | true =>
        have HE := Lib.hid (show readL wide l = none by rw [HEND.out, if_neg]; simp)
        simp only [errN] at QE
        go_wp2_with fail
        refine QL0.out.mono ?_
        rintro e w2 ⟨rfl, rfl⟩
        go_wp2_with fail
        refine QE.out.mono ?_
        rintro e w2 ⟨rfl, rfl⟩
        go_wp2_with fail
        go_ret2
        rw [HE.out]
        exact ⟨rfl, HBR.out⟩
      | false =>
        simp only [errN] at QE
        cases hrb : rightB M with
        | true =>
          rw [hrb] at QR
          have HE := Lib.hid (show readL wide l = some (M.map Sg.abs) by rw [HEND.out, if_pos ⟨rfl, hrb⟩])
          clear hrb
          go_wp2_with fail
          refine QL0.out.mono ?_
          rintro e w2 ⟨rfl, rfl⟩
          go_wp2_with fail
          refine QE.out.mono ?_
          rintro e w2 ⟨rfl, rfl⟩
          go_wp2_with fail
          refine QR.out.mono ?_
          rintro e w3 ⟨rfl, hb3⟩
          go_wp2_with fail
          go_ret2
          rw [HE.out]
          exact ⟨M, A0, c0, rfl, rfl, g1, g2, ⟨_, HSG.out.below hb3⟩, HBR.out.trans (hb3.mono HBR.out.size)⟩
        | false =>
          rw [hrb] at QR
          have HE := Lib.hid (show readL wide l = none by rw [HEND.out, if_neg]; rw [hrb]; simp)
          clear hrb
          go_wp2_with fail
          refine QL0.out.mono ?_
          rintro e w2 ⟨rfl, rfl⟩
          go_wp2_with fail
          refine QE.out.mono ?_
          rintro e w2 ⟨rfl, rfl⟩
          go_wp2_with fail
          refine QR.out.mono ?_
          rintro e w3 ⟨rfl, hb3⟩
          go_wp2_with fail
          go_ret2
          rw [HE.out]
          exact ⟨rfl, HBR.out.trans (hb3.mono HBR.out.size)⟩
    · have hpos : (0 : Int) < (r.length : Int) := by have := List.length_pos_iff.2 hr; omega
      have hst := (readGo_step wide (t := (M.map Sg.abs, r, s)) hr).symm.trans hgo.out
      have hless := step_less wide (t := (M.map Sg.abs, r, s)) hr
      have Q1 := Lib.hid (Byte_any _ _ _ _ wr hrd)
      have hK := num_one_lt r s
      have hn2 := num_one_lt (rdTake r s 1).2.1 (rdTake r s 1).2.2
      simp only [readStep, headS] at hst hless
      obtain ⟨X1, hX1⟩ : ∃ X1, X1 = rdTake r s 1 := ⟨_, rfl⟩
      rw [← hX1] at hst hless Q1 hK hn2
      obtain ⟨X2, hX2⟩ : ∃ X2, X2 = rdTake X1.2.1 X1.2.2 1 := ⟨_, rfl⟩
      have HX2 := Lib.hid hX2
      rw [← hX2] at hst hless hn2
      obtain ⟨K, hKe⟩ : ∃ K, K = num X1.1 := ⟨_, rfl⟩
      obtain ⟨n, hne⟩ : ∃ n, n = num X2.1 := ⟨_, rfl⟩
      rw [← hKe, ← hne] at hst
      rw [← hne] at hless hn2
      rw [← hKe] at hK
      have HST := Lib.hid hst; have HLS := Lib.hid hless; have HK := Lib.hid hK; have HN := Lib.hid hn2
      have HKE := Lib.hid hKe; have HNE := Lib.hid hne
      have HOW := Lib.hid hown; have HBR := Lib.hid hbr; have HRD := Lib.hid hrd; have HLEN := Lib.hid hlen; have HTOT := Lib.hid htot
      clear hst hless hK hn2 hX1 hX2 hKe hne hown hbr hrd hlen htot hgo hr
      go_wp2_with fail
      refine QL.out.mono ?_
      rintro e w2 ⟨rfl, rfl⟩
      go_wp2_with fail
      refine Q1.out.mono ?_
      rintro e w2 ⟨rfl, hr1, hg1⟩
      have HR1 := Lib.hid hr1; have HG1 := Lib.hid hg1
      clear hr1 hg1
      rw [← HKE.out]
      go_wp2_with fail
      have hr3 : Rd (w2.alloc (.cells #[.int .i64 (K : Int), .slice none 0 0] 87)) w.heap.size w.heap.size X1.2.1 X1.2.2 := HR1.out.below ((Below.refl w2.heap.size w2).alloc (Nat.le_refl _) _) HR1.out.lt
      have Q2 := Byte_any _ _ _ _ _ hr3
      rw [← HX2.out] at Q2
      have Q2 := Lib.hid Q2
      have HB3 := Lib.hid (Blk.new w2 87 [.int .i64 (K : Int), .slice none 0 0])
      clear hr3
      refine Q2.out.mono ?_
      rintro e w4 ⟨rfl, hr4, hg4⟩
      have HR4 := Lib.hid hr4; have HG4 := Lib.hid hg4
      have hne4 : w2.heap.size ≠ w.heap.size := by have := HR1.out.lt; omega
      have HG24 := Lib.hid (grown_trans (grown_alloc (grown_refl w2 (some w.heap.size)) _) HG4.out)
      have HB4 := Lib.hid (HB3.out.grown HG4.out hne4)
      have HNE4 := Lib.hid hne4
      have HG0 := Lib.hid (show w.heap.size < w2.heap.size + 1 by have := HR1.out.lt; omega)
      clear hr4 hg4 hne4 Q2
      rw [← HNE.out]
      go_wp2_with fail
      go_loopw [19] (fun i wr' => NumRel w2 w.heap.size w2.heap.size (K : Int) wide X2.2.1 X2.2.2 n i wr') (fun i _ => n - (intOf i).toNat)
      case atStart => exact ⟨HG24.out, _, 0, Nat.zero_le _, rfl, HB4.out, Own32.nil _ _, HR4.out⟩
      case round =>
        clear HR4 HG4 HB4 HG24 Q1 QL
        obtain ⟨hg, v, k, hk, rfl, hblk, hown, hrd⟩ := hrel
        by_cases hlt : k < n
        · have hkn : (k : Int) < (n : Int) := by omega
          have QN := Lib.hid (next3_any _ _ _ _ wide wr.drew hrd)
          have HNX := Lib.hid (nums_next wide X2.2.1 X2.2.2 k)
          have hlen := (numsS_len wide X2.2.1 X2.2.2 k).1
          obtain ⟨Y, hY⟩ : ∃ Y, Y = rdTake (numsS wide X2.2.1 X2.2.2 k).2.1 (numsS wide X2.2.1 X2.2.2 k).2.2 (nextN wide) := ⟨_, rfl⟩
          rw [← hY] at QN HNX
          have hkb : (k : Int) < 256 := by have := HN.out; omega
          have hg2 := HG0.out
          have HBK := Lib.hid hblk
          have HOW2 := Lib.hid hown; have HGW := Lib.hid hg; have HLT := Lib.hid hlt
          have HSZ := Lib.hid (show (numsS wide X2.2.1 X2.2.2 k).1.length + 1 ≤ 100000000000 by rw [hlen]; have := HN.out; omega)
          have c1 : wr.cell? ⟨w2.heap.size, 1, none⟩ = some v := hblk.cell 1
          have hvb : some w2.heap.size ≠ v.ownBlock := by
            intro e
            have := (World.ownsRow.lt hown _ e.symm).1
            omega
          have HVB := Lib.hid hvb
          obtain ⟨z, hz⟩ : ∃ z, z = (numsS wide X2.2.1 X2.2.2 k).1 := ⟨_, rfl⟩
          rw [← hz] at HOW2 HSZ HNX
          obtain ⟨y, hy⟩ : ∃ y, y = num Y.1 := ⟨_, rfl⟩
          have HYE := Lib.hid hy
          rw [← hy] at HNX
          have QN2 := Lib.hid (show Calls Tryd.prog 104 #[.pointer (some ⟨w.heap.size, 0, none⟩), .bool wide] wr.drew (fun e w' => e = .returned (.int .u32 (y : Int)) ∧ Rd w' w.heap.size w.heap.size Y.2.1 Y.2.2 ∧ wr.drew.grownBy w' (some w.heap.size)) from by rw [HYE.out]; exact QN.out)
          clear hlen hY hblk hown hrd hg hlt hvb QN hz hy
          go_wp2_with fail
          go_region_law ((first
            | (have hq5 := HO5; clear hq5; refine step_one32 (by rfl) (.tmp 22) (.tmp 26) (by rfl) (w2.heap.size + 1) v z (by rfl) w5 y rfl HO5.out (by rfl) HSZ.out HZ5.out ?_; intro v6 w6 ho6 hg6; have hk6 := (hg6.block _ HK5.out.lt HVB.out).trans HK5.out; have c6 : w6.cell? ⟨w2.heap.size, 1, none⟩ = some v := Blk.cell hk6 1; have f6 : w6.frozen? ⟨w2.heap.size, 1, none⟩ = false := Blk.free hk6 1; have HK6 := Lib.hid hk6; obtain ⟨A6, d6, rfl, q1, q2⟩ := ho6.form; have el : (z ++ [y]).length = z.length + 1 := List.length_append; rw [el] at ho6 q1; have HO6 := Lib.hid ho6; have HG6 := Lib.hid hg6; clear hk6 ho6 hg6)
            | (go_simp; go_at_call 104; refine QN2.out.mono ?_; rintro e w5 ⟨rfl, hr5, hg5⟩; have hk5 := HBK.out.grown (grown_of_drew hg5) HNE4.out; have c5 : w5.cell? ⟨w2.heap.size, 1, none⟩ = some v := hk5.cell 1; have c5a : (w5.alloc (.cells #[.int .u32 (y : Int)] 23)).cell? ⟨w2.heap.size, 1, none⟩ = some v := (Blk.below hk5 ((Below.refl w5.heap.size w5).alloc (Nat.le_refl _) _) hk5.lt).cell 1; have HO5 := Lib.hid (own32_apart HOW2.out (grown_of_drew hg5) HG0.out); have HZ5 := Lib.hid (show w2.heap.size + 1 ≤ w5.heap.size from hk5.lt); have HK5 := Lib.hid hk5; have HR5 := Lib.hid hr5; have HG5 := Lib.hid (grown_of_drew hg5); clear hk5 hr5 hg5)))
          all_goals
            have hb7 := Lib.hid (((Below.refl w2.heap.size w5).grown HG6.out (Nat.le_of_succ_le HZ5.out) (fun j hj => by have := (World.ownsRow.lt HO5.out j hj).1; omega)).setCell (p := ⟨w2.heap.size, 1, none⟩) (Nat.le_refl _) (.slice A6 (z.length + 1) d6))
            have hg7 := Lib.hid (grown_fresh (grown_fresh (grown_trans HGW.out HG5.out) HG6.out (fun j hj => by have := (World.ownsRow.lt HO5.out j hj).1; omega)) (grown_setCell (grown_refl w6 (some w2.heap.size)) 1 (.slice A6 (z.length + 1) d6)) (fun j hj => by cases hj; exact Nat.le_refl _))
            have hr7 := Lib.hid (HR5.out.below hb7.out (by have := HG0.out; have := HNE4.out; omega))
            have hk7 := Lib.hid (Blk.set (show Blk w6 w2.heap.size 87 [.int .i64 (K : Int), v] from HK6.out) 1 (.slice A6 (z.length + 1) d6))
            have ho7 := Lib.hid (own32_apart HO6.out (grown_setCell (grown_refl w6 (some w2.heap.size)) 1 (.slice A6 (z.length + 1) d6)) (Nat.lt_succ_self _))
            clear c5 c5a c6 f6 c1
            go_wp2_with fail
            go_roundw
            case rel =>
              refine ⟨hg7.out, _, k + 1, HLT.out, by go_num, hk7.out, ?_, ?_⟩
              · rw [HNX.out.1]
                exact ho7.out
              · rw [HNX.out.2]
                exact hr7.out
            case measure => have := HLT.out; simp [intOf]; omega
        · obtain rfl : k = n := by omega
          have hnk : ¬ (k : Int) < (k : Int) := by omega
          have hfit := numsS_fit wide X2.2.1 X2.2.2 k
          have hlenz := (numsS_len wide X2.2.1 X2.2.2 k).1
          obtain ⟨A7, d7, rfl, e1, e2⟩ := hown.form
          have HS7 := Lib.hid (((HOW.out.apart HG1.out (Nat.lt_succ_self _)).apart hg (Nat.lt_succ_self _)))
          have HB7 := Lib.hid ((HOW.out.apart HG1.out (Nat.lt_succ_self _)).blocks)
          have HO7 := Lib.hid (show Own32 wr (w2.heap.size + 1) (Sg.sl ⟨(K : Int), A7, d7, (numsS wide X2.2.1 X2.2.2 k).1⟩) (numsS wide X2.2.1 X2.2.2 k).1 from hown)
          have c7 := cells2 hblk
          have HR7 := Lib.hid hrd; have HG7 := Lib.hid hg; have HL7 := Lib.hid hlenz; have HF7 := Lib.hid hfit
          have HZ7 := Lib.hid hblk.lt
          clear hblk hown hrd hg hlenz hfit e1 e2
          go_wp2_with (at_builtin; refine wpList_app_one' isSeg rfl (.tmp 30) (.tmp 32) rfl (w.heap.size + 1) _ _ _ rfl wr (Sg.two ⟨(K : Int), A7, d7, (numsS wide X2.2.1 X2.2.2 k).1⟩) rfl HS7.out.row rfl rfl (two_one _) ?sz (Nat.le_trans (Nat.succ_le_of_lt HR7.out.lt) (Nat.le_refl _)) ?_)
          case sz => have := HLEN.out; omega
          intro v8 w8 hown8 hg8
          have HP := Lib.hid (OwnSegs.push (s := ⟨(K : Int), A7, d7, (numsS wide X2.2.1 X2.2.2 k).1⟩) HS7.out HO7.out (by have := HG0.out; omega) (fun x hx j hj => Nat.lt_succ_of_lt (HB7.out x hx j hj)) ⟨HF7.out, by have := HK.out; show -9223372036854775808 ≤ (K : Int) ∧ (K : Int) ≤ 9223372036854775807; omega⟩ hown8 hg8)
          have hsz : w.heap.size + 1 ≤ wr.heap.size := HR7.out.lt
          have hb8 := (Below.refl (w.heap.size + 1) wr).grown hg8 hsz (fun j hj => (World.ownsRow.lt HS7.out.row j hj).1)
          have HR8 := Lib.hid (HR7.out.below hb8 (Nat.lt_succ_self _))
          have HB9 := Lib.hid ((((HBR.out.grown HG1.out HBR.out.size (fun j hj => by cases hj; exact Nat.le_refl _)).grown HG7.out (Nat.le_trans (Nat.le_of_lt HRD.out.lt) HG1.out.size) (fun j hj => by cases hj; exact Nat.le_refl _))).trans (hb8.mono (Nat.le_succ _)))
          have HZ8 := Lib.hid (show w2.heap.size + 1 ≤ w8.heap.size from Nat.le_trans HZ7.out hg8.size)
          clear hb8 hsz c7 hown8 hg8
          go_wp2_with fail
          go_roundw
          case rel =>
            refine ⟨HB9.out, _, w2.heap.size + 1, _, _, HP.out, (by have := HG0.out; omega), HZ8.out, HR8.out, ?_, ?_, Lib.hid ?_⟩
            · have h1 := HLEN.out
              have h2 := HLS.out
              rw [List.length_append]
              simp only [List.length_cons, List.length_nil]
              omega
            · rw [totN_snoc, List.length_append]
              have h1 := HTOT.out
              have h2 := HN.out
              have h3 := HL7.out
              show totN M + (numsS wide X2.2.1 X2.2.2 k).1.length ≤ _
              simp only [List.length_cons, List.length_nil]
              omega
            · rw [List.map_append]
              exact HST.out
          case measure =>
            rw [rd_left HR8.out, rd_left HRD.out]
            exact HLS.out
end Go.Proofs.YtglbpfkfkdimaaaDoor

/-
  Whether two paths are the same: the program's answer and the document's.
-/
namespace Go.Proofs.YtglbpfkfkdimaaaDoor
set_option linter.unusedVariables false
set_option linter.unusedSimpArgs false
open Go.RowKit

set_option maxHeartbeats 1600000 in
theorem Same1_any (s t : Sg) (w : World) (h : Sg.Ok w w.heap.size s) (h' : Sg.Ok w w.heap.size t) :
    Calls Tryd.prog 64 #[.agg #[.int .i64 s.kind, .slice s.adr s.nums.length s.cap], .agg #[.int .i64 t.kind, .slice t.adr t.nums.length t.cap]] w fun e w' => e = .returned (.bool (sameS s t)) ∧ Below w.heap.size w w' := by
  have hb0 := (Below.refl w.heap.size w).alloc (Nat.le_refl _) (.cells #[.int .i64 s.kind, .slice s.adr s.nums.length s.cap] 87)
  have hb1 := hb0.alloc hb0.size (.cells #[.int .i64 t.kind, .slice t.adr t.nums.length t.cap] 87)
  have c1 := cells2 ((Blk.new w 87 [.int .i64 s.kind, .slice s.adr s.nums.length s.cap]).below ((Below.refl _ _).alloc (Nat.le_refl _) (.cells #[.int .i64 t.kind, .slice t.adr t.nums.length t.cap] 87)) (by simp))
  have c2 := cells2 (Blk.new (w.alloc (.cells #[.int .i64 s.kind, .slice s.adr s.nums.length s.cap] 87)) 87 [.int .i64 t.kind, .slice t.adr t.nums.length t.cap])
  simp only [alloc_sz] at c2
  have hm : s.nums.length ≤ 9223372036854775807 := by have h1 := h.1; have h2 := h.2.1; unfold maxLen at h2; omega
  have Q := Lib.hid (Equal32_any s.adr t.adr s.cap t.cap s.nums t.nums _ ((h.2.2.1.below hb1 (Nat.le_refl _)).lift hb1.size) ((h'.2.2.1.below hb1 (Nat.le_refl _)).lift hb1.size) hm)
  have HB := Lib.hid hb1
  clear h h' hb0 hb1
  by_cases hk : s.kind = t.kind
  · have hk1 : (s.kind == t.kind) = true := by simpa using hk
    have HE := Lib.hid (sameS_nums hk)
    clear hk
    go_enter Tryd.func64, Tryd.ntmps64
    go_wp2_with fail
    refine Q.out.mono ?_
    rintro e w1 ⟨rfl, m, rfl⟩
    go_wp2_with fail
    go_ret
    exact ⟨by rw [HE.out]; rfl, below_drewN HB.out _⟩
  · have hk1 : (s.kind == t.kind) = false := by simpa using hk
    have HE := Lib.hid (sameS_kind hk)
    clear hk
    go_enter Tryd.func64, Tryd.ntmps64
    go_wp2_with fail
    go_ret
    exact ⟨by rw [HE.out]; rfl, HB.out⟩

set_option maxHeartbeats 1600000 in
theorem EqualFunc_any (A A' : Option Addr) (c c' : Nat) (a b : List Sg) (w : World) (h : Segs w w.heap.size A a) (h' : Segs w w.heap.size A' b) (hl : a.length ≤ 1000000000) :
    Calls Tryd.prog 63 #[.slice A a.length c, .slice A' b.length c', .func (.func 64) #[] #[]] w fun e w' => e = .returned (.bool (sameP a b)) ∧ Below w.heap.size w w' := by
  have HS := Lib.hid h; have HS' := Lib.hid h'; clear h h'
  by_cases hlen : a.length = b.length
  · have HL := Lib.hid hlen
    rw [← hlen]
    clear hlen
    go_enter Tryd.func63, Tryd.ntmps63
    go_wp2_with fail
    go_loopw [17] (fun i wr => Below w.heap.size w wr ∧ ∃ j : Nat, j ≤ a.length ∧ i = .int .i64 (j : Int) ∧ Hid ((a.take j).map Sg.abs = (b.take j).map Sg.abs)) (fun i _ => a.length - (intOf i).toNat)
    case atStart => exact ⟨Below.refl _ _, 0, Nat.zero_le _, rfl, Lib.hid rfl⟩
    case round =>
      obtain ⟨hbr, j, hj, rfl, hsm⟩ := hrel
      by_cases hlt : j < a.length
      · obtain ⟨s, hs⟩ : ∃ s, a[j]? = some s := ⟨_, List.getElem?_eq_getElem hlt⟩
        obtain ⟨t, ht⟩ : ∃ t, b[j]? = some t := ⟨_, List.getElem?_eq_getElem (by rw [← HL.out]; exact hlt)⟩
        have S1 := HS.out.below hbr (Nat.le_refl _)
        have S2 := HS'.out.below hbr (Nat.le_refl _)
        obtain ⟨b1, off1, hA1, hb1, k1, k2, hok⟩ := S1.at hs
        obtain ⟨b2, off2, hA2, hb2, k3, k4, hok'⟩ := S2.at ht
        have HST := Lib.hid (sameP_step hs ht hsm.out)
        have hx0 := (Below.refl wr.heap.size wr).alloc (Nat.le_refl _) (.cells #[.int .i64 s.kind, .slice s.adr s.nums.length s.cap] 87)
        have hx1 := hx0.alloc hx0.size (.cells #[.int .i64 t.kind, .slice t.adr t.nums.length t.cap] 87)
        have Q := Lib.hid (Same1_any s t _ (((hok.lift hbr.size).below hx1 (Nat.le_refl _)).lift hx1.size) (((hok'.lift hbr.size).below hx1 (Nat.le_refl _)).lift hx1.size))
        have x3 := (hx0.cell (p := ⟨b2, off2 + j * 2, none⟩) (Nat.lt_of_lt_of_le hb2 hbr.size)).trans k3
        have x4 := (hx0.cell (p := ⟨b2, off2 + j * 2 + 1, none⟩) (Nat.lt_of_lt_of_le hb2 hbr.size)).trans k4
        have c1 := cells2 ((Blk.new wr 87 [.int .i64 s.kind, .slice s.adr s.nums.length s.cap]).below ((Below.refl _ _).alloc (Nat.le_refl _) (.cells #[.int .i64 t.kind, .slice t.adr t.nums.length t.cap] 87)) (by simp))
        have c2 := cells2 (Blk.new (wr.alloc (.cells #[.int .i64 s.kind, .slice s.adr s.nums.length s.cap] 87)) 87 [.int .i64 t.kind, .slice t.adr t.nums.length t.cap])
        simp only [alloc_sz] at c2
        have HX := Lib.hid (hbr.trans (hx1.mono hbr.size))
        have HJ := Lib.hid hlt
        subst hA1; subst hA2
        clear hs ht S1 S2 hok hok' hx0 hx1 hsm hbr
        cases hss : sameS s t with
        | true =>
          rw [hss] at Q
          have HN := Lib.hid (HST.out.1 hss)
          clear hss HST
          go_wp2_with (go_at_call 64; refine Q.out.mono ?_; rintro e w2 ⟨rfl, hb2⟩)
          go_roundw
          case rel => exact ⟨HX.out.trans (hb2.mono HX.out.size), j + 1, HJ.out, by go_num, HN⟩
          case measure => have := HJ.out; simp [intOf]; omega
        | false =>
          rw [hss] at Q
          have HN := Lib.hid (HST.out.2 hss)
          clear hss HST
          go_wp2_with (go_at_call 64; refine Q.out.mono ?_; rintro e w2 ⟨rfl, hb2⟩)
          go_ret
          exact ⟨by rw [HN.out]; rfl, HX.out.trans (hb2.mono HX.out.size)⟩
      · obtain rfl : j = a.length := by omega
        have HE := Lib.hid (sameP_end HL.out hsm.out)
        go_wp2_with fail
        go_ret
        exact ⟨by rw [HE.out]; rfl, hbr⟩
  · have hne : ((a.length : Int) != (b.length : Int)) = true := by simp; omega
    have HE := Lib.hid (sameP_len hlen)
    clear hlen
    go_enter Tryd.func63, Tryd.ntmps63
    go_wp2_with fail
    go_ret
    exact ⟨by rw [HE.out]; rfl, Below.refl _ _⟩

theorem Same3_any (A A' : Option Addr) (c c' : Nat) (a b : List Sg) (w : World) (h : Segs w w.heap.size A a) (h' : Segs w w.heap.size A' b) (hl : a.length ≤ 1000000000) :
    Calls Tryd.prog 34 #[.slice A a.length c, .slice A' b.length c'] w fun e w' => e = .returned (.bool (sameP a b)) ∧ Below w.heap.size w w' := by
  have Q := Lib.hid (EqualFunc_any A A' c c' a b w h h' hl); clear h h'
  go_enter Tryd.func34, Tryd.ntmps34
  go_wp2_with fail
  refine Q.out.mono ?_
  rintro e w1 ⟨rfl, hb1⟩
  go_wp2_with fail
  go_ret
  exact ⟨rfl, hb1⟩
end Go.Proofs.YtglbpfkfkdimaaaDoor

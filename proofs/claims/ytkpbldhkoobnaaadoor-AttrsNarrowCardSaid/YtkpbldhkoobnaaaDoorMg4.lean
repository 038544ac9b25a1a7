/-
  Texts of this seat, put together: Out4, Small4, Same3.
-/
import Derived.Deep.RegionLaw
import Derived.Shelf.Abstract
import Derived.Test.YtkpbldhkoobnaaaDoorLook4Mg
import Derived.Test.YtkpbldhkoobnaaaDoorMg1
import Derived.Test.YtkpbldhkoobnaaaDoorEqual3Mg
/-
  Bytes that are gathered by a closure.
-/
namespace Go.Proofs.YtkpbldhkoobnaaaDoor
set_option linter.unusedVariables false
set_option linter.unusedSimpArgs false
open Go.RowKit

/-- Block g holds a slice of the call's own, with the bytes l. -/
def OutAt (B : Nat) (W : World) (g : Nat) (v : Value) (l : List UInt8) : Prop := Blk W g 36 [v] ∧ Own W B 5 v l
/-- Nothing has turned but block g, and the row of v. -/
structure KpO (g : Nat) (v : Value) (W W' : World) : Prop where
  size : W.heap.size ≤ W'.heap.size
  block : ∀ k, k < W.heap.size → k ≠ g → v.ownBlock ≠ some k → W'.heap[k]? = W.heap[k]?
theorem KpO.blk {g k T : Nat} {v : Value} {W W' : World} {cs : List Value} {B : Nat} {l : List UInt8} (h : KpO g v W W') (hk : Blk W k T cs) (hg : k ≠ g) (ho : Own W B 5 v l) (hT : 5 ≠ T) : Blk W' k T cs :=
  (h.block k hk.lt hg (ho.ne_blk hk hT)).trans hk
/-- What the closure leaves that puts an attribute. -/
def PutRet (w W : World) (g : Nat) (v : Value) (l : List UInt8) (e : Ending) (W' : World) : Prop :=
  e = .returned (.tuple #[]) ∧ Below w.heap.size w W' ∧ KpO g v W W' ∧ ∃ v', OutAt w.heap.size W' g v' l
set_option maxHeartbeats 800000 in
/-- An attribute that is not there. -/
theorem put1_no (w W : World) (k : Int) (f : Value) (g : Nat) (v : Value) (l : List UInt8) (hb : Below w.heap.size w W) (h : OutAt w.heap.size W g v l) :
    Calls Tryd.prog 38 #[.bool false, .int .i64 k, f, .pointer (some ⟨g, 0, none⟩)] W (PutRet w W g v l) := by
  have HB := Lib.hid hb; have H := Lib.hid h
  clear hb h
  go_enter Tryd.func38, Tryd.ntmps38
  go_wp2_with fail
  refine bodyPost_ret (results_none rfl _ _ _) rfl ?_
  exact ⟨rfl, HB.out, ⟨Nat.le_refl _, fun _ _ _ _ => rfl⟩, v, H.out⟩
end Go.Proofs.YtkpbldhkoobnaaaDoor

/-
  Attributes' small functions: which next ones may be, what nothing says, the document's flags.
-/
namespace Go.Proofs.YtkpbldhkoobnaaaDoor
set_option linter.unusedVariables false
set_option linter.unusedSimpArgs false
open Go.RowKit

/-- A known kind's flags; 0: it is not known. -/
def flagsF (k : Int) : Int := if k = 1 then 64 else if k = 2 then 64 else if k = 3 then 64 else if k = 5 then 64 else if k = 6 then 64 else if k = 4 then 128 else if k = 7 then 192 else if k = 8 then 192 else if k = 17 then 192 else if k = 18 then 192 else 0
theorem known_flags (k : Int) : knownB k = (flagsF k != 0) := by
  by_cases h1 : k = 1
  · subst h1; rfl
  by_cases h2 : k = 2
  · subst h2; rfl
  by_cases h3 : k = 3
  · subst h3; rfl
  by_cases h5 : k = 5
  · subst h5; rfl
  by_cases h6 : k = 6
  · subst h6; rfl
  by_cases h4 : k = 4
  · subst h4; rfl
  by_cases h7 : k = 7
  · subst h7; rfl
  by_cases h8 : k = 8
  · subst h8; rfl
  by_cases h17 : k = 17
  · subst h17; rfl
  by_cases h18 : k = 18
  · subst h18; rfl
  have e : flagsF k = 0 := by unfold flagsF; simp [h1, h2, h3, h5, h6, h4, h7, h8, h17, h18]
  rw [e]
  unfold knownB lookN looksL
  have f : ∀ c : Int, ¬ k = c → (c == k) = false := fun c h => by simpa using fun e => h e.symm
  simp [List.find?, f 1 h1, f 2 h2, f 3 h3, f 5 h5, f 6 h6, f 4 h4, f 7 h7, f 8 h8, f 17 h17, f 18 h18]
set_option maxHeartbeats 1600000 in
theorem RefFlags_any (k : Int) (w : World) :
    Calls Tryd.prog 13 #[.int .i64 k] w fun e w' => e = .returned (.int .i64 (flagsF k)) ∧ w = w' := by
  by_cases h1 : k = 1
  · subst h1
    go_enter Tryd.func13, Tryd.ntmps13
    go_wp2_with fail
    go_ret
    exact ⟨rfl, rfl⟩
  by_cases h2 : k = 2
  · subst h2
    go_enter Tryd.func13, Tryd.ntmps13
    go_wp2_with fail
    go_ret
    exact ⟨rfl, rfl⟩
  by_cases h3 : k = 3
  · subst h3
    go_enter Tryd.func13, Tryd.ntmps13
    go_wp2_with fail
    go_ret
    exact ⟨rfl, rfl⟩
  by_cases h5 : k = 5
  · subst h5
    go_enter Tryd.func13, Tryd.ntmps13
    go_wp2_with fail
    go_ret
    exact ⟨rfl, rfl⟩
  by_cases h6 : k = 6
  · subst h6
    go_enter Tryd.func13, Tryd.ntmps13
    go_wp2_with fail
    go_ret
    exact ⟨rfl, rfl⟩
  by_cases h4 : k = 4
  · subst h4
    go_enter Tryd.func13, Tryd.ntmps13
    go_wp2_with fail
    go_ret
    exact ⟨rfl, rfl⟩
  by_cases h7 : k = 7
  · subst h7
    go_enter Tryd.func13, Tryd.ntmps13
    go_wp2_with fail
    go_ret
    exact ⟨rfl, rfl⟩
  by_cases h8 : k = 8
  · subst h8
    go_enter Tryd.func13, Tryd.ntmps13
    go_wp2_with fail
    go_ret
    exact ⟨rfl, rfl⟩
  by_cases h17 : k = 17
  · subst h17
    go_enter Tryd.func13, Tryd.ntmps13
    go_wp2_with fail
    go_ret
    exact ⟨rfl, rfl⟩
  by_cases h18 : k = 18
  · subst h18
    go_enter Tryd.func13, Tryd.ntmps13
    go_wp2_with fail
    go_ret
    exact ⟨rfl, rfl⟩
  have e := Lib.hid (show flagsF k = 0 by unfold flagsF; simp [h1, h2, h3, h5, h6, h4, h7, h8, h17, h18])
  have e1 : (k == 1) = false := by simpa using h1
  have e2 : (k == 2) = false := by simpa using h2
  have e3 : (k == 3) = false := by simpa using h3
  have e5 : (k == 5) = false := by simpa using h5
  have e6 : (k == 6) = false := by simpa using h6
  have e4 : (k == 4) = false := by simpa using h4
  have e7 : (k == 7) = false := by simpa using h7
  have e8 : (k == 8) = false := by simpa using h8
  have e17 : (k == 17) = false := by simpa using h17
  have e18 : (k == 18) = false := by simpa using h18
  go_enter Tryd.func13, Tryd.ntmps13
  go_wp2_with fail
  go_ret
  exact ⟨by rw [e.out]; rfl, rfl⟩

theorem dec224 (q : Nat) : (!false && !false && decide (q < 224)) = decide ((q : Int) < 224) := by
  by_cases h : q < 224
  · rw [decide_eq_true h, decide_eq_true (show (q : Int) < 224 by omega)]; rfl
  · rw [decide_eq_false h, decide_eq_false (show ¬ (q : Int) < 224 by omega)]; rfl
/-- May a number be a next one? -/
def nextB (n : Nat) : Bool := !(n / 16777216 == 0) && !(n / 16777216 == 127) && decide (n / 16777216 < 224)
set_option maxHeartbeats 1600000 in
theorem RefNext_any (n : Nat) (w : World) (hn : n < 4294967296) :
    Calls Tryd.prog 15 #[.int .u32 (n : Int)] w fun e w' => e = .returned (.bool (nextB n)) ∧ w = w' := by
  have hi : (n : Int) ≤ 4294967295 := by omega
  have hd : ((n : Int) / 16777216) = ((n / 16777216 : Nat) : Int) := by omega
  have HV := Lib.hid (show nextB n = (!(n / 16777216 == 0) && !(n / 16777216 == 127) && decide (n / 16777216 < 224)) from rfl)
  have hq : n / 16777216 < 256 := by omega
  obtain ⟨q, hqq⟩ : ∃ q, q = n / 16777216 := ⟨_, rfl⟩
  rw [← hqq] at hd HV hq
  have HD := Lib.hid hd
  by_cases h0 : q = 0
  · have e0 : ((q : Int) != 0) = false := by simp [h0]
    have HE := Lib.hid (show nextB n = false by rw [HV.out]; simp [h0])
    clear HV hqq
    go_enter Tryd.func15, Tryd.ntmps15
    go_wp2_with fail
    go_ret
    exact ⟨by rw [HE.out]; rfl, rfl⟩
  · have e0 : ((q : Int) != 0) = true := by simp; omega
    by_cases h1 : q = 127
    · have e1 : ((q : Int) != 127) = false := by simp [h1]
      have HE := Lib.hid (show nextB n = false by rw [HV.out]; simp [h1])
      clear HV hqq
      go_enter Tryd.func15, Tryd.ntmps15
      go_wp2_with fail
      go_ret
      exact ⟨by rw [HE.out]; rfl, rfl⟩
    · have e1 : ((q : Int) != 127) = true := by simp; omega
      have HE := Lib.hid (show nextB n = decide ((q : Int) < 224) by rw [HV.out, show (q == 0) = false from by simpa using h0, show (q == 127) = false from by simpa using h1]; exact dec224 q)
      clear HV hqq
      go_enter Tryd.func15, Tryd.ntmps15
      go_wp2_with fail
      go_ret
      exact ⟨by rw [HE.out]; rfl, rfl⟩
set_option maxHeartbeats 1600000 in
theorem Next_any (n : Nat) (w : World) (hn : n < 4294967296) :
    Calls Tryd.prog 14 #[.int .u32 (n : Int)] w fun e w' => e = .returned (.bool (nextB n)) ∧ w = w' := by
  have hi : (n : Int) ≤ 4294967295 := by omega
  have hd : ((n : Int) / 16777216) = ((n / 16777216 : Nat) : Int) := by omega
  have HV := Lib.hid (show nextB n = (!(n / 16777216 == 0) && !(n / 16777216 == 127) && decide (n / 16777216 < 224)) from rfl)
  have hq : n / 16777216 < 256 := by omega
  obtain ⟨q, hqq⟩ : ∃ q, q = n / 16777216 := ⟨_, rfl⟩
  rw [← hqq] at hd HV hq
  have HD := Lib.hid hd
  by_cases h0 : q = 0
  · have e0 : ((q : Int) != 0) = false := by simp [h0]
    have HE := Lib.hid (show nextB n = false by rw [HV.out]; simp [h0])
    clear HV hqq
    go_enter Tryd.func14, Tryd.ntmps14
    go_wp2_with fail
    go_ret
    exact ⟨by rw [HE.out]; rfl, rfl⟩
  · have e0 : ((q : Int) != 0) = true := by simp; omega
    by_cases h1 : q = 127
    · have e1 : ((q : Int) != 127) = false := by simp [h1]
      have HE := Lib.hid (show nextB n = false by rw [HV.out]; simp [h1])
      clear HV hqq
      go_enter Tryd.func14, Tryd.ntmps14
      go_wp2_with fail
      go_ret
      exact ⟨by rw [HE.out]; rfl, rfl⟩
    · have e1 : ((q : Int) != 127) = true := by simp; omega
      have HE := Lib.hid (show nextB n = decide ((q : Int) < 224) by rw [HV.out, show (q == 0) = false from by simpa using h0, show (q == 127) = false from by simpa using h1]; exact dec224 q)
      clear HV hqq
      go_enter Tryd.func14, Tryd.ntmps14
      go_wp2_with fail
      go_ret
      exact ⟨by rw [HE.out]; rfl, rfl⟩

/-- Attributes of which nothing is said, as a row. -/
def zeroRow : List Value := [.int .i64 0, .slice none 0 0, .int .u32 0, .int .i64 (-1), .int .i64 (-1), .bool false, .bool false, .int .u32 0, .int .u32 0, .slice none 0 0, .slice none 0 0]
set_option maxHeartbeats 1600000 in
theorem Zero_any (w : World) :
    Calls Tryd.prog 17 #[] w fun e w' => e = .returned (.agg zeroRow.toArray) ∧ Below w.heap.size w w' := by
  have hb0 := (Below.refl w.heap.size w).alloc (Nat.le_refl _) (.cells zeroRow.toArray 27)
  unfold zeroRow at hb0 ⊢
  go_enter Tryd.func17, Tryd.ntmps17
  go_wp2_with fail
  exact bodyPost_ret (v := .agg #[.int .i64 0, .slice none 0 0, .int .u32 0, .int .i64 (-1), .int .i64 (-1), .bool false, .bool false, .int .u32 0, .int .u32 0, .slice none 0 0, .slice none 0 0]) (by simp [results, Tryd.results17, go_sem, *]) rfl ⟨rfl, hb0⟩
set_option maxHeartbeats 1600000 in
theorem RefZero_any (w : World) :
    Calls Tryd.prog 18 #[] w fun e w' => e = .returned (.agg zeroRow.toArray) ∧ Below w.heap.size w w' := by
  have hb0 := (Below.refl w.heap.size w).alloc (Nat.le_refl _) (.cells zeroRow.toArray 27)
  unfold zeroRow at hb0 ⊢
  go_enter Tryd.func18, Tryd.ntmps18
  go_wp2_with fail
  exact bodyPost_ret (v := .agg #[.int .i64 0, .slice none 0 0, .int .u32 0, .int .i64 (-1), .int .i64 (-1), .bool false, .bool false, .int .u32 0, .int .u32 0, .slice none 0 0, .slice none 0 0]) (by simp [results, Tryd.results18, go_sem, *]) rfl ⟨rfl, hb0⟩
end Go.Proofs.YtkpbldhkoobnaaaDoor

/-
  Whether two paths are the same: the program's answer and the document's.
-/
namespace Go.Proofs.YtkpbldhkoobnaaaDoor
set_option linter.unusedVariables false
set_option linter.unusedSimpArgs false
open Go.RowKit

set_option maxHeartbeats 1600000 in
theorem Same1_any (s t : Sg) (w : World) (h : Sg.Ok w w.heap.size s) (h' : Sg.Ok w w.heap.size t) :
    Calls Tryd.prog 64 #[.agg #[.int .i64 s.kind, .slice s.adr s.nums.length s.cap], .agg #[.int .i64 t.kind, .slice t.adr t.nums.length t.cap]] w fun e w' => e = .returned (.bool (sameS s t)) ∧ Below w.heap.size w w' := by
  have hb0 := (Below.refl w.heap.size w).alloc (Nat.le_refl _) (.cells #[.int .i64 s.kind, .slice s.adr s.nums.length s.cap] 87)
  have hb1 := hb0.alloc hb0.size (.cells #[.int .i64 t.kind, .slice t.adr t.nums.length t.cap] 87)
  have c1 := cells2 ((Blk.new w 87 [.int .i64 s.kind, .slice s.adr s.nums.length s.cap]).below ((Below.refl _ _).alloc (Nat.le_refl _) (.cells #[.int .i64 t.kind, .slice t.adr t.nums.length t.cap] 87)) (by simp))
  have c2 := cells2 (Blk.new (w.alloc (.cells #[.int .i64 s.kind, .slice s.adr s.nums.length s.cap] 87)) 87 [.int .i64 t.kind, .slice t.adr t.nums.length t.cap])
  simp only [alloc_sz] at c2
  have hm : s.nums.length ≤ 9223372036854775807 := by have h1 := h.1; have h2 := h.2.1; unfold maxLen at h2; omega
  have Q := Lib.hid (Equal32_any s.adr t.adr s.cap t.cap s.nums t.nums _ ((h.2.2.1.below hb1 (Nat.le_refl _)).lift hb1.size) ((h'.2.2.1.below hb1 (Nat.le_refl _)).lift hb1.size) hm)
  have HB := Lib.hid hb1
  clear h h' hb0 hb1
  by_cases hk : s.kind = t.kind
  · have hk1 : (s.kind == t.kind) = true := by simpa using hk
    have HE := Lib.hid (sameS_nums hk)
    clear hk
    go_enter Tryd.func64, Tryd.ntmps64
    go_wp2_with fail
    refine Q.out.mono ?_
    rintro e w1 ⟨rfl, m, rfl⟩
    go_wp2_with fail
    go_ret
    exact ⟨by rw [HE.out]; rfl, below_drewN HB.out _⟩
  · have hk1 : (s.kind == t.kind) = false := by simpa using hk
    have HE := Lib.hid (sameS_kind hk)
    clear hk
    go_enter Tryd.func64, Tryd.ntmps64
    go_wp2_with fail
    go_ret
    exact ⟨by rw [HE.out]; rfl, HB.out⟩

set_option maxHeartbeats 1600000 in
theorem EqualFunc_any (A A' : Option Addr) (c c' : Nat) (a b : List Sg) (w : World) (h : Segs w w.heap.size A a) (h' : Segs w w.heap.size A' b) (hl : a.length ≤ 1000000000) :
    Calls Tryd.prog 63 #[.slice A a.length c, .slice A' b.length c', .func (.func 64) #[] #[]] w fun e w' => e = .returned (.bool (sameP a b)) ∧ Below w.heap.size w w' := by
  have HS := Lib.hid h; have HS' := Lib.hid h'; clear h h'
  by_cases hlen : a.length = b.length
  · have HL := Lib.hid hlen
    rw [← hlen]
    clear hlen
    go_enter Tryd.func63, Tryd.ntmps63
    go_wp2_with fail
    go_loopw [17] (fun i wr => Below w.heap.size w wr ∧ ∃ j : Nat, j ≤ a.length ∧ i = .int .i64 (j : Int) ∧ Hid ((a.take j).map Sg.abs = (b.take j).map Sg.abs)) (fun i _ => a.length - (intOf i).toNat)
    case atStart => exact ⟨Below.refl _ _, 0, Nat.zero_le _, rfl, Lib.hid rfl⟩
    case round =>
      obtain ⟨hbr, j, hj, rfl, hsm⟩ := hrel
      by_cases hlt : j < a.length
      · obtain ⟨s, hs⟩ : ∃ s, a[j]? = some s := ⟨_, List.getElem?_eq_getElem hlt⟩
        obtain ⟨t, ht⟩ : ∃ t, b[j]? = some t := ⟨_, List.getElem?_eq_getElem (by rw [← HL.out]; exact hlt)⟩
        have S1 := HS.out.below hbr (Nat.le_refl _)
        have S2 := HS'.out.below hbr (Nat.le_refl _)
        obtain ⟨b1, off1, hA1, hb1, k1, k2, hok⟩ := S1.at hs
        obtain ⟨b2, off2, hA2, hb2, k3, k4, hok'⟩ := S2.at ht
        have HST := Lib.hid (sameP_step hs ht hsm.out)
        have hx0 := (Below.refl wr.heap.size wr).alloc (Nat.le_refl _) (.cells #[.int .i64 s.kind, .slice s.adr s.nums.length s.cap] 87)
        have hx1 := hx0.alloc hx0.size (.cells #[.int .i64 t.kind, .slice t.adr t.nums.length t.cap] 87)
        have Q := Lib.hid (Same1_any s t _ (((hok.lift hbr.size).below hx1 (Nat.le_refl _)).lift hx1.size) (((hok'.lift hbr.size).below hx1 (Nat.le_refl _)).lift hx1.size))
        have x3 := (hx0.cell (p := ⟨b2, off2 + j * 2, none⟩) (Nat.lt_of_lt_of_le hb2 hbr.size)).trans k3
        have x4 := (hx0.cell (p := ⟨b2, off2 + j * 2 + 1, none⟩) (Nat.lt_of_lt_of_le hb2 hbr.size)).trans k4
        have c1 := cells2 ((Blk.new wr 87 [.int .i64 s.kind, .slice s.adr s.nums.length s.cap]).below ((Below.refl _ _).alloc (Nat.le_refl _) (.cells #[.int .i64 t.kind, .slice t.adr t.nums.length t.cap] 87)) (by simp))
        have c2 := cells2 (Blk.new (wr.alloc (.cells #[.int .i64 s.kind, .slice s.adr s.nums.length s.cap] 87)) 87 [.int .i64 t.kind, .slice t.adr t.nums.length t.cap])
        simp only [alloc_sz] at c2
        have HX := Lib.hid (hbr.trans (hx1.mono hbr.size))
        have HJ := Lib.hid hlt
        subst hA1; subst hA2
        clear hs ht S1 S2 hok hok' hx0 hx1 hsm hbr
        cases hss : sameS s t with
        | true =>
          rw [hss] at Q
          have HN := Lib.hid (HST.out.1 hss)
          clear hss HST
          go_wp2_with (go_at_call 64; refine Q.out.mono ?_; rintro e w2 ⟨rfl, hb2⟩)
          go_roundw
          case rel => exact ⟨HX.out.trans (hb2.mono HX.out.size), j + 1, HJ.out, by go_num, HN⟩
          case measure => have := HJ.out; simp [intOf]; omega
        | false =>
          rw [hss] at Q
          have HN := Lib.hid (HST.out.2 hss)
          clear hss HST
          go_wp2_with (go_at_call 64; refine Q.out.mono ?_; rintro e w2 ⟨rfl, hb2⟩)
          go_ret
          exact ⟨by rw [HN.out]; rfl, HX.out.trans (hb2.mono HX.out.size)⟩
      · obtain rfl : j = a.length := by omega
        have HE := Lib.hid (sameP_end HL.out hsm.out)
        go_wp2_with fail
        go_ret
        exact ⟨by rw [HE.out]; rfl, hbr⟩
  · have hne : ((a.length : Int) != (b.length : Int)) = true := by simp; omega
    have HE := Lib.hid (sameP_len hlen)
    clear hlen
    go_enter Tryd.func63, Tryd.ntmps63
    go_wp2_with fail
    go_ret
    exact ⟨by rw [HE.out]; rfl, Below.refl _ _⟩

theorem Same3_any (A A' : Option Addr) (c c' : Nat) (a b : List Sg) (w : World) (h : Segs w w.heap.size A a) (h' : Segs w w.heap.size A' b) (hl : a.length ≤ 1000000000) :
    Calls Tryd.prog 34 #[.slice A a.length c, .slice A' b.length c'] w fun e w' => e = .returned (.bool (sameP a b)) ∧ Below w.heap.size w w' := by
  have Q := Lib.hid (EqualFunc_any A A' c c' a b w h h' hl); clear h h'
  go_enter Tryd.func34, Tryd.ntmps34
  go_wp2_with fail
  refine Q.out.mono ?_
  rintro e w1 ⟨rfl, hb1⟩
  go_wp2_with fail
  go_ret
  exact ⟨rfl, hb1⟩
end Go.Proofs.YtkpbldhkoobnaaaDoor

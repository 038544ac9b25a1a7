/-
  Whether two paths are the same: the program's answer and the document's.
-/
import Derived.Test.YtgnedkgniiondaaDoorEqual3
import Derived.Test.YtgnedkgniiondaaDoorOwnSeg
import Derived.Test.YtgnedkgniiondaaDoorOwnL
namespace Go.Proofs.YtgnedkgniiondaaDoor
set_option linter.unusedVariables false
set_option linter.unusedSimpArgs false
open Go.RowKit

theorem alloc_sz (w : World) (o : Obj) : (w.alloc o).heap.size = w.heap.size + 1 := by simp
/-- Are two segments, are two paths the same? -/
def sameS (s t : Sg) : Bool := decide (s.abs = t.abs)
def sameP (a b : List Sg) : Bool := decide (a.map Sg.abs = b.map Sg.abs)
theorem sameP_comm (a b : List Sg) : sameP a b = sameP b a := by
  unfold sameP
  rw [Bool.eq_iff_iff]
  simp only [decide_eq_true_eq]
  exact ⟨Eq.symm, Eq.symm⟩
theorem sameS_kind {s t : Sg} (h : ¬ s.kind = t.kind) : sameS s t = false := by
  unfold sameS Sg.abs
  exact decide_eq_false (fun e => h (by injection e))
theorem sameS_nums {s t : Sg} (h : s.kind = t.kind) : sameS s t = sameZ s.nums t.nums := by
  unfold sameS sameZ Sg.abs
  rw [Bool.eq_iff_iff]
  simp [h]
theorem sameP_step {a b : List Sg} {j : Nat} {s t : Sg} (hs : a[j]? = some s) (ht : b[j]? = some t) (h : (a.take j).map Sg.abs = (b.take j).map Sg.abs) :
    (sameS s t = true → (a.take (j + 1)).map Sg.abs = (b.take (j + 1)).map Sg.abs) ∧ (sameS s t = false → sameP a b = false) := by
  have hj := (List.getElem?_eq_some_iff.1 hs).1
  have e1 : a[j] = s := (List.getElem?_eq_some_iff.1 hs).2
  have hj2 := (List.getElem?_eq_some_iff.1 ht).1
  have e2 : b[j] = t := (List.getElem?_eq_some_iff.1 ht).2
  refine ⟨fun e => ?_, fun e => ?_⟩
  · have e3 : s.abs = t.abs := of_decide_eq_true e
    rw [List.take_succ_eq_append_getElem hj, List.take_succ_eq_append_getElem hj2, e1, e2, List.map_append, List.map_append, h]
    simp [e3]
  · unfold sameP
    refine decide_eq_false (fun e3 => ?_)
    have e4 : (a.map Sg.abs)[j]? = (b.map Sg.abs)[j]? := by rw [e3]
    rw [List.getElem?_map, List.getElem?_map, hs, ht] at e4
    have e5 : s.abs = t.abs := by simpa using e4
    have e6 : ¬ s.abs = t.abs := of_decide_eq_false e
    exact e6 e5
theorem sameP_end {a b : List Sg} (hl : a.length = b.length) (h : (a.take a.length).map Sg.abs = (b.take a.length).map Sg.abs) : sameP a b = true := by
  rw [List.take_length, hl, List.take_length] at h
  exact decide_eq_true h
theorem sameP_len {a b : List Sg} (hl : ¬ a.length = b.length) : sameP a b = false :=
  decide_eq_false (fun e => hl (by have := congrArg List.length e; simpa using this))

set_option maxHeartbeats 1600000 in
theorem Same1_any (s t : Sg) (w : World) (h : Sg.Ok w w.heap.size s) (h' : Sg.Ok w w.heap.size t) :
    Calls Tryd.prog 46 #[.agg #[.int .i64 s.kind, .slice s.adr s.nums.length s.cap], .agg #[.int .i64 t.kind, .slice t.adr t.nums.length t.cap]] w fun e w' => e = .returned (.bool (sameS s t)) ∧ Below w.heap.size w w' := by
  have hb0 := (Below.refl w.heap.size w).alloc (Nat.le_refl _) (.cells #[.int .i64 s.kind, .slice s.adr s.nums.length s.cap] 53)
  have hb1 := hb0.alloc hb0.size (.cells #[.int .i64 t.kind, .slice t.adr t.nums.length t.cap] 53)
  have c1 := cells2 ((Blk.new w 53 [.int .i64 s.kind, .slice s.adr s.nums.length s.cap]).below ((Below.refl _ _).alloc (Nat.le_refl _) (.cells #[.int .i64 t.kind, .slice t.adr t.nums.length t.cap] 53)) (by simp))
  have c2 := cells2 (Blk.new (w.alloc (.cells #[.int .i64 s.kind, .slice s.adr s.nums.length s.cap] 53)) 53 [.int .i64 t.kind, .slice t.adr t.nums.length t.cap])
  simp only [alloc_sz] at c2
  have hm : s.nums.length ≤ 9223372036854775807 := by have h1 := h.1; have h2 := h.2.1; unfold maxLen at h2; omega
  have Q := Lib.hid (Equal32_any s.adr t.adr s.cap t.cap s.nums t.nums _ ((h.2.2.1.below hb1 (Nat.le_refl _)).lift hb1.size) ((h'.2.2.1.below hb1 (Nat.le_refl _)).lift hb1.size) hm)
  have HB := Lib.hid hb1
  clear h h' hb0 hb1
  by_cases hk : s.kind = t.kind
  · have hk1 : (s.kind == t.kind) = true := by simpa using hk
    have HE := Lib.hid (sameS_nums hk)
    clear hk
    go_enter Tryd.func46, Tryd.ntmps46
    go_wp2_with fail
    refine Q.out.mono ?_
    rintro e w1 ⟨rfl, m, rfl⟩
    go_wp2_with fail
    go_ret
    exact ⟨by rw [HE.out]; rfl, below_drewN HB.out _⟩
  · have hk1 : (s.kind == t.kind) = false := by simpa using hk
    have HE := Lib.hid (sameS_kind hk)
    clear hk
    go_enter Tryd.func46, Tryd.ntmps46
    go_wp2_with fail
    go_ret
    exact ⟨by rw [HE.out]; rfl, HB.out⟩

set_option maxHeartbeats 1600000 in
theorem EqualFunc_any (A A' : Option Addr) (c c' : Nat) (a b : List Sg) (w : World) (h : Segs w w.heap.size A a) (h' : Segs w w.heap.size A' b) (hl : a.length ≤ 1000000000) :
    Calls Tryd.prog 45 #[.slice A a.length c, .slice A' b.length c', .func (.func 46) #[] #[]] w fun e w' => e = .returned (.bool (sameP a b)) ∧ Below w.heap.size w w' := by
  have HS := Lib.hid h; have HS' := Lib.hid h'; clear h h'
  by_cases hlen : a.length = b.length
  · have HL := Lib.hid hlen
    rw [← hlen]
    clear hlen
    go_enter Tryd.func45, Tryd.ntmps45
    go_wp2_with fail
    go_loopw [17] (fun i wr => Below w.heap.size w wr ∧ ∃ j : Nat, j ≤ a.length ∧ i = .int .i64 (j : Int) ∧ Hid ((a.take j).map Sg.abs = (b.take j).map Sg.abs)) (fun i _ => a.length - (intOf i).toNat)
    case atStart => exact ⟨Below.refl _ _, 0, Nat.zero_le _, rfl, Lib.hid rfl⟩
    case round =>
      obtain ⟨hbr, j, hj, rfl, hsm⟩ := hrel
      by_cases hlt : j < a.length
      · obtain ⟨s, hs⟩ : ∃ s, a[j]? = some s := ⟨_, List.getElem?_eq_getElem hlt⟩
        obtain ⟨t, ht⟩ : ∃ t, b[j]? = some t := ⟨_, List.getElem?_eq_getElem (by rw [← HL.out]; exact hlt)⟩
        have S1 := HS.out.below hbr (Nat.le_refl _)
        have S2 := HS'.out.below hbr (Nat.le_refl _)
        obtain ⟨b1, off1, hA1, hb1, k1, k2, hok⟩ := S1.at hs
        obtain ⟨b2, off2, hA2, hb2, k3, k4, hok'⟩ := S2.at ht
        have HST := Lib.hid (sameP_step hs ht hsm.out)
        have hx0 := (Below.refl wr.heap.size wr).alloc (Nat.le_refl _) (.cells #[.int .i64 s.kind, .slice s.adr s.nums.length s.cap] 53)
        have hx1 := hx0.alloc hx0.size (.cells #[.int .i64 t.kind, .slice t.adr t.nums.length t.cap] 53)
        have Q := Lib.hid (Same1_any s t _ (((hok.lift hbr.size).below hx1 (Nat.le_refl _)).lift hx1.size) (((hok'.lift hbr.size).below hx1 (Nat.le_refl _)).lift hx1.size))
        have x3 := (hx0.cell (p := ⟨b2, off2 + j * 2, none⟩) (Nat.lt_of_lt_of_le hb2 hbr.size)).trans k3
        have x4 := (hx0.cell (p := ⟨b2, off2 + j * 2 + 1, none⟩) (Nat.lt_of_lt_of_le hb2 hbr.size)).trans k4
        have c1 := cells2 ((Blk.new wr 53 [.int .i64 s.kind, .slice s.adr s.nums.length s.cap]).below ((Below.refl _ _).alloc (Nat.le_refl _) (.cells #[.int .i64 t.kind, .slice t.adr t.nums.length t.cap] 53)) (by simp))
        have c2 := cells2 (Blk.new (wr.alloc (.cells #[.int .i64 s.kind, .slice s.adr s.nums.length s.cap] 53)) 53 [.int .i64 t.kind, .slice t.adr t.nums.length t.cap])
        simp only [alloc_sz] at c2
        have HX := Lib.hid (hbr.trans (hx1.mono hbr.size))
        have HJ := Lib.hid hlt
        subst hA1; subst hA2
        clear hs ht S1 S2 hok hok' hx0 hx1 hsm hbr
        cases hss : sameS s t with
        | true =>
          rw [hss] at Q
          have HN := Lib.hid (HST.out.1 hss)
          clear hss HST
          go_wp2_with (go_at_call 46; refine Q.out.mono ?_; rintro e w2 ⟨rfl, hb2⟩)
          go_roundw
          case rel => exact ⟨HX.out.trans (hb2.mono HX.out.size), j + 1, HJ.out, by go_num, HN⟩
          case measure => have := HJ.out; simp [intOf]; omega
        | false =>
          rw [hss] at Q
          have HN := Lib.hid (HST.out.2 hss)
          clear hss HST
          go_wp2_with (go_at_call 46; refine Q.out.mono ?_; rintro e w2 ⟨rfl, hb2⟩)
          go_ret
          exact ⟨by rw [HN.out]; rfl, HX.out.trans (hb2.mono HX.out.size)⟩
      · obtain rfl : j = a.length := by omega
        have HE := Lib.hid (sameP_end HL.out hsm.out)
        go_wp2_with fail
        go_ret
        exact ⟨by rw [HE.out]; rfl, hbr⟩
  · have hne : ((a.length : Int) != (b.length : Int)) = true := by simp; omega
    have HE := Lib.hid (sameP_len hlen)
    clear hlen
    go_enter Tryd.func45, Tryd.ntmps45
    go_wp2_with fail
    go_ret
    exact ⟨by rw [HE.out]; rfl, Below.refl _ _⟩

theorem Same3_any (A A' : Option Addr) (c c' : Nat) (a b : List Sg) (w : World) (h : Segs w w.heap.size A a) (h' : Segs w w.heap.size A' b) (hl : a.length ≤ 1000000000) :
    Calls Tryd.prog 24 #[.slice A a.length c, .slice A' b.length c'] w fun e w' => e = .returned (.bool (sameP a b)) ∧ Below w.heap.size w w' := by
  have Q := Lib.hid (EqualFunc_any A A' c c' a b w h h' hl); clear h h'
  go_enter Tryd.func24, Tryd.ntmps24
  go_wp2_with fail
  refine Q.out.mono ?_
  rintro e w1 ⟨rfl, hb1⟩
  go_wp2_with fail
  go_ret
  exact ⟨rfl, hb1⟩
end Go.Proofs.YtgnedkgniiondaaDoor

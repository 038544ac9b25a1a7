/-
  Texts of this seat, put together: SameRaw4.
-/
import Derived.Test.YtnaangnmlbgmkaaGreatDoorRaw4Mg
/-
  Whether two raw attributes, two lists of them are the same.
-/
namespace Go.Proofs.YtnaangnmlbgmkaaGreatDoor
set_option linter.unusedVariables false
set_option linter.unusedSimpArgs false
open Go.RowKit

set_option maxHeartbeats 400000 in
theorem BytesEqual_any (A A' : Option Addr) (c c' : Nat) (l m : List UInt8) (w : World) (h : Bytes w A l) (h' : Bytes w A' m) :
    Calls Tryz.prog 112 #[.slice A l.length c, .slice A' m.length c'] w fun e w' => e = .returned (.bool (l == m)) ∧ w = w' := by
  have k1 := conv_bytes (d := 9) isBytes Tryz.underlying9 h c
  have k2 := conv_bytes (d := 9) isBytes Tryz.underlying9 h' c'
  clear h h'
  go_enter Tryz.func112, Tryz.ntmps112
  go_wp2_with fail
  go_ret
  exact ⟨rfl, rfl⟩

theorem alloc_sz4 (w : World) (o : Obj) : (w.alloc o).heap.size = w.heap.size + 1 := by simp
theorem cells3q {w : World} {g T : Nat} {u v x : Value} (h : Blk w g T [u, v, x]) : w.cell? ⟨g, 0, none⟩ = some u ∧ w.cell? ⟨g, 1, none⟩ = some v ∧ w.cell? ⟨g, 2, none⟩ = some x := ⟨h.cell 0, h.cell 1, h.cell 2⟩
/-- Are two raw attributes, are two lists of them the same? -/
def sameR (s t : Rw) : Bool := decide (s.abs = t.abs)
def sameRs (a b : List Rw) : Bool := decide (a.map Rw.abs = b.map Rw.abs)
theorem sameR_flags {s t : Rw} (h : ¬ s.flags = t.flags) : sameR s t = false := decide_eq_false (fun e => h (by injection e))
theorem sameR_ty {s t : Rw} (h : ¬ s.ty = t.ty) : sameR s t = false := decide_eq_false (fun e => h (by injection e with _ e; injection e))
theorem sameR_data {s t : Rw} (h1 : s.flags = t.flags) (h2 : s.ty = t.ty) : sameR s t = (s.data == t.data) := by
  unfold sameR Rw.abs
  rw [Bool.eq_iff_iff]
  simp [h1, h2]
theorem sameRs_step {a b : List Rw} {j : Nat} {s t : Rw} (hs : a[j]? = some s) (ht : b[j]? = some t) (h : (a.take j).map Rw.abs = (b.take j).map Rw.abs) :
    (sameR s t = true → (a.take (j + 1)).map Rw.abs = (b.take (j + 1)).map Rw.abs) ∧ (sameR s t = false → sameRs a b = false) := by
  have hj := (List.getElem?_eq_some_iff.1 hs).1
  have e1 : a[j] = s := (List.getElem?_eq_some_iff.1 hs).2
  have hj2 := (List.getElem?_eq_some_iff.1 ht).1
  have e2 : b[j] = t := (List.getElem?_eq_some_iff.1 ht).2
  refine ⟨fun e => ?_, fun e => ?_⟩
  · have e3 : s.abs = t.abs := of_decide_eq_true e
    rw [List.take_succ_eq_append_getElem hj, List.take_succ_eq_append_getElem hj2, e1, e2, List.map_append, List.map_append, h]
    simp [e3]
  · unfold sameRs
    refine decide_eq_false (fun e3 => ?_)
    have e4 : (a.map Rw.abs)[j]? = (b.map Rw.abs)[j]? := by rw [e3]
    rw [List.getElem?_map, List.getElem?_map, hs, ht] at e4
    have e5 : s.abs = t.abs := by simpa using e4
    have e6 : ¬ s.abs = t.abs := of_decide_eq_false e
    exact e6 e5
theorem sameRs_end {a b : List Rw} (hl : a.length = b.length) (h : (a.take a.length).map Rw.abs = (b.take a.length).map Rw.abs) : sameRs a b = true := by
  rw [List.take_length, hl, List.take_length] at h
  exact decide_eq_true h
theorem sameRs_len {a b : List Rw} (hl : ¬ a.length = b.length) : sameRs a b = false :=
  decide_eq_false (fun e => hl (by have := congrArg List.length e; simpa using this))

set_option maxHeartbeats 1600000 in
theorem sameRaw_any (s t : Rw) (w : World) (h : At w w.heap.size s.adr s.data) (h' : At w w.heap.size t.adr t.data) :
    Calls Tryz.prog 72 #[.agg #[.int .i64 s.flags, .int .i64 s.ty, .slice s.adr s.data.length s.cap], .agg #[.int .i64 t.flags, .int .i64 t.ty, .slice t.adr t.data.length t.cap]] w fun e w' => e = .returned (.bool (sameR s t)) ∧ Below w.heap.size w w' := by
  have hb0 := (Below.refl w.heap.size w).alloc (Nat.le_refl _) (.cells #[.int .i64 s.flags, .int .i64 s.ty, .slice s.adr s.data.length s.cap] 77)
  have hb1 := hb0.alloc hb0.size (.cells #[.int .i64 t.flags, .int .i64 t.ty, .slice t.adr t.data.length t.cap] 77)
  have c1 := cells3q ((Blk.new w 77 [.int .i64 s.flags, .int .i64 s.ty, .slice s.adr s.data.length s.cap]).below ((Below.refl _ _).alloc (Nat.le_refl _) (.cells #[.int .i64 t.flags, .int .i64 t.ty, .slice t.adr t.data.length t.cap] 77)) (by simp))
  have c2 := cells3q (Blk.new (w.alloc (.cells #[.int .i64 s.flags, .int .i64 s.ty, .slice s.adr s.data.length s.cap] 77)) 77 [.int .i64 t.flags, .int .i64 t.ty, .slice t.adr t.data.length t.cap])
  simp only [alloc_sz4] at c2
  have Q := Lib.hid (BytesEqual_any s.adr t.adr s.cap t.cap s.data t.data _ (At.bytes (h.below hb1 (Nat.le_refl _)) hb1.size) (At.bytes (h'.below hb1 (Nat.le_refl _)) hb1.size))
  have HB := Lib.hid hb1
  clear h h' hb0 hb1
  by_cases hk : s.flags = t.flags
  · have hk1 : (s.flags == t.flags) = true := by simpa using hk
    by_cases hk2 : s.ty = t.ty
    · have hk3 : (s.ty == t.ty) = true := by simpa using hk2
      have HE := Lib.hid (sameR_data hk hk2)
      clear hk hk2
      go_enter Tryz.func72, Tryz.ntmps72
      go_wp2_with fail
      refine Q.out.mono ?_
      rintro e w1 ⟨rfl, rfl⟩
      go_wp2_with fail
      go_ret
      exact ⟨by rw [HE.out]; rfl, HB.out⟩
    · have hk3 : (s.ty == t.ty) = false := by simpa using hk2
      have HE := Lib.hid (sameR_ty hk2)
      clear hk hk2
      go_enter Tryz.func72, Tryz.ntmps72
      go_wp2_with fail
      go_ret
      exact ⟨by rw [HE.out]; rfl, HB.out⟩
  · have hk1 : (s.flags == t.flags) = false := by simpa using hk
    have HE := Lib.hid (sameR_flags hk)
    clear hk
    go_enter Tryz.func72, Tryz.ntmps72
    go_wp2_with fail
    go_ret
    exact ⟨by rw [HE.out]; rfl, HB.out⟩

set_option maxHeartbeats 1600000 in
theorem EqualRaws_any (A A' : Option Addr) (c c' : Nat) (a b : List Rw) (w : World) (h : RwIn w w.heap.size A a) (h' : RwIn w w.heap.size A' b) (hl : a.length ≤ 1000000000) :
    Calls Tryz.prog 71 #[.slice A a.length c, .slice A' b.length c', .func (.func 72) #[] #[]] w fun e w' => e = .returned (.bool (sameRs a b)) ∧ Below w.heap.size w w' := by
  have HS := Lib.hid h; have HS' := Lib.hid h'; clear h h'
  by_cases hlen : a.length = b.length
  · have HL := Lib.hid hlen
    rw [← hlen]
    clear hlen
    go_enter Tryz.func71, Tryz.ntmps71
    go_wp2_with fail
    go_loopw [17] (fun i wr => Below w.heap.size w wr ∧ ∃ j : Nat, j ≤ a.length ∧ i = .int .i64 (j : Int) ∧ Hid ((a.take j).map Rw.abs = (b.take j).map Rw.abs)) (fun i _ => a.length - (intOf i).toNat)
    case atStart => exact ⟨Below.refl _ _, 0, Nat.zero_le _, rfl, Lib.hid rfl⟩
    case round =>
      obtain ⟨hbr, j, hj, rfl, hsm⟩ := hrel
      by_cases hlt : j < a.length
      · obtain ⟨s, hs⟩ : ∃ s, a[j]? = some s := ⟨_, List.getElem?_eq_getElem hlt⟩
        obtain ⟨t, ht⟩ : ∃ t, b[j]? = some t := ⟨_, List.getElem?_eq_getElem (by rw [← HL.out]; exact hlt)⟩
        have S1 := HS.out.below hbr (Nat.le_refl _)
        have S2 := HS'.out.below hbr (Nat.le_refl _)
        obtain ⟨b1, off1, hA1, hb1, k1, k2, k3, hok⟩ := S1.at hs
        obtain ⟨b2, off2, hA2, hb2, k4, k5, k6, hok'⟩ := S2.at ht
        have HST := Lib.hid (sameRs_step hs ht hsm.out)
        have hx0 := (Below.refl wr.heap.size wr).alloc (Nat.le_refl _) (.cells #[.int .i64 s.flags, .int .i64 s.ty, .slice s.adr s.data.length s.cap] 77)
        have hx1 := hx0.alloc hx0.size (.cells #[.int .i64 t.flags, .int .i64 t.ty, .slice t.adr t.data.length t.cap] 77)
        have Q := Lib.hid (sameRaw_any s t _ (((hok.lift hbr.size).below hx1 (Nat.le_refl _)).lift hx1.size) (((hok'.lift hbr.size).below hx1 (Nat.le_refl _)).lift hx1.size))
        have x4 := (hx0.cell (p := ⟨b2, off2 + j * 3, none⟩) (Nat.lt_of_lt_of_le hb2 hbr.size)).trans k4
        have x5 := (hx0.cell (p := ⟨b2, off2 + j * 3 + 1, none⟩) (Nat.lt_of_lt_of_le hb2 hbr.size)).trans k5
        have x6 := (hx0.cell (p := ⟨b2, off2 + j * 3 + 2, none⟩) (Nat.lt_of_lt_of_le hb2 hbr.size)).trans k6
        have c1 := cells3q ((Blk.new wr 77 [.int .i64 s.flags, .int .i64 s.ty, .slice s.adr s.data.length s.cap]).below ((Below.refl _ _).alloc (Nat.le_refl _) (.cells #[.int .i64 t.flags, .int .i64 t.ty, .slice t.adr t.data.length t.cap] 77)) (by simp))
        have c2 := cells3q (Blk.new (wr.alloc (.cells #[.int .i64 s.flags, .int .i64 s.ty, .slice s.adr s.data.length s.cap] 77)) 77 [.int .i64 t.flags, .int .i64 t.ty, .slice t.adr t.data.length t.cap])
        simp only [alloc_sz4] at c2
        have HX := Lib.hid (hbr.trans (hx1.mono hbr.size))
        have HJ := Lib.hid hlt
        subst hA1; subst hA2
        clear hs ht S1 S2 hok hok' hx0 hx1 hsm hbr
        cases hss : sameR s t with
        | true =>
          rw [hss] at Q
          have HN := Lib.hid (HST.out.1 hss)
          clear hss HST
          go_wp2_with (go_at_call 72; refine Q.out.mono ?_; rintro e w2 ⟨rfl, hb2⟩)
          go_roundw
          case rel => exact ⟨HX.out.trans (hb2.mono HX.out.size), j + 1, HJ.out, by go_num, HN⟩
          case measure => have := HJ.out; simp [intOf]; omega
        | false =>
          rw [hss] at Q
          have HN := Lib.hid (HST.out.2 hss)
          clear hss HST
          go_wp2_with (go_at_call 72; refine Q.out.mono ?_; rintro e w2 ⟨rfl, hb2⟩)
          go_ret
          exact ⟨by rw [HN.out]; rfl, HX.out.trans (hb2.mono HX.out.size)⟩
      · obtain rfl : j = a.length := by omega
        have HE := Lib.hid (sameRs_end HL.out hsm.out)
        go_wp2_with fail
        go_ret
        exact ⟨by rw [HE.out]; rfl, hbr⟩
  · have hne : ((a.length : Int) != (b.length : Int)) = true := by simp; omega
    have HE := Lib.hid (sameRs_len hlen)
    clear hlen
    go_enter Tryz.func71, Tryz.ntmps71
    go_wp2_with fail
    go_ret
    exact ⟨by rw [HE.out]; rfl, Below.refl _ _⟩
end Go.Proofs.YtnaangnmlbgmkaaGreatDoor

/-
  Where the cursor of a number stands, if it is the owner's.
-/
import Derived.Test.YtgaoonnokhlgjaaGoR26
namespace Go.Proofs.Ytgaoonnokhlgjaa
set_option linter.unusedVariables false
set_option linter.unusedSimpArgs false
open Go.RowKit

/-- Is it that owner's, of that number? -/
def hitU (o i : Int) (c : Cu) : Bool := (c.id == i) && (c.owner == o)
theorem find1_any (c : Cu) (x y : Nat) (i o : Int) (w : World) (hx : x < w.heap.size) (hy : y < w.heap.size) (h : w.cell? ⟨x, 0, none⟩ = some (.int .i64 i)) (h' : w.cell? ⟨y, 0, none⟩ = some (.int .i64 o)) :
    Calls Try.prog 37 #[aggS c.row, .pointer (some ⟨x, 0, none⟩), .pointer (some ⟨y, 0, none⟩)] w fun e w' => e = .returned (.bool (hitU o i c)) ∧ Below w.heap.size w w' := by
  have HX := Lib.hid hx; have HY := Lib.hid hy; have HC := Lib.hid h; have HD := Lib.hid h'
  unfold hitU
  clear hx hy h h'
  cases hid : c.id == i
  · have HI := Lib.hid hid
    go_enter Try.func37, Try.ntmps37
    go_wp2_with (refine wpList_boxS _ rfl (.tmp 0) rfl (run_boxP26 _ c) rfl ?_)
    intro w1 k1 hb1 hz1
    have c0 : w1.cell? ⟨w.heap.size, 0, none⟩ = some (.int .i64 c.id) := k1.cell 0
    have c3 : w1.cell? ⟨w.heap.size, 1, none⟩ = some (.int .i64 c.owner) := k1.cell 1
    have c1 : w1.cell? ⟨x, 0, none⟩ = some (.int .i64 i) := (hb1.cell (p := ⟨x, 0, none⟩) HX.out).trans HC.out
    have c2 : w1.cell? ⟨y, 0, none⟩ = some (.int .i64 o) := (hb1.cell (p := ⟨y, 0, none⟩) HY.out).trans HD.out
    have HB := Lib.hid hb1
    clear k1 hb1 hz1
    go_wp2_with fail
    go_ret
    exact ⟨rfl, HB.out⟩
  · have HI := Lib.hid hid
    go_enter Try.func37, Try.ntmps37
    go_wp2_with (refine wpList_boxS _ rfl (.tmp 0) rfl (run_boxP26 _ c) rfl ?_)
    intro w1 k1 hb1 hz1
    have c0 : w1.cell? ⟨w.heap.size, 0, none⟩ = some (.int .i64 c.id) := k1.cell 0
    have c3 : w1.cell? ⟨w.heap.size, 1, none⟩ = some (.int .i64 c.owner) := k1.cell 1
    have c1 : w1.cell? ⟨x, 0, none⟩ = some (.int .i64 i) := (hb1.cell (p := ⟨x, 0, none⟩) HX.out).trans HC.out
    have c2 : w1.cell? ⟨y, 0, none⟩ = some (.int .i64 o) := (hb1.cell (p := ⟨y, 0, none⟩) HY.out).trans HD.out
    have HB := Lib.hid hb1
    clear k1 hb1 hz1
    go_wp2_with fail
    go_ret
    exact ⟨rfl, HB.out⟩
/-- Where the first one that is hit stands. -/
def posU (L : List Cu) (o i : Int) : Option Nat := L.findIdx? (hitU o i)
theorem posU_at {L : List Cu} {o i : Int} {k : Nat} {c : Cu} (hc : L[k]? = some c) (hh : hitU o i c = true) (hno : ∀ x ∈ L.take k, hitU o i x = false) : posU L o i = some k := by
  obtain ⟨hk, rfl⟩ := List.getElem?_eq_some_iff.1 hc
  unfold posU
  rw [List.findIdx?_eq_some_iff_getElem]
  refine ⟨hk, hh, fun j hj => ?_⟩
  have := hno L[j] (by rw [List.mem_take_iff_getElem]; exact ⟨j, by omega, rfl⟩)
  simp [this]
theorem posU_no {L : List Cu} {o i : Int} (hno : ∀ x ∈ L, hitU o i x = false) : posU L o i = none := by
  unfold posU
  rw [List.findIdx?_eq_none_iff]
  exact hno
theorem posU_some {L : List Cu} {o i : Int} {k : Nat} (h : posU L o i = some k) : ∃ c, L[k]? = some c ∧ hitU o i c = true := by
  unfold posU at h
  rw [List.findIdx?_eq_some_iff_getElem] at h
  obtain ⟨hk, h1, _⟩ := h
  exact ⟨L[k], List.getElem?_eq_getElem hk, h1⟩
theorem take_no {L : List Cu} {o i : Int} {j : Nat} {c : Cu} (hc : L[j]? = some c) (hh : hitU o i c = false) (hno : ∀ x ∈ L.take j, hitU o i x = false) : ∀ x ∈ L.take (j + 1), hitU o i x = false := by
  obtain ⟨hj, rfl⟩ := List.getElem?_eq_some_iff.1 hc
  intro x hx
  rw [List.take_succ_eq_append_getElem hj] at hx
  rcases List.mem_append.1 hx with hx | hx
  · exact hno x hx
  · rw [List.mem_singleton.1 hx]; exact hh
def posZ (L : List Cu) (o i : Int) : Int := match posU L o i with
  | some k => (k : Int)
  | none => -1
set_option maxRecDepth 100000 in
set_option maxHeartbeats 3200000 in
theorem Index26_any (A : Option Addr) (d : Nat) (L : List Cu) (B x y : Nat) (i o : Int) (w : World) (h : RowsU w 36 B A L) (hl : L.length ≤ 1000) (hx : x < w.heap.size) (hy : y < w.heap.size) (h1 : w.cell? ⟨x, 0, none⟩ = some (.int .i64 i)) (h2 : w.cell? ⟨y, 0, none⟩ = some (.int .i64 o)) :
    Calls Try.prog 36 #[.slice A L.length d, .func (.func 37) #[] #[.pointer (some ⟨x, 0, none⟩), .pointer (some ⟨y, 0, none⟩)]] w fun e w' => e = .returned (.int .i64 (posZ L o i)) ∧ Below w.heap.size w w' := by
  have HA := Lib.hid h; have HX := Lib.hid hx; have HY := Lib.hid hy; have H1 := Lib.hid h1; have H2 := Lib.hid h2; have HL := Lib.hid hl
  clear h hx hy h1 h2
  go_enter Try.func36, Try.ntmps36
  go_wp2_with fail
  go_loopw [8] (fun v wr => Below w.heap.size w wr ∧ ∃ j : Nat, j ≤ L.length ∧ v = .int .i64 (j : Int) ∧ Hid (∀ x ∈ L.take j, hitU o i x = false)) (fun v _ => L.length - (intOf v).toNat)
  case atStart => exact ⟨Below.refl _ _, 0, Nat.zero_le _, rfl, Lib.hid (fun x hx => by simp at hx)⟩
  case round =>
    obtain ⟨hbr, j, hj, rfl, hno⟩ := hrel
    by_cases hlt : j < L.length
    · obtain ⟨c, hc⟩ : ∃ c, L[j]? = some c := ⟨_, List.getElem?_eq_getElem hlt⟩
      obtain ⟨b, off, rfl, hb, hr⟩ := (HA.out.below hbr).at hc
      have HR := Lib.hid hr; have HLT := Lib.hid hlt
      have Q := Lib.hid (find1_any c x y i o wr (Nat.lt_of_lt_of_le HX.out hbr.size) (Nat.lt_of_lt_of_le HY.out hbr.size) ((hbr.cell (p := ⟨x, 0, none⟩) HX.out).trans H1.out) ((hbr.cell (p := ⟨y, 0, none⟩) HY.out).trans H2.out))
      have HBR := Lib.hid hbr
      have hi0 : (0 : Int) ≤ (j : Int) := by omega
      have hi1 : (j : Int) < (L.length : Int) := by omega
      clear hr hb hbr hj
      cases hh : hitU o i c with
      | true =>
        have HP := Lib.hid (posU_at hc hh hno.out)
        rw [hh] at Q
        clear hh hc hno
        go_wp2_with (refine wpList_loadS _ (isP c) rfl (.tmp 14) rfl b (off + j * 16) rfl HR.out ?_)
        refine Q.out.mono ?_
        rintro e w3 ⟨rfl, hb3⟩
        have HB3 := Lib.hid (HBR.out.trans (hb3.mono HBR.out.size))
        clear hb3
        go_wp2_with fail
        go_ret
        exact ⟨by simp [posZ, HP.out], HB3.out⟩
      | false =>
        have HP := Lib.hid (take_no hc hh hno.out)
        rw [hh] at Q
        clear hh hc hno
        go_wp2_with (refine wpList_loadS _ (isP c) rfl (.tmp 14) rfl b (off + j * 16) rfl HR.out ?_)
        refine Q.out.mono ?_
        rintro e w3 ⟨rfl, hb3⟩
        have HB3 := Lib.hid (HBR.out.trans (hb3.mono HBR.out.size))
        clear hb3
        go_wp2_with fail
        go_roundw
        case rel => exact ⟨HB3.out, j + 1, HLT.out, by go_num, HP⟩
        case measure => have hm := HLT.out; simp [intOf] at hm ⊢; try omega
    · obtain rfl : j = L.length := by omega
      have hno2 := hno.out
      rw [List.take_length] at hno2
      have HP := Lib.hid (posU_no hno2)
      clear hno hno2
      go_wp2_with fail
      go_ret
      exact ⟨by simp [posZ, HP.out], hbr⟩
theorem find26_nil (o i : Int) (w : World) :
    Calls Try.prog 30 #[.pointer none, .int .i64 o, .int .i64 i] w fun e w' => e = .returned (.tuple #[.int .i64 0, .bool false]) ∧ Below w.heap.size w w' := by
  go_enter Try.func30, Try.ntmps30
  go_wp2_with fail
  go_ret2
  exact ⟨rfl, ((Below.refl _ _).alloc (Nat.le_refl _) _).alloc (by simp) _⟩
set_option maxHeartbeats 1600000 in
theorem find26_some (g : Nat) (mo li la : Int) (v : Value) (L : List Cu) (o i : Int) (k : Nat) (hk : posU L o i = some k) (w : World) (h : Tab w g mo li la v L) :
    Calls Try.prog 30 #[.pointer (some ⟨g, 0, none⟩), .int .i64 o, .int .i64 i] w fun e w' => e = .returned (.tuple #[.int .i64 ((k : Int)), .bool true]) ∧ Below w.heap.size w w' := by
  obtain ⟨A, d, rfl, h1, h2⟩ := h.own.form
  have hb2 := ((Below.refl w.heap.size w).alloc (Nat.le_refl _) (.cells #[.int .i64 o] 3)).alloc (by simp) (.cells #[.int .i64 i] 3)
  have k1 : Blk ((w.alloc (.cells #[.int .i64 o] 3)).alloc (.cells #[.int .i64 i] 3)) (w.heap.size + 1) 3 [.int .i64 i] := by
    have := Blk.new (w.alloc (.cells #[.int .i64 o] 3)) 3 [.int .i64 i]
    simpa using this
  have k0 : Blk ((w.alloc (.cells #[.int .i64 o] 3)).alloc (.cells #[.int .i64 i] 3)) w.heap.size 3 [.int .i64 o] := (Blk.new w 3 [.int .i64 o]).below ((Below.refl _ _).alloc (Nat.le_refl _) _) (by simp)
  have Q := Lib.hid (Index26_any A d L (g + 1) (w.heap.size + 1) w.heap.size i o _ (h.own.rows.below hb2) (by have := h.few; omega) k1.lt k0.lt (k1.cell 0) (k0.cell 0))
  have hz : posZ L o i = (k : Int) := by unfold posZ; rw [hk]
  rw [hz] at Q
  have HB2 := Lib.hid hb2
  obtain ⟨c0, c1, c2, c3⟩ := cells4 (h.below hb2).blk
  clear h h1 h2 hb2 k0 k1 hz hk
  go_enter Try.func30, Try.ntmps30
  go_wp2_with fail
  refine Q.out.mono ?_
  rintro e w3 ⟨rfl, hb3⟩
  have HB3 := Lib.hid (HB2.out.trans (hb3.mono HB2.out.size))
  clear hb3
  go_wp2_with fail
  go_ret2
  exact ⟨rfl, HB3.out⟩
set_option maxHeartbeats 1600000 in
theorem find26_none (g : Nat) (mo li la : Int) (v : Value) (L : List Cu) (o i : Int) (hk : posU L o i = none) (w : World) (h : Tab w g mo li la v L) :
    Calls Try.prog 30 #[.pointer (some ⟨g, 0, none⟩), .int .i64 o, .int .i64 i] w fun e w' => e = .returned (.tuple #[.int .i64 (-1), .bool false]) ∧ Below w.heap.size w w' := by
  obtain ⟨A, d, rfl, h1, h2⟩ := h.own.form
  have hb2 := ((Below.refl w.heap.size w).alloc (Nat.le_refl _) (.cells #[.int .i64 o] 3)).alloc (by simp) (.cells #[.int .i64 i] 3)
  have k1 : Blk ((w.alloc (.cells #[.int .i64 o] 3)).alloc (.cells #[.int .i64 i] 3)) (w.heap.size + 1) 3 [.int .i64 i] := by
    have := Blk.new (w.alloc (.cells #[.int .i64 o] 3)) 3 [.int .i64 i]
    simpa using this
  have k0 : Blk ((w.alloc (.cells #[.int .i64 o] 3)).alloc (.cells #[.int .i64 i] 3)) w.heap.size 3 [.int .i64 o] := (Blk.new w 3 [.int .i64 o]).below ((Below.refl _ _).alloc (Nat.le_refl _) _) (by simp)
  have Q := Lib.hid (Index26_any A d L (g + 1) (w.heap.size + 1) w.heap.size i o _ (h.own.rows.below hb2) (by have := h.few; omega) k1.lt k0.lt (k1.cell 0) (k0.cell 0))
  have hz : posZ L o i = -1 := by unfold posZ; rw [hk]
  rw [hz] at Q
  have HB2 := Lib.hid hb2
  obtain ⟨c0, c1, c2, c3⟩ := cells4 (h.below hb2).blk
  clear h h1 h2 hb2 k0 k1 hz hk
  go_enter Try.func30, Try.ntmps30
  go_wp2_with fail
  refine Q.out.mono ?_
  rintro e w3 ⟨rfl, hb3⟩
  have HB3 := Lib.hid (HB2.out.trans (hb3.mono HB2.out.size))
  clear hb3
  go_wp2_with fail
  go_ret2
  exact ⟨rfl, HB3.out⟩
end Go.Proofs.Ytgaoonnokhlgjaa

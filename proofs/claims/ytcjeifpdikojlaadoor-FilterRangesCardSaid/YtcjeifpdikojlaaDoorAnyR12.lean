/-
  Whether a prefix is in one of some ranges.
-/
import Derived.Test.YtcjeifpdikojlaaDoorRange12
import Derived.Test.YtcjeifpdikojlaaDoorRngsIn12
namespace Go.Proofs.YtcjeifpdikojlaaDoor
set_option linter.unusedVariables false
set_option linter.unusedSimpArgs false
open Go.RowKit

/-- Is a prefix in one of some ranges? -/
def anyR (L : List Rg) (b : Nat) (m : Int) : Bool := L.any fun x => inR (x.1 : Int) x.2.1 x.2.2.1 x.2.2.2 b m
theorem anyR_step {L : List Rg} {b j : Nat} {m : Int} {x : Rg} (hs : L[j]? = some x) (h : anyR (L.take j) b m = false) (hn : inR (x.1 : Int) x.2.1 x.2.2.1 x.2.2.2 b m = false) : anyR (L.take (j + 1)) b m = false := by
  have hj := (List.getElem?_eq_some_iff.1 hs).1
  have e : L[j] = x := (List.getElem?_eq_some_iff.1 hs).2
  rw [List.take_succ_eq_append_getElem hj, e]
  unfold anyR at h ⊢
  rw [List.any_append, h]
  simpa using hn
theorem anyR_now {L : List Rg} {b j : Nat} {m : Int} {x : Rg} (hs : L[j]? = some x) (hn : inR (x.1 : Int) x.2.1 x.2.2.1 x.2.2.2 b m = true) : anyR L b m = true := by
  unfold anyR
  rw [List.any_eq_true]
  exact ⟨x, List.mem_of_getElem? hs, hn⟩
/-- What a search leaves. -/
def Found12 (b : Bool) (e : Ending) : Prop := ∃ k : Int, e = .returned (.int .i64 k) ∧ -1 ≤ k ∧ k ≤ 1152921504606846976 ∧ decide (0 ≤ k) = b
/-- A prefix in a box. -/
def PBox (w : World) (g b : Nat) (m : Int) : Prop := (w.cell? ⟨g, 0, none⟩ = some (.int .u32 (b : Int)) ∧ w.cell? ⟨g, 1, none⟩ = some (.int .i64 m)) ∧ g < w.heap.size
theorem PBox.below {w w' : World} {g b : Nat} {m : Int} (h : PBox w g b m) (hb : Below w.heap.size w w') : PBox w' g b m :=
  ⟨⟨(hb.cell (p := ⟨g, 0, none⟩) h.2).trans h.1.1, (hb.cell (p := ⟨g, 1, none⟩) h.2).trans h.1.2⟩, Nat.lt_of_lt_of_le h.2 hb.size⟩
def B64 (m : Int) : Prop := -9223372036854775808 ≤ m ∧ m ≤ 9223372036854775807

set_option maxHeartbeats 1600000 in
theorem Any1_any (x : Rg) (g b : Nat) (m : Int) (w : World) (hx : RgOk x) (hg : PBox w g b m) (hb : b < 4294967296) (hm : B64 m) :
    Calls Tryd.prog 47 #[.agg #[.int .u32 (x.1 : Int), .int .i64 x.2.1, .int .i64 x.2.2.1, .int .i64 x.2.2.2], .pointer (some ⟨g, 0, none⟩)] w (RetBool w (inR (x.1 : Int) x.2.1 x.2.2.1 x.2.2.2 b m)) := by
  obtain ⟨a, n, mn, mx⟩ := x
  have hba := (Below.refl w.heap.size w).alloc (Nat.le_refl _) (.cells #[.int .u32 (a : Int), .int .i64 n, .int .i64 mn, .int .i64 mx] 35)
  have Q := Lib.hid (In12_any a b n mn mx m (w.alloc (.cells #[.int .u32 (a : Int), .int .i64 n, .int .i64 mn, .int .i64 mx] 35)) hx.1 hb hx.2.1 hx.2.2 hm.1 hm.2)
  obtain ⟨⟨c0, c1⟩, _⟩ := hg.below hba
  have HB := Lib.hid hba; clear hg hba hx
  go_enter Tryd.func47, Tryd.ntmps47
  go_wp2_with fail
  refine Q.out.mono ?_
  rintro e w1 ⟨rfl, hb1⟩
  go_wp2_with fail
  go_ret
  exact ⟨rfl, HB.out.trans (hb1.mono HB.out.size)⟩

set_option maxHeartbeats 1600000 in
theorem IndexR_any (A : Option Addr) (c : Nat) (L : List Rg) (g b : Nat) (m : Int) (w : World) (h : RngsIn w A L) (hr : ∀ s ∈ L, RgOk s) (hl : L.length ≤ 1152921504606846976) (hg : PBox w g b m) (hb : b < 4294967296) (hm : B64 m) :
    Calls Tryd.prog 62 #[.slice A L.length c, .func (.func 47) #[] #[.pointer (some ⟨g, 0, none⟩)]] w fun e w' => Found12 (anyR L b m) e ∧ Below w.heap.size w w' := by
  have HS := Lib.hid h; clear h
  have HG := Lib.hid hg; clear hg
  have HR := Lib.hid hr; clear hr
  go_enter Tryd.func62, Tryd.ntmps62
  go_wp2_with fail
  go_loopw [8] (fun i wr => Below w.heap.size w wr ∧ ∃ j : Nat, j ≤ L.length ∧ i = .int .i64 (j : Int) ∧ Hid (anyR (L.take j) b m = false)) (fun i _ => L.length - (intOf i).toNat)
  case atStart => exact ⟨Below.refl _ _, 0, Nat.zero_le _, rfl, Lib.hid (by simp [anyR])⟩
  case round =>
    obtain ⟨hbr, j, hj, rfl, hno⟩ := hrel
    by_cases hlt : j < L.length
    · obtain ⟨x, hs⟩ : ∃ s, L[j]? = some s := ⟨_, List.getElem?_eq_getElem hlt⟩
      obtain ⟨b', off, rfl, hb', k1, k2, k3, k4⟩ := (HS.out.below hbr).cell hs
      have Q := Lib.hid (Any1_any x g b m wr (HR.out x (List.mem_of_getElem? hs)) (HG.out.below hbr) hb hm)
      have HBR := Lib.hid hbr
      cases hn : inR (x.1 : Int) x.2.1 x.2.2.1 x.2.2.2 b m with
      | true =>
        rw [hn] at Q
        have HN := Lib.hid (anyR_now hs hn)
        clear hn hs
        go_wp2_with (go_at_call 47; refine Q.out.mono ?_; rintro e w2 ⟨rfl, hb2⟩)
        go_ret
        exact ⟨⟨_, rfl, by omega, by omega, by rw [HN.out]; simp⟩, HBR.out.trans (hb2.mono HBR.out.size)⟩
      | false =>
        rw [hn] at Q
        have HN := Lib.hid (anyR_step hs hno.out hn)
        clear hn hs
        go_wp2_with (go_at_call 47; refine Q.out.mono ?_; rintro e w2 ⟨rfl, hb2⟩)
        go_roundw
        case rel => exact ⟨HBR.out.trans (hb2.mono HBR.out.size), j + 1, by omega, by go_num, HN⟩
        case measure => simp [intOf]; omega
    · obtain rfl : j = L.length := by omega
      go_wp2_with fail
      go_ret
      exact ⟨⟨_, rfl, by omega, by omega, by have := hno.out; rw [List.take_length] at this; rw [this]; rfl⟩, hbr⟩

set_option maxHeartbeats 1600000 in
theorem ContainsR_any (A : Option Addr) (c : Nat) (L : List Rg) (g b : Nat) (m : Int) (w : World) (h : RngsIn w A L) (hr : ∀ s ∈ L, RgOk s) (hl : L.length ≤ 1152921504606846976) (hg : PBox w g b m) (hb : b < 4294967296) (hm : B64 m) :
    Calls Tryd.prog 46 #[.slice A L.length c, .func (.func 47) #[] #[.pointer (some ⟨g, 0, none⟩)]] w (RetBool w (anyR L b m)) := by
  have Q := Lib.hid (IndexR_any A c L g b m w h hr hl hg hb hm); clear h hg hr
  go_enter Tryd.func46, Tryd.ntmps46
  go_wp2_with fail
  refine Q.out.mono ?_
  rintro e w1 ⟨⟨k, rfl, f1, f2, hk⟩, hb1⟩
  have HK := Lib.hid hk; clear hk
  go_wp2_with fail
  go_ret
  exact ⟨by rw [← HK.out]; rfl, hb1⟩

set_option maxHeartbeats 1600000 in
theorem Any12_any (A : Option Addr) (c : Nat) (L : List Rg) (b : Nat) (m : Int) (w : World) (h : RngsIn w A L) (hr : ∀ s ∈ L, RgOk s) (hl : L.length ≤ 1152921504606846976) (hb : b < 4294967296) (hm : B64 m) :
    Calls Tryd.prog 24 #[.slice A L.length c, .agg #[.int .u32 (b : Int), .int .i64 m]] w (RetBool w (anyR L b m)) := by
  have hba := (Below.refl w.heap.size w).alloc (Nat.le_refl _) (.cells #[.int .u32 (b : Int), .int .i64 m] 33)
  have hk := Blk.new w 33 [.int .u32 (b : Int), .int .i64 m]
  have Q := Lib.hid (ContainsR_any A c L w.heap.size b m (w.alloc (.cells #[.int .u32 (b : Int), .int .i64 m] 33)) (h.below hba) hr hl ⟨⟨hk.cell 0, hk.cell 1⟩, by simp⟩ hb hm)
  have HB := Lib.hid hba; clear h hba hk hr
  go_enter Tryd.func24, Tryd.ntmps24
  go_wp2_with fail
  refine Q.out.mono ?_
  rintro e w1 ⟨rfl, hb1⟩
  go_wp2_with fail
  go_ret
  exact ⟨rfl, HB.out.trans (hb1.mono HB.out.size)⟩

set_option maxHeartbeats 1600000 in
theorem RefAny12_any (A : Option Addr) (c : Nat) (L : List Rg) (b : Nat) (m : Int) (w : World) (h : RngsIn w A L) (hr : ∀ s ∈ L, RgOk s) (hl : L.length ≤ 1152921504606846976) (hb : b < 4294967296) (hm : B64 m) :
    Calls Tryd.prog 25 #[.slice A L.length c, .agg #[.int .u32 (b : Int), .int .i64 m]] w (RetBool w (anyR L b m)) := by
  have hba := (Below.refl w.heap.size w).alloc (Nat.le_refl _) (.cells #[.int .u32 (b : Int), .int .i64 m] 33)
  have hk := Blk.new w 33 [.int .u32 (b : Int), .int .i64 m]
  have HG : Hid (PBox (w.alloc (.cells #[.int .u32 (b : Int), .int .i64 m] 33)) w.heap.size b m) := Lib.hid ⟨⟨hk.cell 0, hk.cell 1⟩, by simp⟩
  have HS := Lib.hid (h.below hba); clear h
  have HB := Lib.hid hba; clear hba hk
  have HR := Lib.hid hr; clear hr
  go_enter Tryd.func25, Tryd.ntmps25
  go_wp2_with fail
  go_loopw [5] (fun i wr => Below (w.alloc (.cells #[.int .u32 (b : Int), .int .i64 m] 33)).heap.size (w.alloc (.cells #[.int .u32 (b : Int), .int .i64 m] 33)) wr ∧ ∃ j : Nat, j ≤ L.length ∧ i = .int .i64 (j : Int) ∧ Hid (anyR (L.take j) b m = false)) (fun i _ => L.length - (intOf i).toNat)
  case atStart => exact ⟨Below.refl _ _, 0, Nat.zero_le _, rfl, Lib.hid (by simp [anyR])⟩
  case round =>
    obtain ⟨hbr, j, hj, rfl, hno⟩ := hrel
    by_cases hlt : j < L.length
    · obtain ⟨x, hs⟩ : ∃ s, L[j]? = some s := ⟨_, List.getElem?_eq_getElem hlt⟩
      obtain ⟨b', off, rfl, hb', k1, k2, k3, k4⟩ := HS.out.cell hs
      have HK : Hid (∀ w' : World, Below (w.alloc (.cells #[.int .u32 (b : Int), .int .i64 m] 33)).heap.size (w.alloc (.cells #[.int .u32 (b : Int), .int .i64 m] 33)) w' → (fun w' => w'.cell? ⟨b', off + j * 4, none⟩ = some (.int .u32 (x.1 : Int)) ∧ w'.cell? ⟨b', off + j * 4 + 1, none⟩ = some (.int .i64 x.2.1) ∧ w'.cell? ⟨b', off + j * 4 + 2, none⟩ = some (.int .i64 x.2.2.1) ∧ w'.cell? ⟨b', off + j * 4 + 3, none⟩ = some (.int .i64 x.2.2.2) ∧ w'.cell? ⟨w.heap.size, 0, none⟩ = some (.int .u32 (b : Int)) ∧ w'.cell? ⟨w.heap.size, 1, none⟩ = some (.int .i64 m)) w') := Lib.hid (fun w' hbb => ⟨(hbb.cell (p := ⟨b', off + j * 4, none⟩) hb').trans k1, (hbb.cell (p := ⟨b', off + j * 4 + 1, none⟩) hb').trans k2, (hbb.cell (p := ⟨b', off + j * 4 + 2, none⟩) hb').trans k3, (hbb.cell (p := ⟨b', off + j * 4 + 3, none⟩) hb').trans k4, (HG.out.below hbb).1.1, (HG.out.below hbb).1.2⟩)
      have HX := HR.out x (List.mem_of_getElem? hs)
      have Q := fun W => Lib.hid (RefIn12_any x.1 b x.2.1 x.2.2.1 x.2.2.2 m W HX.1 hb HX.2.1 HX.2.2 hm.1 hm.2)
      have hbc := hbr.drew
      have HC := HK.out _ hbc
      have HLT := Lib.hid hb'
      clear k1 k2 k3 k4 HX hb'
      cases hn : inR (x.1 : Int) x.2.1 x.2.2.1 x.2.2.2 b m with
      | true =>
        rw [hn] at Q
        have HN := Lib.hid (anyR_now hs hn)
        clear hn hs
        go_wp2_with fail
        go_region_held3 (fun w' => w'.cell? ⟨b', off + j * 4, none⟩ = some (.int .u32 (x.1 : Int)) ∧ w'.cell? ⟨b', off + j * 4 + 1, none⟩ = some (.int .i64 x.2.1) ∧ w'.cell? ⟨b', off + j * 4 + 2, none⟩ = some (.int .i64 x.2.2.1) ∧ w'.cell? ⟨b', off + j * 4 + 3, none⟩ = some (.int .i64 x.2.2.2) ∧ w'.cell? ⟨w.heap.size, 0, none⟩ = some (.int .u32 (b : Int)) ∧ w'.cell? ⟨w.heap.size, 1, none⟩ = some (.int .i64 m)) (exact HK.out _ hbc) ((go_at_call 23; refine (Q _).out.mono ?_; rintro e w2 ⟨rfl, hg⟩; replace hbc := hbc.trans (hg.mono hbc.size); clear hg))
        go_wp2_with fail
        go_ret
        exact ⟨by rw [HN.out]; rfl, HB.out.trans (hbc.mono (by simp))⟩
      | false =>
        rw [hn] at Q
        have HN := Lib.hid (anyR_step hs hno.out hn)
        clear hn hs
        go_wp2_with fail
        go_region_held3 (fun w' => w'.cell? ⟨b', off + j * 4, none⟩ = some (.int .u32 (x.1 : Int)) ∧ w'.cell? ⟨b', off + j * 4 + 1, none⟩ = some (.int .i64 x.2.1) ∧ w'.cell? ⟨b', off + j * 4 + 2, none⟩ = some (.int .i64 x.2.2.1) ∧ w'.cell? ⟨b', off + j * 4 + 3, none⟩ = some (.int .i64 x.2.2.2) ∧ w'.cell? ⟨w.heap.size, 0, none⟩ = some (.int .u32 (b : Int)) ∧ w'.cell? ⟨w.heap.size, 1, none⟩ = some (.int .i64 m)) (exact HK.out _ hbc) ((go_at_call 23; refine (Q _).out.mono ?_; rintro e w2 ⟨rfl, hg⟩; replace hbc := hbc.trans (hg.mono hbc.size); clear hg))
        go_wp2_with fail
        go_roundw
        case rel => exact ⟨hbc, j + 1, by omega, by go_num, HN⟩
        case measure => simp [intOf]; omega
    · obtain rfl : j = L.length := by omega
      go_wp2_with fail
      go_ret
      exact ⟨by have := hno.out; rw [List.take_length] at this; rw [this]; rfl, HB.out.trans (hbr.mono (by simp))⟩
end Go.Proofs.YtcjeifpdikojlaaDoor

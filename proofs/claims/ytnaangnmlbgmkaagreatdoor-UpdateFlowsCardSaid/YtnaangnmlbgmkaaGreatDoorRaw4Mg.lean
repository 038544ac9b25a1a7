/-
  Texts of this seat, put together: Raw4.
-/
import Derived.Test.YtnaangnmlbgmkaaGreatDoorLook4Mg
/-
  Raw attributes in memory, and whether they may be; numbers of four bytes, or none.
-/
namespace Go.Proofs.YtnaangnmlbgmkaaGreatDoor
set_option linter.unusedVariables false
set_option linter.unusedSimpArgs false
open Go.RowKit

/-- A raw attribute: its flags, its kind, where its bytes lie, the bytes. -/
structure Rw where
  flags : Int
  ty : Int
  adr : Option Addr
  cap : Nat
  data : List UInt8
def Rw.abs (s : Rw) : Int × Int × List UInt8 := (s.flags, s.ty, s.data)
/-- The slice's address A leads to the raw attributes L, in a block below B, and so do their bytes. -/
def RwIn (w : World) (B : Nat) (A : Option Addr) (L : List Rw) : Prop :=
  L ≠ [] → ∃ b off, A = some ⟨b, off, none⟩ ∧ b < B ∧ ∀ (j : Nat) (s : Rw), L[j]? = some s →
    w.cell? ⟨b, off + j * 3, none⟩ = some (.int .i64 s.flags) ∧ w.cell? ⟨b, off + j * 3 + 1, none⟩ = some (.int .i64 s.ty) ∧ w.cell? ⟨b, off + j * 3 + 2, none⟩ = some (.slice s.adr s.data.length s.cap) ∧ At w B s.adr s.data
theorem RwIn.nil (w : World) (B : Nat) (A : Option Addr) : RwIn w B A [] := fun h => absurd rfl h
section
variable {w w' : World} {B : Nat} {A : Option Addr} {L : List Rw}
theorem RwIn.below {B' : Nat} (h : RwIn w B A L) (hb : Below B' w w') (hB : B ≤ B') : RwIn w' B A L := by
  intro hl
  obtain ⟨b, off, rfl, hlt, hc⟩ := h hl
  refine ⟨b, off, rfl, hlt, fun j s hj => ?_⟩
  obtain ⟨h1, h2, h3, h4⟩ := hc j s hj
  exact ⟨(hb.cell (p := ⟨b, off + j * 3, none⟩) (Nat.lt_of_lt_of_le hlt hB)).trans h1, (hb.cell (p := ⟨b, off + j * 3 + 1, none⟩) (Nat.lt_of_lt_of_le hlt hB)).trans h2, (hb.cell (p := ⟨b, off + j * 3 + 2, none⟩) (Nat.lt_of_lt_of_le hlt hB)).trans h3, h4.below hb hB⟩
theorem RwIn.lift {B' : Nat} (h : RwIn w B A L) (hB : B ≤ B') : RwIn w B' A L := by
  intro hl
  obtain ⟨b, off, rfl, hlt, hc⟩ := h hl
  refine ⟨b, off, rfl, Nat.lt_of_lt_of_le hlt hB, fun j s hj => ?_⟩
  obtain ⟨h1, h2, h3, h4⟩ := hc j s hj
  exact ⟨h1, h2, h3, h4.lift hB⟩
theorem RwIn.at (h : RwIn w B A L) {j : Nat} {s : Rw} (hj : L[j]? = some s) : ∃ b off, A = some ⟨b, off, none⟩ ∧ b < B ∧
    w.cell? ⟨b, off + j * 3, none⟩ = some (.int .i64 s.flags) ∧ w.cell? ⟨b, off + j * 3 + 1, none⟩ = some (.int .i64 s.ty) ∧ w.cell? ⟨b, off + j * 3 + 2, none⟩ = some (.slice s.adr s.data.length s.cap) ∧ At w B s.adr s.data := by
  obtain ⟨b, off, hA, hlt, hc⟩ := h (by intro e; subst e; simp at hj)
  exact ⟨b, off, hA, hlt, hc j s hj⟩
end

/-- May a raw attribute be, behind one of kind a? -/
def rawOk (a : Int) (s : Int × Int × List UInt8) : Bool := decide (a < s.2.1) && decide (s.2.1 ≤ 255) && !knownB s.2.1 && decide (s.1 = 224) && decide (s.2.2.length ≤ 64)
/-- May raw attributes be, behind one of kind a? -/
def rawsF : Int → List (Int × Int × List UInt8) → Bool
  | _, [] => true
  | a, s :: L => rawOk a s && rawsF s.2.1 L
/-- The kind that lies ahead of the j'th. -/
def aheadN (L : List Rw) (j : Nat) : Int := match j with
  | 0 => -1
  | j + 1 => match L[j]? with
    | some s => s.ty
    | none => 0
theorem raws_drop {L : List Rw} {j : Nat} {s : Rw} (hs : L[j]? = some s) (a : Int) : rawsF a ((L.drop j).map Rw.abs) = (rawOk a s.abs && rawsF s.ty ((L.drop (j + 1)).map Rw.abs)) := by
  have h1 := (List.getElem?_eq_some_iff.1 hs).1
  have h2 := (List.getElem?_eq_some_iff.1 hs).2
  rw [List.drop_eq_getElem_cons h1, h2]
  rfl
theorem rawOk_no1 {a : Int} {s : Rw} (h : s.ty ≤ a) : rawOk a s.abs = false := by
  unfold rawOk Rw.abs
  have : ¬ a < s.ty := by omega
  simp [this]
theorem rawOk_no2 {a : Int} {s : Rw} (h : 255 < s.ty) : rawOk a s.abs = false := by
  unfold rawOk Rw.abs
  have : ¬ s.ty ≤ 255 := by omega
  simp [this]
theorem rawOk_no3 {a : Int} {s : Rw} (h : knownB s.ty = true) : rawOk a s.abs = false := by
  unfold rawOk Rw.abs
  simp [h]
theorem rawOk_no4 {a : Int} {s : Rw} (h : ¬ s.flags = 224) : rawOk a s.abs = false := by
  unfold rawOk Rw.abs
  simp [h]
theorem rawOk_no5 {a : Int} {s : Rw} (h : ¬ s.data.length ≤ 64) : rawOk a s.abs = false := by
  unfold rawOk Rw.abs
  simp [h]
theorem rawOk_yes {a : Int} {s : Rw} (h1 : a < s.ty) (h2 : s.ty ≤ 255) (h3 : knownB s.ty = false) (h4 : s.flags = 224) (h5 : s.data.length ≤ 64) : rawOk a s.abs = true := by
  unfold rawOk Rw.abs
  simp [h1, h2, h3, h4, h5]

set_option maxHeartbeats 6400000 in
theorem rightRaws_any (A : Option Addr) (c : Nat) (L : List Rw) (w : World) (ht : TabK w) (h : RwIn w w.heap.size A L) (hl : L.length ≤ 1152921504606846976) (hr : ∀ s ∈ L, s.data.length ≤ s.cap ∧ s.cap ≤ maxLen) :
    Calls Tryz.prog 116 #[.slice A L.length c] w fun e w' => e = .returned (.bool (rawsF (-1) (L.map Rw.abs) && decide (L.length ≤ 8))) ∧ Below w.heap.size w w' := by
  have HS := Lib.hid h; have HR := Lib.hid hr; have HT := Lib.hid ht
  obtain ⟨V, hV⟩ : ∃ V, V = (rawsF (-1) (L.map Rw.abs) && decide (L.length ≤ 8)) := ⟨_, rfl⟩
  rw [← hV]
  have HV := Lib.hid hV
  clear h hr ht hV
  go_enter Tryz.func116, Tryz.ntmps116
  go_wp2_with fail
  go_loopw [3, 8] (fun a i wr => Below w.heap.size w wr ∧ ∃ j : Nat, ∃ p : Int, j ≤ L.length ∧ i = .int .i64 (j : Int) ∧ a = .int .i64 p ∧ Hid (rawsF (-1) (L.map Rw.abs) = rawsF p ((L.drop j).map Rw.abs))) (fun _ i _ => L.length - (intOf i).toNat)
  case atStart => exact ⟨Below.refl _ _, 0, -1, Nat.zero_le _, rfl, rfl, Lib.hid (by rfl)⟩
  case round =>
    obtain ⟨hbr, j, p, hj, rfl, rfl, hno⟩ := hrel
    have HBR := Lib.hid hbr
    by_cases hlt : j < L.length
    · obtain ⟨s, hs⟩ : ∃ s, L[j]? = some s := ⟨_, List.getElem?_eq_getElem hlt⟩
      obtain ⟨b, off, rfl, hb, k1, k2, k3, hy⟩ := (HS.out.below hbr (Nat.le_refl _)).at hs
      have HD := Lib.hid (hno.out.trans (raws_drop hs p))
      have HN1 := Lib.hid (fun h => @rawOk_no1 p s h)
      have HN2 := Lib.hid (fun h => @rawOk_no2 p s h)
      have HN3 := Lib.hid (fun h => @rawOk_no3 p s h)
      have HN4 := Lib.hid (fun h => @rawOk_no4 p s h)
      have HN5 := Lib.hid (fun h => @rawOk_no5 p s h)
      have HY := Lib.hid (fun h1 h2 h3 h4 h5 => @rawOk_yes p s h1 h2 h3 h4 h5)
      have HF : ∀ B : Bool, rawOk p s.abs = false → B = (rawsF (-1) (L.map Rw.abs) && decide (L.length ≤ 8)) → B = false := by
        intro B h1 h2
        rw [h2, HD.out, h1]; rfl
      have HX := Lib.hid (HF V)
      obtain ⟨sf, st, sa, sc, sd⟩ := s
      dsimp only at k1 k2 k3 HN1 HN2 HN3 HN4 HN5 HY HD
      have kc := Blk.new wr 77 [.int .i64 sf, .int .i64 st, .slice sa sd.length sc]
      have c0 : World.cell? _ ⟨wr.heap.size, 0, none⟩ = some _ := kc.cell 0
      have c1 : World.cell? _ ⟨wr.heap.size, 1, none⟩ = some _ := kc.cell 1
      have c2 : World.cell? _ ⟨wr.heap.size, 2, none⟩ = some _ := kc.cell 2
      have hb1 := (Below.refl wr.heap.size wr).alloc (Nat.le_refl _) (.cells #[.int .i64 sf, .int .i64 st, .slice sa sd.length sc] 77)
      have HB1 := Lib.hid (hbr.trans (hb1.mono hbr.size))
      have QK := Lib.hid (Known_any st (wr.alloc (.cells #[.int .i64 sf, .int .i64 st, .slice sa sd.length sc] 77)) (HT.out.below HB1.out HT.out.lt))
      have HC := Lib.hid kc
      clear kc hb1 hy hs hbr hno HF
      by_cases h1 : st ≤ p
      · have HE := Lib.hid (HX.out (HN1.out h1) HV.out)
        clear HN1 HN2 HN3 HN4 HN5 HY
        go_wp2_with fail
        go_ret
        exact ⟨by rw [HE.out]; rfl, HB1.out⟩
      · by_cases h2 : 255 < st
        · have HE := Lib.hid (HX.out (HN2.out h2) HV.out)
          clear HN1 HN2 HN3 HN4 HN5 HY
          go_wp2_with fail
          go_ret
          exact ⟨by rw [HE.out]; rfl, HB1.out⟩
        · obtain ⟨K, hK⟩ : ∃ K, K = knownB st := ⟨_, rfl⟩
          rw [← hK] at QK
          have HK := Lib.hid hK
          clear hK
          cases K with
          | true =>
            have HE := Lib.hid (HX.out (HN3.out HK.out.symm) HV.out)
            clear HN1 HN2 HN3 HN4 HN5 HY HK
            go_wp2_with fail
            refine QK.out.mono ?_
            rintro e w2 ⟨rfl, hb2⟩
            have HB2 := Lib.hid (HB1.out.trans (hb2.mono HB1.out.size))
            clear hb2 QK
            go_wp2_with fail
            go_ret
            exact ⟨by rw [HE.out]; rfl, HB2.out⟩
          | false =>
            by_cases h4 : sf = 224
            · subst h4
              by_cases h5 : sd.length ≤ 64
              · have h5I : ¬ (64 : Int) < (sd.length : Int) := by omega
                have HE := Lib.hid (show rawsF (-1) (L.map Rw.abs) = rawsF st ((L.drop (j + 1)).map Rw.abs) by
                  rw [HD.out, HY.out (by omega) (by omega) HK.out.symm rfl h5]; rfl)
                clear HN1 HN2 HN3 HN4 HN5 HY HK HD HX
                go_wp2_with fail
                refine QK.out.mono ?_
                rintro e w2 ⟨rfl, hb2⟩
                have HB2 := Lib.hid (HB1.out.trans (hb2.mono HB1.out.size))
                have d0 : World.cell? _ ⟨wr.heap.size, 0, none⟩ = some _ := (HC.out.below hb2 HC.out.lt).cell 0
                have d1 : World.cell? _ ⟨wr.heap.size, 1, none⟩ = some _ := (HC.out.below hb2 HC.out.lt).cell 1
                have d2 : World.cell? _ ⟨wr.heap.size, 2, none⟩ = some _ := (HC.out.below hb2 HC.out.lt).cell 2
                clear hb2 QK
                go_wp2_with fail
                go_roundw
                case rel => exact ⟨HB2.out, j + 1, st, by omega, by go_num, rfl, HE⟩
                case measure => simp [intOf]; omega
              · have h5I : (64 : Int) < (sd.length : Int) := by omega
                have HE := Lib.hid (HX.out (HN5.out h5) HV.out)
                clear HN1 HN2 HN3 HN4 HN5 HY HK HD HX
                go_wp2_with fail
                refine QK.out.mono ?_
                rintro e w2 ⟨rfl, hb2⟩
                have HB2 := Lib.hid (HB1.out.trans (hb2.mono HB1.out.size))
                have d0 : World.cell? _ ⟨wr.heap.size, 0, none⟩ = some _ := (HC.out.below hb2 HC.out.lt).cell 0
                have d1 : World.cell? _ ⟨wr.heap.size, 1, none⟩ = some _ := (HC.out.below hb2 HC.out.lt).cell 1
                have d2 : World.cell? _ ⟨wr.heap.size, 2, none⟩ = some _ := (HC.out.below hb2 HC.out.lt).cell 2
                clear hb2 QK
                go_wp2_with fail
                go_ret
                exact ⟨by rw [HE.out]; rfl, HB2.out⟩
            · have h4b : (sf != 224) = true := by simp [h4]
              have HE := Lib.hid (HX.out (HN4.out h4) HV.out)
              clear HN1 HN2 HN3 HN4 HN5 HY HK HD HX
              go_wp2_with fail
              refine QK.out.mono ?_
              rintro e w2 ⟨rfl, hb2⟩
              have HB2 := Lib.hid (HB1.out.trans (hb2.mono HB1.out.size))
              have d0 : World.cell? _ ⟨wr.heap.size, 0, none⟩ = some _ := (HC.out.below hb2 HC.out.lt).cell 0
              clear hb2 QK
              go_wp2_with fail
              go_ret
              exact ⟨by rw [HE.out]; rfl, HB2.out⟩
    · obtain rfl : j = L.length := by omega
      have HE := Lib.hid (show V = decide ((L.length : Int) ≤ 8) by
        rw [HV.out, hno.out, List.drop_length]
        simp [rawsF]; omega)
      clear hno hbr
      go_wp2_with fail
      go_ret
      exact ⟨by rw [HE.out]; rfl, HBR.out⟩

set_option maxHeartbeats 800000 in
theorem mayBeSaid_any (n : Int) (w : World) :
    Calls Tryz.prog 115 #[.int .i64 n] w fun e w' => e = .returned (.bool (decide (-1 ≤ n) && decide (n ≤ 4294967295))) ∧ w = w' := by
  by_cases h1 : -1 ≤ n
  · go_enter Tryz.func115, Tryz.ntmps115
    go_wp2_with fail
    go_ret
    exact ⟨by simp [h1], rfl⟩
  · go_enter Tryz.func115, Tryz.ntmps115
    go_wp2_with fail
    go_ret
    exact ⟨by simp [h1]; omega, rfl⟩
end Go.Proofs.YtnaangnmlbgmkaaGreatDoor

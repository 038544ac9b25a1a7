/-
  Texts of this seat, put together: RefPut4.
-/
import Derived.Deep.DeepCutAuto
import Derived.Test.YtnaangnmlbgmkaaGreatDoorMg4
import Derived.Test.YtnaangnmlbgmkaaGreatDoorMg1
import Derived.Test.YtnaangnmlbgmkaaGreatDoorPutA4Mg
/-
  Attributes' bytes, as the document puts them (written by gen04d.py).
-/
namespace Go.Proofs.YtnaangnmlbgmkaaGreatDoor
set_option linter.unusedVariables false
set_option linter.unusedSimpArgs false
open Go.RowKit

/-- Between two of the document's attributes. -/
structure DocSt (w : World) (a : Av) (A : Option Addr) (c : Nat) (l : List UInt8) (W : World) : Prop where
  below : Below w.heap.size w W
  blk : Blk W w.heap.size 28 a.row
  cap : l.length ≤ c ∧ c ≤ maxLen
  out : Own W w.heap.size 5 (.slice A l.length c) l
theorem DocSt.later {w W W' : World} {a : Av} {A : Option Addr} {c : Nat} {l : List UInt8} (S : DocSt w a A c l W) (hb : Below W.heap.size W W') : DocSt w a A c l W' :=
  ⟨S.below.trans (hb.mono S.below.size), S.blk.below hb S.blk.lt, S.cap, S.out.below hb⟩
theorem DocSt.attr {w W : World} {a : Av} {A Ad : Option Addr} {c cd : Nat} {l d : List UInt8} (S : DocSt w a A c l W) (hd : Bytes W Ad d) (F K : Int) (f k n m : Nat) (hF : F = (f : Int)) (hK : K = (k : Int)) (hn : n = l.length) (hm : m = d.length) (hf : f ≤ 224) (hk : k < 256) (hl : l.length ≤ 1000000) (hdl : d.length ≤ 1000000)
    (L : List UInt8) (hL : L = l ++ oneB true f k d) :
    Calls Tryz.prog 50 #[.slice A n c, .int .i64 F, .int .i64 K, .slice Ad m cd] W fun e W' => ∃ A' c', e = .returned (.slice A' L.length c') ∧ DocSt w a A' c' L W' := by
  subst hF; subst hK; subst hn; subst hm
  have e : L = l ++ wholeL f k d := by rw [hL]; rfl
  refine (RefAttr4_any A Ad c cd l d f k W S.out.bytes hd hf hk hl hdl).mono fun e' W' h => ?_
  obtain ⟨A', c', rfl, h1, h2, ho, hb⟩ := h
  rw [← e] at ho h1
  rw [← e]
  exact ⟨A', c', rfl, S.below.trans (hb.mono S.below.size), S.blk.below hb S.blk.lt, ⟨h1, h2⟩, ho.lower S.below.size⟩
theorem put32_nil (x : Nat) (hx : x < 4294967296) (W : World) : Calls Tryz.prog 52 #[.slice none 0 0, .int .u32 (x : Int)] W (RetBytes W (numsB true [x])) := by
  have e : numsB true [x] = be32 (x : Int) := by simp [numsB, numB]
  rw [e]
  exact refPut32_any none 0 0 [] rfl (x : Int) W (by simp) (Bytes.nil _ _) (by omega) (by omega)
theorem oneB_off (f k : Nat) (d l : List UInt8) (b : Bool) (hb : b = false) : l ++ oneB b f k d = l := by subst hb; simp [oneB]
theorem sys_w (x : Nat) (hx : x < 4294967296) (W : World) : Calls Tryz.prog 52 #[.slice none 0 0, .int .u32 (x : Int)] W (RetBytes W (numB true x)) := by
  have e : numB true x = be32 (x : Int) := by simp [numB]
  rw [e]
  exact refPut32_any none 0 0 [] rfl (x : Int) W (by simp) (Bytes.nil _ _) (by omega) (by omega)
theorem sys_b (x : Nat) (hx : 65535 < x) (W : World) : Calls Tryz.prog 24 #[.slice none 0 0, .int .i64 23456] W (RetBytes W (numB false x)) := by
  have e : numB false x = be16 23456 := by unfold numB; rw [if_neg (by decide), if_pos hx]
  rw [e]
  exact refPut16_any none 0 0 [] rfl 23456 W (by simp) (Bytes.nil _ _) (by omega) (by omega)
theorem sys_s (x : Nat) (hx : ¬ 65535 < x) (W : World) : Calls Tryz.prog 24 #[.slice none 0 0, .int .i64 (x : Int)] W (RetBytes W (numB false x)) := by
  have e : numB false x = be16 (x : Int) := by unfold numB; rw [if_neg (by decide), if_neg hx]
  rw [e]
  exact refPut16_any none 0 0 [] rfl (x : Int) W (by simp) (Bytes.nil _ _) (by omega) (by omega)
/-- Where the loop over all numbers stands. -/
def BigRel (w : World) (z : List Nat) (b i : Value) (wr : World) : Prop := ∃ j : Nat, w = wr ∧ j ≤ z.length ∧ i = .int .i64 (j : Int) ∧ b = .bool (bigs (z.take j))
theorem bigs_keep {z : List Nat} {j : Nat} (hj : j < z.length) (h : bigs (z.take j) = true) : bigs (z.take (j + 1)) = true := by
  unfold bigs at h ⊢
  rw [List.take_succ_eq_append_getElem hj, List.any_append, h]
  rfl
theorem bigs_more {z : List Nat} {j : Nat} (hj : j < z.length) (h : bigs (z.take j) = false) : bigs (z.take (j + 1)) = bigB (z.getD j 0) := by
  have e : z.getD j 0 = z[j] := by simp [List.getD, hj]
  unfold bigs at h ⊢
  rw [List.take_succ_eq_append_getElem hj, List.any_append, h, e]
  simp
theorem flat_len4 : ∀ L : List Sg, (flatN L).length = totN L := by
  intro L
  induction L with
  | nil => rfl
  | cons s L ih => simp only [flatN, totN, List.flatMap_cons, List.length_append, List.map_cons, List.sum_cons] at ih ⊢; omega
theorem numB_le (wide : Bool) (x : Nat) : (numB wide x).length ≤ 4 := numB_len wide x
set_option maxHeartbeats 12800000 in
set_option maxRecDepth 100000 in
theorem RefPut4_ok (org next sa ad : Nat) (pa : Option Addr) (pc : Nat) (path : List Sg) (med pref : Int) (atomic has : Bool) (ca : Option Addr) (cc : Nat) (comms : List Nat) (ra : Option Addr) (rc : Nat) (raws : List Rw) (mm mp : Nat) (wide : Bool) (w : World)
    (hin : Av.In w w.heap.size ⟨(org : Int), pa, pc, path, (next : Int), med, pref, atomic, has, (sa : Int), (ad : Int), ca, cc, comms, ra, rc, raws⟩)
    (hR : ∀ W, Below w.heap.size w W → Calls Tryz.prog 14 #[.agg (Av.row ⟨(org : Int), pa, pc, path, (next : Int), med, pref, atomic, has, (sa : Int), (ad : Int), ca, cc, comms, ra, rc, raws⟩).toArray] W fun e W' => e = .returned (.bool true) ∧ Below W.heap.size W W')
    (ho : org < 256) (hn : next < 4294967296) (hsa : sa < 4294967296) (had : ad < 4294967296)
    (hwm : IntKind.u32.wrap med = (mm : Int)) (hmm : mm < 4294967296) (hwp : IntKind.u32.wrap pref = (mp : Int)) (hmp : mp < 4294967296)
    (hpl : path.length ≤ 12) (hpt : totN path ≤ 10000) (hcl : comms.length ≤ 10000) (hcf : ∀ n ∈ comms, n < 4294967296) (hrl : raws.length ≤ 1000) (hre : ∀ s ∈ raws, ∃ f t : Nat, s.flags = (f : Int) ∧ s.ty = (t : Int) ∧ f = 224 ∧ t < 256 ∧ s.data.length ≤ 64) :
    Calls Tryz.prog 23 #[.agg (Av.row ⟨(org : Int), pa, pc, path, (next : Int), med, pref, atomic, has, (sa : Int), (ad : Int), ca, cc, comms, ra, rc, raws⟩).toArray, .bool wide] w (RetPut w (putA org next sa ad path med pref mm mp atomic has comms raws wide)) := by
  obtain ⟨a, hA⟩ : ∃ a : Av, a = ⟨(org : Int), pa, pc, path, (next : Int), med, pref, atomic, has, (sa : Int), (ad : Int), ca, cc, comms, ra, rc, raws⟩ := ⟨_, rfl⟩
  have HPA := Lib.hid (show Segs w w.heap.size pa path from hin.path)
  have HCM := Lib.hid (show At32 w w.heap.size ca comms from hin.comms)
  have HRW := Lib.hid (show RwIn w w.heap.size ra raws from hin.raws)
  rw [← hA] at hin hR ⊢
  have hrow : a.row = [.int .i64 (org : Int), .slice pa path.length pc, .int .u32 (next : Int), .int .i64 med, .int .i64 pref, .bool atomic, .bool has, .int .u32 (sa : Int), .int .u32 (ad : Int), .slice ca comms.length cc, .slice ra raws.length rc] := by rw [hA]; rfl
  have hb0 := (Below.refl w.heap.size w).alloc (Nat.le_refl _) (.cells a.row.toArray 28)
  have hk0 := Blk.new w 28 a.row
  have q := hR _ hb0
  rw [hrow] at q hb0 hk0 ⊢
  have Q1 := Lib.hid q; have HB0 := Lib.hid hb0; have HK0 := Lib.hid hk0
  have HROW := Lib.hid hrow; have HCF := Lib.hid hcf
  have HPL := Lib.hid (show (putB wide path).length ≤ 60000 ∧ (putB true path).length ≤ 60000 from ⟨by have := putB_len wide path; omega, by have := putB_len true path; omega⟩)
  have HCL := Lib.hid (show (numsB true comms).length ≤ 40000 by have := numsB_len true comms; omega)
  have HPT := Lib.hid hpt; have HRE := Lib.hid hre; have HRL := Lib.hid hrl
  clear q hb0 hk0 hin hR hrow hcf hpt hA hre hrl
  go_enter Tryz.func23, Tryz.ntmps23
  go_wp2_with fail
  refine Q1.out.mono ?_
  rintro e w1 ⟨rfl, hb1⟩
  have S0 := Lib.hid (show DocSt w a none 0 [] w1 from ⟨HB0.out.trans (hb1.mono HB0.out.size), by rw [HROW.out]; exact HK0.out.below hb1 HK0.out.lt, ⟨by simp, by simp⟩, Own.nil _ _ _⟩)
  clear hb1 HB0 HK0 Q1
  obtain ⟨L1, hL1⟩ : ∃ L, L = ([] : List UInt8) ++ oneB true 64 1 [UInt8.ofNat org] := ⟨_, rfl⟩
  have hz1 : L1.length ≤ 5 := by have h2 := oneB_len true 64 1 [UInt8.ofNat org]; rw [hL1, List.length_append]; simp at h2 ⊢; omega
  have HE1 := Lib.hid hL1
  clear hL1
  have hkA := S0.out.blk
  rw [HROW.out] at hkA
  have f0 : w1.cell? ⟨w.heap.size, 0, none⟩ = some (.int .i64 (org : Int)) := hkA.cell 0
  clear hkA
  have hxa := (Below.refl w1.heap.size w1).alloc (Nat.le_refl _) (.cells #[.int .u8 (org : Int)] 5)
  have Q2 := Lib.hid ((S0.out.later hxa).attr (cd := 1) (d := [UInt8.ofNat org]) (bytes_one w1 5 (N := (org : Int)) (by omega) (by omega)) 64 1 64 1 0 1 rfl rfl rfl rfl (by decide) (by decide) (by simp) (by simp) L1 (by exact HE1.out))
  clear hxa
  go_wp2_with fail
  refine Q2.out.mono ?_
  rintro e w2 ⟨A2, c2, rfl, s2⟩
  have S2 := Lib.hid s2
  clear s2 Q2
  obtain ⟨L2, hL2⟩ : ∃ L, L = L1 ++ oneB true 64 2 (putB wide path) := ⟨_, rfl⟩
  have hz2 : L2.length ≤ 70000 := by have h1 := HPL.out.1; have h2 := oneB_len true 64 2 (putB wide path); rw [hL2, List.length_append]; omega
  have HE2 := Lib.hid hL2
  clear hL2
  have hkA := S2.out.blk
  rw [HROW.out] at hkA
  have f1 : w2.cell? ⟨w.heap.size, 1, none⟩ = some (.slice pa path.length pc) := hkA.cell 1
  clear hkA
  have Q3 := Lib.hid (RefPut3_any pa pc path wide w2 ((HPA.out.below S2.out.below (Nat.le_refl _)).lift S2.out.below.size) hpl (by have := HPT.out; omega))
  go_wp2_with fail
  refine Q3.out.mono ?_
  rintro e w3 ⟨A3, c3, rfl, g1, g2, ho3, hb3⟩
  have Q4 := Lib.hid ((S2.out.later hb3).attr (cd := c3) ho3.bytes 64 2 64 2 L1.length (putB wide path).length rfl rfl rfl rfl (by decide) (by decide) (by omega) (by have := HPL.out.1; omega) L2 HE2.out)
  clear g1 g2 ho3 hb3 Q3
  go_wp2_with fail
  refine Q4.out.mono ?_
  rintro e w4 ⟨A4, c4, rfl, s4⟩
  have S4 := Lib.hid s4
  clear s4 Q4
  obtain ⟨L3, hL3⟩ : ∃ L, L = L2 ++ oneB true 64 3 (numsB true [next]) := ⟨_, rfl⟩
  have hz3 : L3.length ≤ 70010 := by have h1 := nums_one next; have h2 := oneB_len true 64 3 (numsB true [next]); rw [hL3, List.length_append]; omega
  have HE3 := Lib.hid hL3
  clear hL3
  have hkA := S4.out.blk
  rw [HROW.out] at hkA
  have f2 : w4.cell? ⟨w.heap.size, 2, none⟩ = some (.int .u32 (next : Int)) := hkA.cell 2
  clear hkA
  go_wp2_with fail
  refine (put32_nil next hn w4).mono ?_
  rintro e v3 ⟨A3, c3, rfl, g1, g2, ho3, hb3⟩
  have Q4 := Lib.hid ((S4.out.later hb3).attr (cd := c3) ho3.bytes 64 3 64 3 L2.length (numsB true [next]).length rfl rfl rfl rfl (by decide) (by decide) (by omega) (by have := nums_one next; omega) L3 HE3.out)
  clear g1 g2 ho3 hb3
  go_wp2_with fail
  refine Q4.out.mono ?_
  rintro e w5 ⟨A5, c5, rfl, s5⟩
  have S5 := Lib.hid s5
  clear s5 Q4
  obtain ⟨L4, hL4⟩ : ∃ L, L = L3 ++ oneB (decide (0 ≤ med)) 128 4 (numsB true [mm]) := ⟨_, rfl⟩
  have hz4 : L4.length ≤ 70020 := by have h1 := nums_one mm; have h2 := oneB_len (decide (0 ≤ med)) 128 4 (numsB true [mm]); rw [hL4, List.length_append]; omega
  have HE4 := Lib.hid hL4
  clear hL4
  have hkA := S5.out.blk
  rw [HROW.out] at hkA
  have f3 : w5.cell? ⟨w.heap.size, 3, none⟩ = some (.int .i64 med) := hkA.cell 3
  clear hkA
  go_upto_if 35 with fail
  go_cut [6] (fun s wc => ∃ A c, s = .slice A L4.length c ∧ DocSt w a A c L4 wc)
  case first =>
    by_cases hm : 0 ≤ med
    · have HX := Lib.hid (show L4 = L3 ++ oneB true 128 4 (numsB true [mm]) from by have h := HE4.out; rw [decide_eq_true hm] at h; exact h)
      go_wp2_with fail
      refine (put32_nil mm hmm w5).mono ?_
      rintro e v4 ⟨A3, c3, rfl, g1, g2, ho3, hb3⟩
      have Q4 := Lib.hid ((S5.out.later hb3).attr (cd := c3) ho3.bytes 128 4 128 4 L3.length (numsB true [mm]).length rfl rfl rfl rfl (by decide) (by decide) (by omega) (by have := nums_one mm; omega) L4 HX.out)
      clear g1 g2 ho3 hb3
      go_wp2_with fail
      refine Q4.out.mono ?_
      rintro e w9 ⟨A9, c9, rfl, s9⟩
      have S9 := Lib.hid s9
      clear s9 Q4
      go_wp2_with fail
      go_meet
      exact ⟨A9, c9, rfl, S9.out⟩
    · have HX := Lib.hid (show L4 = L3 from by have h := HE4.out; rw [decide_eq_false hm] at h; rw [h]; exact oneB_off _ _ _ _ _ rfl)
      go_wp2_with fail
      go_meet
      exact ⟨A5, c5, by rw [HX.out], by rw [HX.out]; exact S5.out⟩
  case rest =>
    obtain ⟨A6, c6, rfl, s6⟩ := hcut
    obtain ⟨w6, hwc⟩ : ∃ W, W = wc := ⟨_, rfl⟩
    subst hwc
    have S6 := Lib.hid s6
    clear s6
    obtain ⟨L5, hL5⟩ : ∃ L, L = L4 ++ oneB (decide (0 ≤ pref)) 64 5 (numsB true [mp]) := ⟨_, rfl⟩
    have hz5 : L5.length ≤ 70030 := by have h1 := nums_one mp; have h2 := oneB_len (decide (0 ≤ pref)) 64 5 (numsB true [mp]); rw [hL5, List.length_append]; omega
    have HE5 := Lib.hid hL5
    clear hL5
    have hkA := S6.out.blk
    rw [HROW.out] at hkA
    have f4 : w6.cell? ⟨w.heap.size, 4, none⟩ = some (.int .i64 pref) := hkA.cell 4
    clear hkA
    go_upto_if 44 with fail
    go_cut [6] (fun s wc => ∃ A c, s = .slice A L5.length c ∧ DocSt w a A c L5 wc)
    case first =>
      by_cases hm : 0 ≤ pref
      · have HX := Lib.hid (show L5 = L4 ++ oneB true 64 5 (numsB true [mp]) from by have h := HE5.out; rw [decide_eq_true hm] at h; exact h)
        go_wp2_with fail
        refine (put32_nil mp hmp w6).mono ?_
        rintro e v5 ⟨A3, c3, rfl, g1, g2, ho3, hb3⟩
        have Q4 := Lib.hid ((S6.out.later hb3).attr (cd := c3) ho3.bytes 64 5 64 5 L4.length (numsB true [mp]).length rfl rfl rfl rfl (by decide) (by decide) (by omega) (by have := nums_one mp; omega) L5 HX.out)
        clear g1 g2 ho3 hb3
        go_wp2_with fail
        refine Q4.out.mono ?_
        rintro e w9 ⟨A9, c9, rfl, s9⟩
        have S9 := Lib.hid s9
        clear s9 Q4
        go_wp2_with fail
        go_meet
        exact ⟨A9, c9, rfl, S9.out⟩
      · have HX := Lib.hid (show L5 = L4 from by have h := HE5.out; rw [decide_eq_false hm] at h; rw [h]; exact oneB_off _ _ _ _ _ rfl)
        go_wp2_with fail
        go_meet
        exact ⟨A6, c6, by rw [HX.out], by rw [HX.out]; exact S6.out⟩
    case rest =>
      obtain ⟨A7, c7, rfl, s7⟩ := hcut
      obtain ⟨w7, hwc⟩ : ∃ W, W = wc := ⟨_, rfl⟩
      subst hwc
      have S7 := Lib.hid s7
      clear s7
      obtain ⟨L6, hL6⟩ : ∃ L, L = L5 ++ oneB atomic 64 6 ([]) := ⟨_, rfl⟩
      have hz6 : L6.length ≤ 70040 := by have h2 := oneB_len atomic 64 6 ([]); simp at h2; rw [hL6, List.length_append]; omega
      have HE6 := Lib.hid hL6
      clear hL6
      have hkA := S7.out.blk
      rw [HROW.out] at hkA
      have f5 : w7.cell? ⟨w.heap.size, 5, none⟩ = some (.bool atomic) := hkA.cell 5
      clear hkA
      go_upto_if 52 with fail
      go_cut [6] (fun s wc => ∃ A c, s = .slice A L6.length c ∧ DocSt w a A c L6 wc)
      case first =>
        cases atomic with
        | true =>
          have Q4 := Lib.hid (S7.out.attr (cd := 0) (Bytes.nil _ none) 64 6 64 6 L5.length 0 rfl rfl rfl rfl (by decide) (by decide) (by omega) (by simp) L6 HE6.out)
          go_wp2_with fail
          refine Q4.out.mono ?_
          rintro e w9 ⟨A9, c9, rfl, s9⟩
          have S9 := Lib.hid s9
          clear s9 Q4
          go_wp2_with fail
          go_meet
          exact ⟨A9, c9, rfl, S9.out⟩
        | false =>
          have HX := Lib.hid (show L6 = L5 from by have h := HE6.out; rw [h]; exact oneB_off _ _ _ _ _ rfl)
          go_wp2_with fail
          go_meet
          exact ⟨A7, c7, by rw [HX.out], by rw [HX.out]; exact S7.out⟩
      case rest =>
        obtain ⟨A8, c8, rfl, s8⟩ := hcut
        obtain ⟨w8, hwc⟩ : ∃ W, W = wc := ⟨_, rfl⟩
        subst hwc
        have S8 := Lib.hid s8
        clear s8
        obtain ⟨L7, hL7⟩ : ∃ L, L = L6 ++ oneB has 192 7 (aggrB wide sa ad) := ⟨_, rfl⟩
        have hz7 : L7.length ≤ 70060 := by have h2 := oneB_len has 192 7 (aggrB wide sa ad); have h1 := aggrB_len wide sa ad; rw [hL7, List.length_append]; omega
        have HE7 := Lib.hid hL7
        clear hL7
        have hkA := S8.out.blk
        rw [HROW.out] at hkA
        have f6 : w8.cell? ⟨w.heap.size, 6, none⟩ = some (.bool has) := hkA.cell 6
        clear hkA
        go_upto_if 56 with fail
        go_cut [6] (fun s wc => ∃ A c, s = .slice A L7.length c ∧ DocSt w a A c L7 wc)
        case first =>
          cases has with
          | true =>
            have hkA := S8.out.blk
            rw [HROW.out] at hkA
            have f7 : w8.cell? ⟨w.heap.size, 7, none⟩ = some (.int .u32 (sa : Int)) := hkA.cell 7
            clear hkA
            cases wide with
            | true =>
              go_wp2_with fail
              refine (sys_w sa hsa w8).mono ?_
              rintro e v1 ⟨AB, cB, rfl, g1, g2, ho3, hb3⟩
              have T1 := Lib.hid (S8.out.later hb3)
              have hkA := T1.out.blk
              rw [HROW.out] at hkA
              have k7 : v1.cell? ⟨w.heap.size, 7, none⟩ = some (.int .u32 (sa : Int)) := hkA.cell 7
              have k8 : v1.cell? ⟨w.heap.size, 8, none⟩ = some (.int .u32 (ad : Int)) := hkA.cell 8
              have Q3 := Lib.hid (refPut32_any AB (numB true sa).length cB (numB true sa) rfl (ad : Int) v1 (by have := numB_len true sa; omega) ho3.bytes (by omega) (by omega))
              clear g1 g2 ho3 hb3 hkA
              go_wp2_with fail
              refine Q3.out.mono ?_
              rintro e v2 ⟨AC, cC, rfl, g1, g2, ho4, hb4⟩
              obtain ⟨D, hD⟩ : ∃ D, D = numB true sa ++ be32 (ad : Int) := ⟨_, rfl⟩
              have hDl : D.length ≤ 8 := by have := aggrB_len true sa ad; unfold aggrB at this; rw [hD]; exact this
              rw [← hD] at ho4
              simp only [← hD]
              have HX := Lib.hid (show L7 = L6 ++ oneB true 192 7 D from by have h := HE7.out; rw [hD]; exact h)
              have Q4 := Lib.hid ((T1.out.later hb4).attr (cd := cC) ho4.bytes 192 7 192 7 L6.length D.length rfl rfl rfl rfl (by decide) (by decide) (by omega) (by omega) L7 HX.out)
              clear g1 g2 ho4 hb4 hD Q3
              go_wp2_with fail
              refine Q4.out.mono ?_
              rintro e w9 ⟨A9, c9, rfl, s9⟩
              have S9 := Lib.hid s9
              clear s9 Q4
              go_wp2_with fail
              go_meet
              exact ⟨A9, c9, rfl, S9.out⟩
            | false =>
              by_cases hbig : 65535 < sa
              · have hbi : (65535 : Int) < (sa : Int) := by omega
                go_wp2_with fail
                refine (sys_b sa hbig w8).mono ?_
                rintro e v1 ⟨AB, cB, rfl, g1, g2, ho3, hb3⟩
                have T1 := Lib.hid (S8.out.later hb3)
                have hkA := T1.out.blk
                rw [HROW.out] at hkA
                have k7 : v1.cell? ⟨w.heap.size, 7, none⟩ = some (.int .u32 (sa : Int)) := hkA.cell 7
                have k8 : v1.cell? ⟨w.heap.size, 8, none⟩ = some (.int .u32 (ad : Int)) := hkA.cell 8
                have Q3 := Lib.hid (refPut32_any AB (numB false sa).length cB (numB false sa) rfl (ad : Int) v1 (by have := numB_len false sa; omega) ho3.bytes (by omega) (by omega))
                clear g1 g2 ho3 hb3 hkA
                go_wp2_with fail
                refine Q3.out.mono ?_
                rintro e v2 ⟨AC, cC, rfl, g1, g2, ho4, hb4⟩
                obtain ⟨D, hD⟩ : ∃ D, D = numB false sa ++ be32 (ad : Int) := ⟨_, rfl⟩
                have hDl : D.length ≤ 8 := by have := aggrB_len false sa ad; unfold aggrB at this; rw [hD]; exact this
                rw [← hD] at ho4
                simp only [← hD]
                have HX := Lib.hid (show L7 = L6 ++ oneB true 192 7 D from by have h := HE7.out; rw [hD]; exact h)
                have Q4 := Lib.hid ((T1.out.later hb4).attr (cd := cC) ho4.bytes 192 7 192 7 L6.length D.length rfl rfl rfl rfl (by decide) (by decide) (by omega) (by omega) L7 HX.out)
                clear g1 g2 ho4 hb4 hD Q3
                go_wp2_with fail
                refine Q4.out.mono ?_
                rintro e w9 ⟨A9, c9, rfl, s9⟩
                have S9 := Lib.hid s9
                clear s9 Q4
                go_wp2_with fail
                go_meet
                exact ⟨A9, c9, rfl, S9.out⟩
              · have hbi : ¬ (65535 : Int) < (sa : Int) := by omega
                go_wp2_with fail
                refine (sys_s sa hbig w8).mono ?_
                rintro e v1 ⟨AB, cB, rfl, g1, g2, ho3, hb3⟩
                have T1 := Lib.hid (S8.out.later hb3)
                have hkA := T1.out.blk
                rw [HROW.out] at hkA
                have k7 : v1.cell? ⟨w.heap.size, 7, none⟩ = some (.int .u32 (sa : Int)) := hkA.cell 7
                have k8 : v1.cell? ⟨w.heap.size, 8, none⟩ = some (.int .u32 (ad : Int)) := hkA.cell 8
                have Q3 := Lib.hid (refPut32_any AB (numB false sa).length cB (numB false sa) rfl (ad : Int) v1 (by have := numB_len false sa; omega) ho3.bytes (by omega) (by omega))
                clear g1 g2 ho3 hb3 hkA
                go_wp2_with fail
                refine Q3.out.mono ?_
                rintro e v2 ⟨AC, cC, rfl, g1, g2, ho4, hb4⟩
                obtain ⟨D, hD⟩ : ∃ D, D = numB false sa ++ be32 (ad : Int) := ⟨_, rfl⟩
                have hDl : D.length ≤ 8 := by have := aggrB_len false sa ad; unfold aggrB at this; rw [hD]; exact this
                rw [← hD] at ho4
                simp only [← hD]
                have HX := Lib.hid (show L7 = L6 ++ oneB true 192 7 D from by have h := HE7.out; rw [hD]; exact h)
                have Q4 := Lib.hid ((T1.out.later hb4).attr (cd := cC) ho4.bytes 192 7 192 7 L6.length D.length rfl rfl rfl rfl (by decide) (by decide) (by omega) (by omega) L7 HX.out)
                clear g1 g2 ho4 hb4 hD Q3
                go_wp2_with fail
                refine Q4.out.mono ?_
                rintro e w9 ⟨A9, c9, rfl, s9⟩
                have S9 := Lib.hid s9
                clear s9 Q4
                go_wp2_with fail
                go_meet
                exact ⟨A9, c9, rfl, S9.out⟩
          | false =>
            have HX := Lib.hid (show L7 = L6 from by have h := HE7.out; rw [h]; exact oneB_off _ _ _ _ _ rfl)
            go_wp2_with fail
            go_meet
            exact ⟨A8, c8, by rw [HX.out], by rw [HX.out]; exact S8.out⟩
        case rest =>
          obtain ⟨A10, c10, rfl, s10⟩ := hcut
          obtain ⟨w10, hwc⟩ : ∃ W, W = wc := ⟨_, rfl⟩
          subst hwc
          have S10 := Lib.hid s10
          clear s10
          obtain ⟨L8, hL8⟩ : ∃ L, L = L7 ++ oneB (decide (0 < comms.length)) 192 8 (numsB true comms) := ⟨_, rfl⟩
          have hz8 : L8.length ≤ 120000 := by have h1 := HCL.out; have h2 := oneB_len (decide (0 < comms.length)) 192 8 (numsB true comms); rw [hL8, List.length_append]; omega
          have HE8 := Lib.hid hL8
          clear hL8
          have hkA := S10.out.blk
          rw [HROW.out] at hkA
          have f9 : w10.cell? ⟨w.heap.size, 9, none⟩ = some (.slice ca comms.length cc) := hkA.cell 9
          clear hkA
          go_upto_if 81 with fail
          go_cut [6] (fun s wc => ∃ A c, s = .slice A L8.length c ∧ DocSt w a A c L8 wc)
          case first =>
            by_cases hm : 0 < comms.length
            · have hmI : (0 : Int) < (comms.length : Int) := by omega
              have HX := Lib.hid (show L8 = L7 ++ oneB true 192 8 (numsB true comms) from by have h := HE8.out; rw [decide_eq_true hm] at h; exact h)
              first | rw [decide_eq_true hm] | simp only [hm, decide_true]
              go_wp2_with fail
              go_loopw [8, 9] (fun v i wr => ∃ j : Nat, j ≤ comms.length ∧ i = .int .i64 (j : Int) ∧ Below w10.heap.size w10 wr ∧ Own wr w10.heap.size 5 v (numsB true (comms.take j))) (fun _ i _ => comms.length - (intOf i).toNat)
              case atStart => exact ⟨0, Nat.zero_le _, rfl, Below.refl _ _, by simpa [numsB] using Own.nil _ _ _⟩
              case round =>
                obtain ⟨j, hj, rfl, hbr, hown⟩ := hrel
                have T := Lib.hid (S10.out.later hbr)
                have hkA := T.out.blk
                rw [HROW.out] at hkA
                have k9 : wr.cell? ⟨w.heap.size, 9, none⟩ = some (.slice ca comms.length cc) := hkA.cell 9
                clear hkA
                obtain ⟨A1, c1, rfl, _, _⟩ := hown.form
                by_cases hlt : j < comms.length
                · obtain ⟨b2, off2, hA2, hb2, k3⟩ := (HCM.out.below T.out.below (Nat.le_refl _)).cell hlt
                  have hx : comms.getD j 0 < 4294967296 := HCF.out _ (by rw [show comms.getD j 0 = comms[j] by simp [List.getD, hlt]]; exact List.getElem_mem hlt)
                  have HNS := Lib.hid (numsB_step (wide := true) hlt)
                  have hnl := numsB_len true (comms.take j)
                  have htl : (comms.take j).length ≤ j := by simp; omega
                  have en : numB true (comms.getD j 0) = be32 ((comms.getD j 0 : Nat) : Int) := by unfold numB; rw [if_pos rfl]
                  rw [en] at HNS
                  generalize comms.getD j 0 = x at hx k3 HNS
                  generalize hl : numsB true (comms.take j) = l at hown HNS hnl ⊢
                  have hll : l.length ≤ 40000 := by omega
                  have Q := Lib.hid (refPut32_any A1 l.length c1 l rfl (x : Int) wr (by omega) (hown.bytes) (by omega) (by omega))
                  have HBR := Lib.hid hbr; have HJ := Lib.hid hlt
                  rw [hA2] at k9
                  clear hown hbr hnl htl hl en hA2
                  go_wp2_with fail
                  refine Q.out.mono ?_
                  rintro e w2 ⟨A3, c3, rfl, g1, g2, ho3, hb3⟩
                  have HO := Lib.hid (show Own w2 w10.heap.size 5 (.slice A3 (l ++ be32 (x : Int)).length c3) (numsB true (comms.take (j + 1))) from by rw [HNS.out]; exact ho3.lower HBR.out.size)
                  have HB := Lib.hid (HBR.out.trans (hb3.mono HBR.out.size))
                  clear ho3 hb3 g1 g2
                  go_wp2_with fail
                  go_roundw
                  case rel => have h1 := HJ.out; exact ⟨j + 1, HJ.out, by go_num, HB.out, by have h := HO.out; rw [List.length_append] at h; exact h⟩
                  case measure => have h1 := HJ.out; simp [intOf]; omega
                · obtain rfl : j = comms.length := by omega
                  rw [List.take_length] at hown
                  simp only [List.take_length]
                  have Q4 := Lib.hid (T.out.attr (cd := c1) hown.bytes 192 8 192 8 L7.length (numsB true comms).length rfl rfl rfl rfl (by decide) (by decide) (by omega) (by have := HCL.out; omega) L8 HX.out)
                  clear hown hbr
                  go_wp2_with fail
                  refine Q4.out.mono ?_
                  rintro e w9 ⟨A9, c9, rfl, s9⟩
                  have S9 := Lib.hid s9
                  clear s9 Q4
                  go_wp2_with fail
                  go_meet
                  exact ⟨A9, c9, rfl, S9.out⟩
            · have hmI : ¬ (0 : Int) < (comms.length : Int) := by omega
              have HX := Lib.hid (show L8 = L7 from by have h := HE8.out; rw [decide_eq_false hm] at h; rw [h]; exact oneB_off _ _ _ _ _ rfl)
              go_wp2_with fail
              go_meet
              exact ⟨A10, c10, by rw [HX.out], by rw [HX.out]; exact S10.out⟩
          case rest =>
            obtain ⟨A11, c11, rfl, s11⟩ := hcut
            obtain ⟨w11, hwc⟩ : ∃ W, W = wc := ⟨_, rfl⟩
            subst hwc
            have S11 := Lib.hid s11
            clear s11
            have hkA := S11.out.blk
            rw [HROW.out] at hkA
            have f10 : w11.cell? ⟨w.heap.size, 10, none⟩ = some (.slice ra raws.length rc) := hkA.cell 10
            clear hkA
            go_wp2_with fail
            go_loopw [6, 10] (fun v i wr => ∃ (j : Nat) (A : Option Addr) (c : Nat), j ≤ raws.length ∧ i = .int .i64 (j : Int) ∧ v = .slice A (L8 ++ rawsB (raws.take j)).length c ∧ DocSt w a A c (L8 ++ rawsB (raws.take j)) wr) (fun _ i _ => raws.length - (intOf i).toNat)
            case atStart => exact ⟨0, A11, c11, Nat.zero_le _, rfl, by simp [rawsB], by simpa [rawsB] using S11.out⟩
            case round =>
              obtain ⟨j, A, c, hj, rfl, rfl, hst⟩ := hrel
              have hkA := hst.blk
              rw [HROW.out] at hkA
              have k10 : wr.cell? ⟨w.heap.size, 10, none⟩ = some (.slice ra raws.length rc) := hkA.cell 10
              clear hkA
              by_cases hlt : j < raws.length
              · obtain ⟨s, hs⟩ : ∃ s, raws[j]? = some s := ⟨_, List.getElem?_eq_getElem hlt⟩
                obtain ⟨b, off, hA1, hb1, k1, k2, k3, hy⟩ := (HRW.out.below hst.below (Nat.le_refl _)).at hs
                obtain ⟨f, t, e1, e2, hf, ht2, hd⟩ := HRE.out s (List.mem_of_getElem? hs)
                subst hf
                obtain ⟨L', hL'⟩ : ∃ L', L' = L8 ++ rawsB (raws.take (j + 1)) := ⟨_, rfl⟩
                have hnx : L' = (L8 ++ rawsB (raws.take j)) ++ oneB true 224 t s.data := by rw [hL', rawsB_step hs, e1, e2, List.append_assoc]; rfl
                have hnl : L'.length ≤ 900000 := by
                  rw [hL']
                  have h2 := rawsB_len (raws.take (j + 1)) (fun s hs => by obtain ⟨_, _, _, _, _, _, h⟩ := HRE.out s (List.mem_of_mem_take hs); exact h)
                  have h3 : (raws.take (j + 1)).length ≤ j + 1 := by simp; omega
                  have h4 := HRL.out
                  rw [List.length_append]
                  omega
                have hnl2 : (L8 ++ rawsB (raws.take j)).length ≤ 900000 := by
                  have h2 := rawsB_len (raws.take j) (fun s hs => by obtain ⟨_, _, _, _, _, _, h⟩ := HRE.out s (List.mem_of_mem_take hs); exact h)
                  have h3 : (raws.take j).length ≤ j := by simp; omega
                  have h4 := HRL.out
                  rw [List.length_append]
                  omega
                rw [e2] at k2
                generalize s.adr = A1 at k3 hy
                generalize s.cap = c1 at k3
                generalize s.data = d at k3 hy hd hnx
                generalize L8 ++ rawsB (raws.take j) = L at hst hnx hnl2 ⊢
                have hx := (Below.refl wr.heap.size wr).drew
                have Q4 := Lib.hid ((hst.later hx).attr (cd := c1) ((((hy.lift hst.below.size).below hx (Nat.le_refl _))).bytes hx.size) 224 (t : Int) 224 t L.length d.length rfl rfl rfl rfl (by decide) ht2 (by omega) (by omega) L' hnx)
                have HLL := Lib.hid hL'; have HJ := Lib.hid hlt
                have hjI : (j : Int) < (raws.length : Int) := by omega
                have hj1000 : j + 1 ≤ 1000 := by have := HRL.out; omega
                clear hs e1 e2 hd hy hst hx hnx hL'
                subst hA1
                go_wp2_with fail
                go_region_law ((try go_simp); go_at_call 50; refine Q4.out.mono ?_; rintro e w9 ⟨A9, c9, rfl, s9⟩; have S9 := Lib.hid s9; clear s9)
                all_goals
                  go_wp2_with fail
                  go_roundw
                  case rel => have h1 := HJ.out; exact ⟨j + 1, A9, c9, HJ.out, by go_num, by rw [← HLL.out], by rw [← HLL.out]; exact S9.out⟩
                  case measure => have h1 := HJ.out; simp [intOf]; omega
              · obtain rfl : j = raws.length := by omega
                rw [List.take_length] at hst
                simp only [List.take_length]
                obtain ⟨L9, hL9⟩ : ∃ L, L = L8 ++ rawsB raws := ⟨_, rfl⟩
                have hz9 : L9.length ≤ 300000 := by
                  have h2 := rawsB_len raws (fun s hs => by obtain ⟨_, _, _, _, _, _, h⟩ := HRE.out s hs; exact h)
                  have h4 := HRL.out
                  rw [hL9, List.length_append]
                  omega
                rw [← hL9] at hst
                simp only [← hL9]
                have HE9 := Lib.hid hL9
                have S12 := Lib.hid hst
                clear hL9 hst
                obtain ⟨w12, hwc⟩ : ∃ W, W = wr := ⟨_, rfl⟩
                subst hwc
                have HPUT := Lib.hid (show putA org next sa ad path med pref mm mp atomic has comms raws wide = (L9 ++ oneB (!wide && bigs (flatN path)) 192 17 (putB true path)) ++ oneB (!wide && bigB sa) 192 18 (aggrB true sa ad) from by
                  unfold putA
                  rw [← HE1.out, ← HE2.out, ← HE3.out, ← HE4.out, ← HE5.out, ← HE6.out, ← HE7.out, ← HE8.out, ← HE9.out])
                have hkA := S12.out.blk
                rw [HROW.out] at hkA
                have p1 : w12.cell? ⟨w.heap.size, 1, none⟩ = some (.slice pa path.length pc) := hkA.cell 1
                clear hkA
                have QFl := Lib.hid (RefFlat_any pa pc path w12 ((HPA.out.below S12.out.below (Nat.le_refl _)).lift S12.out.below.size) (by omega) (by have := HPT.out; omega))
                obtain ⟨FL, hFL⟩ : ∃ z, z = flatN path := ⟨_, rfl⟩
                rw [← hFL] at QFl HPUT
                have hfl : FL.length ≤ 1000000 := by have h := HPT.out; rw [hFL, flat_len4]; omega
                clear hFL
                go_wp2_with fail
                refine QFl.out.mono ?_
                rintro e w13 ⟨AF, cF, rfl, g1, g2, hoF, hbF⟩
                have S13 := Lib.hid (S12.out.later hbF)
                have HF := Lib.hid hoF.at
                have HFLL := Lib.hid hfl
                clear g1 g2 hoF hbF p1 QFl
                go_wp2_with fail
                go_loopw [11, 13] (fun b i wr => BigRel w13 FL b i wr) (fun _ i _ => FL.length - (intOf i).toNat)
                case atStart => exact ⟨0, rfl, Nat.zero_le _, rfl, rfl⟩
                case round =>
                  obtain ⟨j, rfl, hj, rfl, rfl⟩ := hrel
                  by_cases hlt : j < FL.length
                  · obtain ⟨bF, oF, rfl, hbF, kF⟩ := HF.out.cell hlt
                    have HBK := Lib.hid (bigs_keep hlt)
                    have HBS := Lib.hid (bigs_more hlt)
                    have HJ := Lib.hid hlt
                    have hj1 : j + 1 ≤ 1000000 := by have := HFLL.out; omega
                    obtain ⟨x, hx⟩ : ∃ x, x = FL.getD j 0 := ⟨_, rfl⟩
                    rw [← hx] at kF HBS
                    clear hx hbF
                    cases hbb : bigs (FL.take j) with
                    | true =>
                      have HN := Lib.hid (HBK.out hbb)
                      clear hbb
                      go_wp2_with fail
                      go_roundw
                      case rel => have h1 := HJ.out; exact ⟨j + 1, rfl, HJ.out, by go_num, by rw [HN.out]⟩
                      case measure => have h1 := HJ.out; simp [intOf]; omega
                    | false =>
                      have HN := Lib.hid (HBS.out hbb)
                      clear hbb
                      by_cases hbx : 65535 < x
                      · have d1 : decide ((65535 : Int) < (x : Int)) = true := decide_eq_true (by omega)
                        have HV := Lib.hid (show bigs (FL.take (j + 1)) = true by rw [HN.out]; exact decide_eq_true hbx)
                        clear hbx
                        go_wp2_with fail
                        go_roundw
                        case rel => have h1 := HJ.out; exact ⟨j + 1, rfl, HJ.out, by go_num, by rw [HV.out]⟩
                        case measure => have h1 := HJ.out; simp [intOf]; omega
                      · have d1 : decide ((65535 : Int) < (x : Int)) = false := decide_eq_false (by omega)
                        have HV := Lib.hid (show bigs (FL.take (j + 1)) = false by rw [HN.out]; exact decide_eq_false hbx)
                        clear hbx
                        go_wp2_with fail
                        go_roundw
                        case rel => have h1 := HJ.out; exact ⟨j + 1, rfl, HJ.out, by go_num, by rw [HV.out]⟩
                        case measure => have h1 := HJ.out; simp [intOf]; omega
                  · obtain rfl : j = FL.length := by omega
                    simp only [List.take_length]
                    have hkA := S13.out.blk
                    rw [HROW.out] at hkA
                    have p1 : w13.cell? ⟨w.heap.size, 1, none⟩ = some (.slice pa path.length pc) := hkA.cell 1
                    have p7 : w13.cell? ⟨w.heap.size, 7, none⟩ = some (.int .u32 (sa : Int)) := hkA.cell 7
                    clear hkA
                    cases wide with
                    | true =>
                      have HPF := Lib.hid (show putA org next sa ad path med pref mm mp atomic has comms raws true = L9 by rw [HPUT.out]; simp [oneB])
                      go_wp2_with fail
                      go_ret2
                      exact ⟨A, c, by rw [HPF.out]; rfl, by rw [HPF.out]; exact S13.out.cap.1, S13.out.cap.2, by rw [HPF.out]; exact S13.out.out, S13.out.below⟩
                    | false =>
                      cases hbf : bigs FL with
                      | true =>
                        obtain ⟨L10, hL10⟩ : ∃ L, L = L9 ++ oneB true 192 17 (putB true path) := ⟨_, rfl⟩
                        have hz10 : L10.length ≤ 400000 := by have h1 := HPL.out.2; have h2 := oneB_len true 192 17 (putB true path); rw [hL10, List.length_append]; omega
                        rw [hbf] at HPUT
                        replace HPUT := Lib.hid (show putA org next sa ad path med pref mm mp atomic has comms raws false = L10 ++ oneB (!false && bigB sa) 192 18 (aggrB true sa ad) from by rw [hL10]; exact HPUT.out)
                        have HE10 := Lib.hid hL10
                        have Q3 := Lib.hid (RefPut3_any pa pc path true w13 ((HPA.out.below S13.out.below (Nat.le_refl _)).lift S13.out.below.size) hpl (by have := HPT.out; omega))
                        clear hL10 hbf
                        go_wp2_with fail
                        refine Q3.out.mono ?_
                        rintro e w14 ⟨A3, c3, rfl, g1, g2, ho3, hb3⟩
                        have Q4 := Lib.hid ((S13.out.later hb3).attr (cd := c3) ho3.bytes 192 17 192 17 L9.length (putB true path).length rfl rfl rfl rfl (by decide) (by decide) (by omega) (by have := HPL.out.2; omega) L10 HE10.out)
                        clear g1 g2 ho3 hb3 Q3 p1 p7
                        go_wp2_with fail
                        refine Q4.out.mono ?_
                        rintro e w15 ⟨A15, c15, rfl, s15⟩
                        have S15 := Lib.hid s15
                        have hkA := s15.blk
                        rw [HROW.out] at hkA
                        have p7 : w15.cell? ⟨w.heap.size, 7, none⟩ = some (.int .u32 (sa : Int)) := hkA.cell 7
                        clear s15 Q4 hkA
                        have HLZ := Lib.hid (show L10.length ≤ 400000 by exact hz10)
                        by_cases hsb : 65535 < sa
                        · have d2 : decide ((65535 : Int) < (sa : Int)) = true := decide_eq_true (by omega)
                          obtain ⟨D, hD⟩ : ∃ D, D = numB true sa ++ be32 (ad : Int) := ⟨_, rfl⟩
                          have hDl : D.length ≤ 8 := by have := aggrB_len true sa ad; unfold aggrB at this; rw [hD]; exact this
                          obtain ⟨LF, hLF⟩ : ∃ L, L = L10 ++ oneB true 192 18 D := ⟨_, rfl⟩
                          have HPF := Lib.hid (show putA org next sa ad path med pref mm mp atomic has comms raws false = LF by rw [HPUT.out, hLF, hD]; unfold bigB aggrB; rw [decide_eq_true hsb]; rfl)
                          have HLF := Lib.hid hLF
                          have HD2 := Lib.hid hD.symm
                          have Sx := S15
                          have hbc : Below w15.heap.size w15 w15.drew := (Below.refl _ _).drew
                          have HCL2 := Lib.hid (fun W (q : Below w15.heap.size w15 W) => show W.cell? ⟨w.heap.size, 7, none⟩ = some (.int .u32 (sa : Int)) ∧ W.cell? ⟨w.heap.size, 8, none⟩ = some (.int .u32 (ad : Int)) from by
                            have hkA := (S15.out.later q).blk
                            rw [HROW.out] at hkA
                            exact ⟨hkA.cell 7, hkA.cell 8⟩)
                          have HCL3 := Lib.hid (fun (A : Option Addr) (c : Nat) (W : World) (q : DocSt w a A c LF W) => show W.cell? ⟨w.heap.size, 7, none⟩ = some (.int .u32 (sa : Int)) ∧ W.cell? ⟨w.heap.size, 8, none⟩ = some (.int .u32 (ad : Int)) from by
                            have hkA := q.blk
                            rw [HROW.out] at hkA
                            exact ⟨hkA.cell 7, hkA.cell 8⟩)
                          have QN := Lib.hid (fun W => sys_w sa hsa W)
                          clear hsb hD hLF
                          go_wp2_with fail
                          go_region_held3 (fun w' => w'.cell? ⟨w.heap.size, 7, none⟩ = some (.int .u32 (sa : Int)) ∧ w'.cell? ⟨w.heap.size, 8, none⟩ = some (.int .u32 (ad : Int))) (first | exact HCL2.out _ hbc | exact HCL3.out _ _ _ S9.out) ((first
                            | (go_at_call 52; ((with_reducible refine (QN.out _).mono ?_)); rintro e v1 ⟨AB, cB, rfl, g1, g2, ho3, hb3⟩; have HO1 := Lib.hid ho3; replace hbc := hbc.trans (hb3.mono hbc.size); clear g1 g2 ho3 hb3)
                            | (go_at_call 52; refine (refPut32_any AB (numB true sa).length cB (numB true sa) rfl (ad : Int) _ (by have := numB_len true sa; omega) HO1.out.bytes (by omega) (by omega)).mono ?_; rintro e v2 ⟨AC, cC, rfl, g1, g2, ho4, hb4⟩; rw [HD2.out]; have HO2 := Lib.hid (show Own v2 _ _ (.slice AC D.length cC) D from by rw [← HD2.out]; exact ho4); replace hbc := hbc.trans (hb4.mono hbc.size); clear g1 g2 ho4 hb4)
                            | (go_at_call 50; refine ((Sx.out.later hbc).attr (cd := cC) HO2.out.bytes 192 18 192 18 L10.length D.length rfl rfl rfl rfl (by decide) (by decide) (by have := HLZ.out; omega) (by omega) LF HLF.out).mono ?_; rintro e w9 ⟨A9, c9, rfl, s9⟩; have S9 := Lib.hid s9; clear s9)))
                          go_wp2_with fail
                          go_ret2
                          exact ⟨A9, c9, by rw [HPF.out]; rfl, by rw [HPF.out]; exact S9.out.cap.1, S9.out.cap.2, by rw [HPF.out]; exact S9.out.out, S9.out.below⟩
                        · have d2 : decide ((65535 : Int) < (sa : Int)) = false := decide_eq_false (by omega)
                          have HPF := Lib.hid (show putA org next sa ad path med pref mm mp atomic has comms raws false = L10 by rw [HPUT.out]; unfold bigB; rw [decide_eq_false hsb]; simp [oneB])
                          clear hsb
                          go_wp2_with fail
                          go_ret2
                          exact ⟨A15, c15, by rw [HPF.out]; rfl, by rw [HPF.out]; exact S15.out.cap.1, S15.out.cap.2, by rw [HPF.out]; exact S15.out.out, S15.out.below⟩
                      | false =>
                        rw [hbf] at HPUT
                        replace HPUT := Lib.hid (show putA org next sa ad path med pref mm mp atomic has comms raws false = L9 ++ oneB (!false && bigB sa) 192 18 (aggrB true sa ad) from by rw [HPUT.out]; simp [oneB])
                        clear hbf
                        have HLZ := Lib.hid (show L9.length ≤ 400000 by omega)
                        by_cases hsb : 65535 < sa
                        · have d2 : decide ((65535 : Int) < (sa : Int)) = true := decide_eq_true (by omega)
                          obtain ⟨D, hD⟩ : ∃ D, D = numB true sa ++ be32 (ad : Int) := ⟨_, rfl⟩
                          have hDl : D.length ≤ 8 := by have := aggrB_len true sa ad; unfold aggrB at this; rw [hD]; exact this
                          obtain ⟨LF, hLF⟩ : ∃ L, L = L9 ++ oneB true 192 18 D := ⟨_, rfl⟩
                          have HPF := Lib.hid (show putA org next sa ad path med pref mm mp atomic has comms raws false = LF by rw [HPUT.out, hLF, hD]; unfold bigB aggrB; rw [decide_eq_true hsb]; rfl)
                          have HLF := Lib.hid hLF
                          have HD2 := Lib.hid hD.symm
                          have Sx := S13
                          have hbc : Below w13.heap.size w13 w13.drew := (Below.refl _ _).drew
                          have HCL2 := Lib.hid (fun W (q : Below w13.heap.size w13 W) => show W.cell? ⟨w.heap.size, 7, none⟩ = some (.int .u32 (sa : Int)) ∧ W.cell? ⟨w.heap.size, 8, none⟩ = some (.int .u32 (ad : Int)) from by
                            have hkA := (S13.out.later q).blk
                            rw [HROW.out] at hkA
                            exact ⟨hkA.cell 7, hkA.cell 8⟩)
                          have HCL3 := Lib.hid (fun (A : Option Addr) (c : Nat) (W : World) (q : DocSt w a A c LF W) => show W.cell? ⟨w.heap.size, 7, none⟩ = some (.int .u32 (sa : Int)) ∧ W.cell? ⟨w.heap.size, 8, none⟩ = some (.int .u32 (ad : Int)) from by
                            have hkA := q.blk
                            rw [HROW.out] at hkA
                            exact ⟨hkA.cell 7, hkA.cell 8⟩)
                          have QN := Lib.hid (fun W => sys_w sa hsa W)
                          clear hsb hD hLF
                          go_wp2_with fail
                          go_region_held3 (fun w' => w'.cell? ⟨w.heap.size, 7, none⟩ = some (.int .u32 (sa : Int)) ∧ w'.cell? ⟨w.heap.size, 8, none⟩ = some (.int .u32 (ad : Int))) (first | exact HCL2.out _ hbc | exact HCL3.out _ _ _ S9.out) ((first
                            | (go_at_call 52; ((with_reducible refine (QN.out _).mono ?_)); rintro e v1 ⟨AB, cB, rfl, g1, g2, ho3, hb3⟩; have HO1 := Lib.hid ho3; replace hbc := hbc.trans (hb3.mono hbc.size); clear g1 g2 ho3 hb3)
                            | (go_at_call 52; refine (refPut32_any AB (numB true sa).length cB (numB true sa) rfl (ad : Int) _ (by have := numB_len true sa; omega) HO1.out.bytes (by omega) (by omega)).mono ?_; rintro e v2 ⟨AC, cC, rfl, g1, g2, ho4, hb4⟩; rw [HD2.out]; have HO2 := Lib.hid (show Own v2 _ _ (.slice AC D.length cC) D from by rw [← HD2.out]; exact ho4); replace hbc := hbc.trans (hb4.mono hbc.size); clear g1 g2 ho4 hb4)
                            | (go_at_call 50; refine ((Sx.out.later hbc).attr (cd := cC) HO2.out.bytes 192 18 192 18 L9.length D.length rfl rfl rfl rfl (by decide) (by decide) (by have := HLZ.out; omega) (by omega) LF HLF.out).mono ?_; rintro e w9 ⟨A9, c9, rfl, s9⟩; have S9 := Lib.hid s9; clear s9)))
                          go_wp2_with fail
                          go_ret2
                          exact ⟨A9, c9, by rw [HPF.out]; rfl, by rw [HPF.out]; exact S9.out.cap.1, S9.out.cap.2, by rw [HPF.out]; exact S9.out.out, S9.out.below⟩
                        · have d2 : decide ((65535 : Int) < (sa : Int)) = false := decide_eq_false (by omega)
                          have HPF := Lib.hid (show putA org next sa ad path med pref mm mp atomic has comms raws false = L9 by rw [HPUT.out]; unfold bigB; rw [decide_eq_false hsb]; simp [oneB])
                          clear hsb
                          go_wp2_with fail
                          go_ret2
                          exact ⟨A, c, by rw [HPF.out]; rfl, by rw [HPF.out]; exact S13.out.cap.1, S13.out.cap.2, by rw [HPF.out]; exact S13.out.out, S13.out.below⟩
end Go.Proofs.YtnaangnmlbgmkaaGreatDoor

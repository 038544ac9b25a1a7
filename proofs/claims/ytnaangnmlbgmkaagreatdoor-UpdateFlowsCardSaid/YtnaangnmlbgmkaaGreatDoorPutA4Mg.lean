/-
  Texts of this seat, put together: PutA4.
-/
import Derived.Deep.RegionHeld3
import Derived.Test.YtnaangnmlbgmkaaGreatDoorMg12
import Derived.Test.YtnaangnmlbgmkaaGreatDoorMg1
/-
  Attributes' bytes, as the program puts them (written by gen04q.py).
-/
namespace Go.Proofs.YtnaangnmlbgmkaaGreatDoor
set_option linter.unusedVariables false
set_option linter.unusedSimpArgs false
open Go.RowKit

theorem wrap32_some (n : Int) (h0 : -1 ≤ n) (h1 : n ≤ 4294967295) : ∃ m : Nat, IntKind.u32.wrap n = (m : Int) ∧ m < 4294967296 ∧ (0 ≤ n → n = (m : Int)) := by
  by_cases h : 0 ≤ n
  · obtain ⟨m, rfl⟩ := Int.eq_ofNat_of_zero_le h
    refine ⟨m, ?_, by omega, fun _ => rfl⟩
    unfold IntKind.wrap
    simp only [IntKind.bits, IntKind.signed]
    first | omega | (simp; omega)
  · obtain rfl : n = -1 := by omega
    exact ⟨4294967295, by decide, by decide, fun h => by omega⟩
/-- Attributes' bytes. -/
def putA (org next sa ad : Nat) (path : List Sg) (med pref : Int) (mm mp : Nat) (atomic has : Bool) (comms : List Nat) (raws : List Rw) (wide : Bool) : List UInt8 :=
  (((((((((([] ++ oneB true 64 1 [UInt8.ofNat org]) ++ oneB true 64 2 (putB wide path)) ++ oneB true 64 3 (numsB true [next])) ++ oneB (decide (0 ≤ med)) 128 4 (numsB true [mm])) ++ oneB (decide (0 ≤ pref)) 64 5 (numsB true [mp])) ++ oneB atomic 64 6 []) ++ oneB has 192 7 (aggrB wide sa ad)) ++ oneB (decide (0 < comms.length)) 192 8 (numsB true comms)) ++ rawsB raws) ++ oneB (!wide && bigs (flatN path)) 192 17 (putB true path)) ++ oneB (!wide && bigB sa) 192 18 (aggrB true sa ad)
/-- What Put leaves. -/
def RetPut (w : World) (d : List UInt8) (e : Ending) (w' : World) : Prop :=
  ∃ A c, e = .returned (.tuple #[.slice A d.length c, .int .i64 0]) ∧ d.length ≤ c ∧ c ≤ maxLen ∧ Own w' w.heap.size 5 (.slice A d.length c) d ∧ Below w.heap.size w w'
set_option maxHeartbeats 12800000 in
set_option maxRecDepth 100000 in
theorem PutA_ok (org next sa ad : Nat) (pa : Option Addr) (pc : Nat) (path : List Sg) (med pref : Int) (atomic has : Bool) (ca : Option Addr) (cc : Nat) (comms : List Nat) (ra : Option Addr) (rc : Nat) (raws : List Rw) (mm mp : Nat) (wide : Bool) (w : World) (ht : TabK w)
    (hin : Av.In w w.heap.size ⟨(org : Int), pa, pc, path, (next : Int), med, pref, atomic, has, (sa : Int), (ad : Int), ca, cc, comms, ra, rc, raws⟩)
    (hok : Av.okB ⟨(org : Int), pa, pc, path, (next : Int), med, pref, atomic, has, (sa : Int), (ad : Int), ca, cc, comms, ra, rc, raws⟩ = true) (ho : org < 256) (hn : next < 4294967296) (hsa : sa < 4294967296) (had : ad < 4294967296)
    (hwm : IntKind.u32.wrap med = (mm : Int)) (hmm : mm < 4294967296) (hwp : IntKind.u32.wrap pref = (mp : Int)) (hmp : mp < 4294967296)
    (hpl : path.length ≤ 10000) (hpt : totN path ≤ 10000) (hcl : comms.length ≤ 10000) (hcf : ∀ n ∈ comms, n < 4294967296) (hrl : raws.length ≤ 1000) (hrd : ∀ s ∈ raws, s.data.length ≤ 64) :
    Calls Tryz.prog 44 #[.agg (Av.row ⟨(org : Int), pa, pc, path, (next : Int), med, pref, atomic, has, (sa : Int), (ad : Int), ca, cc, comms, ra, rc, raws⟩).toArray, .bool wide] w (RetPut w (putA org next sa ad path med pref mm mp atomic has comms raws wide)) := by
  obtain ⟨a, hA⟩ : ∃ a : Av, a = ⟨(org : Int), pa, pc, path, (next : Int), med, pref, atomic, has, (sa : Int), (ad : Int), ca, cc, comms, ra, rc, raws⟩ := ⟨_, rfl⟩
  rw [← hA] at hin hok
  have hrow : a.row = [.int .i64 (org : Int), .slice pa path.length pc, .int .u32 (next : Int), .int .i64 med, .int .i64 pref, .bool atomic, .bool has, .int .u32 (sa : Int), .int .u32 (ad : Int), .slice ca comms.length cc, .slice ra raws.length rc] := by rw [hA]; rfl
  have ep : a.path = path := by rw [hA]
  have ea : a.pathA = pa := by rw [hA]
  have HEA := Lib.hid ea; clear ea
  have er : a.raws = raws := by rw [hA]
  have eO : a.org = (org : Int) := by rw [hA]
  have eS : a.aas = (sa : Int) := by rw [hA]
  have eD : a.aad = (ad : Int) := by rw [hA]
  have hb0 := ((Below.refl w.heap.size w).alloc (Nat.le_refl _) (.cells a.row.toArray 28)).alloc (by simp) (.cells #[.bool wide] 4)
  have hkA := (Blk.new w 28 a.row).below ((Below.refl _ _).alloc (Nat.le_refl _) (.cells #[.bool wide] 4)) (by simp)
  have hkW := Blk.new (w.alloc (.cells a.row.toArray 28)) 4 [.bool wide]
  have q := Right_attrs a _ (ht.below hb0 ht.lt) ((hin.below hb0 (Nat.le_refl _)).lift hb0.size) (by rw [ep]; omega) (by rw [er]; omega) (by rw [ep]; omega)
  rw [hok] at q
  rw [hrow] at q hb0 hkA hkW
  have Q1 := Lib.hid q; have HB0 := Lib.hid hb0; have HKA := Lib.hid hkA; have HKW := Lib.hid hkW
  have HCM := Lib.hid (show At32 w w.heap.size ca comms from by have h := hin.comms; rw [hA] at h; exact h)
  have HRW := Lib.hid (show RwIn w w.heap.size ra raws from by have h := hin.raws; rw [hA] at h; exact h)
  have HRE := Lib.hid (show ∀ s ∈ raws, ∃ f t : Nat, s.flags = (f : Int) ∧ s.ty = (t : Int) ∧ f = 224 ∧ t < 256 ∧ s.data.length ≤ 64 from raws_each raws (-1) (by decide) (by have h := hok; unfold Av.okB at h; simp only [Bool.and_eq_true] at h; have h2 := h.2.1; rw [er] at h2; exact h2))
  have HIN := Lib.hid hin; have HT := Lib.hid ht; have HROW := Lib.hid hrow
  have HCF := Lib.hid hcf; have HPT := Lib.hid hpt
  have HEP := Lib.hid ep; have HEO := Lib.hid eO; have HES := Lib.hid eS; have HED := Lib.hid eD
  have HPL := Lib.hid (show (putB wide path).length ≤ 60000 ∧ (putB true path).length ≤ 60000 from ⟨by have := putB_len wide path; omega, by have := putB_len true path; omega⟩)
  have HCL := Lib.hid (show (numsB true comms).length ≤ 40000 by have := numsB_len true comms; omega)
  have HRL := Lib.hid hrl
  clear q hb0 hkA hkW hin ht hcf hpt hok hrl hrd
  unfold Av.row
  dsimp only
  go_enter Tryz.func44, Tryz.ntmps44
  go_wp2_with fail
  refine Q1.out.mono ?_
  rintro e w1 ⟨rfl, hb1⟩
  have hb1' := HB0.out.trans (hb1.mono HB0.out.size)
  have hkA := HKA.out.below hb1 HKA.out.lt
  have hkW := HKW.out.below hb1 HKW.out.lt
  have hzW : (w.alloc (.cells #[.int .i64 (org : Int), .slice pa path.length pc, .int .u32 (next : Int), .int .i64 med, .int .i64 pref, .bool atomic, .bool has, .int .u32 (sa : Int), .int .u32 (ad : Int), .slice ca comms.length cc, .slice ra raws.length rc] 28)).heap.size = w.heap.size + 1 := by simp
  rw [hzW] at hkW
  have hbo := (Below.refl w1.heap.size w1).alloc (Nat.le_refl _) (.cells #[.slice none 0 0] 33)
  have S0 := Lib.hid (show PutSt w w.heap.size (w.heap.size + 1) w1.heap.size a wide [] (w1.alloc (.cells #[.slice none 0 0] 33)) from
    ⟨hb1'.trans (hbo.mono hb1'.size), by rw [hrow]; exact hkA.below hbo hkA.lt, hkW.below hbo hkW.lt, by have := hkA.lt; omega, by have := hkW.lt; omega, hb1'.size, by simp, .slice none 0 0, Blk.new w1 _ _, Own.nil _ _ _⟩)
  clear hb1 hb1' hkA hkW hzW hbo Q1 HB0 HKA HKW
  obtain ⟨W, hWd⟩ : ∃ W, W = w1.alloc (.cells #[.slice none 0 0] 33) := ⟨_, rfl⟩
  subst hWd
  go_wp2_with fail
  refine (put_step S0.out HT.out true 1 1 64 1 1 1 0 rfl (by rfl) (by decide) (by decide) 79 #[.pointer (some ⟨w.heap.size, 0, none⟩)] enters_p2 [UInt8.ofNat org] (fun _ W' hb => clos2_any a W' w.heap.size (S0.out.blkA.below hb S0.out.blkA.lt) org HEO.out ho) (by have := oneB_len true 64 1 [UInt8.ofNat org]; simp at this ⊢; omega) (by simp)).mono ?_
  rintro e W1 ⟨rfl, s1⟩
  have S1 := Lib.hid s1
  have HL1 := Lib.hid (show ([] ++ oneB true 64 1 [UInt8.ofNat org] : List UInt8).length ≤ 5 by have := oneB_len true 64 1 [UInt8.ofNat org]; simpa using this)
  clear s1
  generalize hE1 : ([] ++ oneB true 64 1 [UInt8.ofNat org] : List UInt8) = L1 at S1 HL1
  have HE1 := Lib.hid hE1
  clear hE1
  go_wp2_with fail
  refine (put_step S1.out HT.out true 2 2 64 2 0 0 1 rfl (by rfl) (by decide) (by decide) 80 #[.pointer (some ⟨w.heap.size, 0, none⟩), .pointer (some ⟨w.heap.size + 1, 0, none⟩)] enters_p3 (putB wide path) (fun _ W' hb => by
    have h := clos3_any a W' w.heap.size (S1.out.blkA.below hb S1.out.blkA.lt) wide (w.heap.size + 1) (S1.out.blkW.below hb S1.out.blkW.lt) ((HIN.out.path.below (S1.out.below.trans (hb.mono S1.out.below.size)) (Nat.le_refl _)).lift (S1.out.below.trans (hb.mono S1.out.below.size)).size) (by rw [HEP.out]; omega) (by rw [HEP.out]; have := HPT.out; omega)
    rw [HEP.out] at h
    exact h) (by have h1 := HL1.out; have h2 := oneB_len true 64 2 (putB wide path); have h3 := HPL.out; rw [List.length_append]; omega) (by have := HPL.out; omega)).mono ?_
  rintro e W2 ⟨rfl, s2⟩
  have S2 := Lib.hid s2
  have HL2 := Lib.hid (show (L1 ++ oneB true 64 2 (putB wide path)).length ≤ 70000 by have h1 := HL1.out; have h2 := oneB_len true 64 2 (putB wide path); have h3 := HPL.out; rw [List.length_append]; omega)
  clear s2
  generalize hE2 : (L1 ++ oneB true 64 2 (putB wide path)) = L2 at S2 HL2
  have HE2 := Lib.hid hE2
  clear hE2
  have hkA := S2.out.blkA
  rw [HROW.out] at hkA
  have f2 : W2.cell? ⟨w.heap.size, 2, none⟩ = some _ := hkA.cell 2
  clear hkA
  go_wp2_with fail
  refine (four_blk _ _ _ _).mono ?_
  rintro e W3 ⟨rfl, hb3, hk3⟩
  have s3 := S2.out.later (below_boxed hb3)
  have hz3 : (W2.alloc (.cells #[.int .u32 (next : Int)] 24)).heap.size = W2.heap.size + 1 := by simp
  rw [hz3] at hk3
  have c3 := four_clos (b := W2.heap.size + 1) (A := some ⟨W2.heap.size, 0, none⟩) (c := 1) (z := [next]) hk3 (at32_one hb3) (by simpa using hn) (by simp)
  have S3 := Lib.hid s3; have C3 := Lib.hid c3
  clear s3 c3 hb3 hk3 f2 hz3
  go_wp2_with fail
  refine (put_step S3.out HT.out true 3 3 64 3 4 4 0 rfl (by rfl) (by decide) (by decide) 118 #[.pointer (some ⟨W2.heap.size + 1, 0, none⟩)] enters_f1 (numsB true [next]) (fun _ => C3.out) (by have h1 := HL2.out; have h2 := oneB_len true 64 3 (numsB true [next]); have h3 := nums_one next; rw [List.length_append]; omega) (by have := nums_one next; omega)).mono ?_
  rintro e W4 ⟨rfl, s4⟩
  have S4 := Lib.hid s4
  have HL4 := Lib.hid (show (L2 ++ oneB true 64 3 (numsB true [next])).length ≤ 70010 by have h1 := HL2.out; have h2 := oneB_len true 64 3 (numsB true [next]); have h3 := nums_one next; rw [List.length_append]; omega)
  clear s4
  generalize hE4 : (L2 ++ oneB true 64 3 (numsB true [next])) = L4 at S4 HL4
  have HE4 := Lib.hid hE4
  clear hE4
  have hkA := S4.out.blkA
  rw [HROW.out] at hkA
  have f3 : W4.cell? ⟨w.heap.size, 3, none⟩ = some (.int .i64 med) := hkA.cell 3
  have g3 : ∀ o, (W4.alloc o).cell? ⟨w.heap.size, 3, none⟩ = some (.int .i64 med) := fun o => (hkA.alloc' o).cell 3
  have HZ4 := Lib.hid (show (W4.alloc (.cells #[.int .u32 (mm : Int)] 24)).heap.size = W4.heap.size + 1 by simp)
  clear hkA
  go_wp2_with fail
  go_region_held3 (fun w' => w'.cell? ⟨w.heap.size, 3, none⟩ = some (.int .i64 med)) (first | exact f3 | exact g3 _ | exact f3b | exact f3c) ((first
    | (have hq := C4; clear hq; go_at_call 76; refine (put_step T4.out HT.out (decide (0 ≤ med)) 4 4 128 4 4 4 0 rfl (by rfl) (by decide) (by decide) 118 #[.pointer (some ⟨W4.heap.size + 1, 0, none⟩)] enters_f1 (numsB true [mm]) (fun _ => C4.out) (by have h1 := HL4.out; have h2 := oneB_len (decide (0 ≤ med)) 128 4 (numsB true [mm]); have h3 := nums_one mm; rw [List.length_append]; omega) (by have := nums_one mm; omega)).mono ?_; rintro e W5 ⟨rfl, s9⟩; have hkA9 := s9.blkA; rw [HROW.out] at hkA9; have f3c : W5.cell? ⟨w.heap.size, 3, none⟩ = some (.int .i64 med) := hkA9.cell 3; have S5 := Lib.hid s9; clear s9 hkA9)
    | (go_at_call 82; refine (four_blk _ _ _ _).mono ?_; rintro e V4 ⟨rfl, hb6, hk6⟩; have hb7 := below_undrew hb6; rw [show (World.drew (W4.alloc (.cells #[.int .u32 (mm : Int)] 24))).heap.size = W4.heap.size + 1 from HZ4.out] at hk6; have s6 := S4.out.later (below_boxed hb7); have c6 := four_clos (b := W4.heap.size + 1) (A := some ⟨W4.heap.size, 0, none⟩) (c := 1) (z := [mm]) hk6 (at32_one hb7) (by simpa using hmm) (by simp); have hkA6 := s6.blkA; rw [HROW.out] at hkA6; have f3b : V4.cell? ⟨w.heap.size, 3, none⟩ = some (.int .i64 med) := hkA6.cell 3; have T4 := Lib.hid s6; have C4 := Lib.hid c6; clear hb6 hb7 hk6 s6 c6 hkA6)))
  have HL5 := Lib.hid (show (L4 ++ oneB (decide (0 ≤ med)) 128 4 (numsB true [mm])).length ≤ 70020 by have h1 := HL4.out; have h2 := oneB_len (decide (0 ≤ med)) 128 4 (numsB true [mm]); have h3 := nums_one mm; rw [List.length_append]; omega)
  generalize hE5 : (L4 ++ oneB (decide (0 ≤ med)) 128 4 (numsB true [mm])) = L5 at S5 HL5
  have HE5 := Lib.hid hE5
  clear hE5
  have hkA := S5.out.blkA
  rw [HROW.out] at hkA
  have f4 : W5.cell? ⟨w.heap.size, 4, none⟩ = some (.int .i64 pref) := hkA.cell 4
  have g4 : ∀ o, (W5.alloc o).cell? ⟨w.heap.size, 4, none⟩ = some (.int .i64 pref) := fun o => (hkA.alloc' o).cell 4
  have HZ5 := Lib.hid (show (W5.alloc (.cells #[.int .u32 (mp : Int)] 24)).heap.size = W5.heap.size + 1 by simp)
  clear hkA
  go_wp2_with fail
  go_region_held3 (fun w' => w'.cell? ⟨w.heap.size, 4, none⟩ = some (.int .i64 pref)) (first | exact f4 | exact g4 _ | exact f4b | exact f4c) ((first
    | (have hq := C5; clear hq; go_at_call 76; refine (put_step T5.out HT.out (decide (0 ≤ pref)) 5 5 64 5 4 4 0 rfl (by rfl) (by decide) (by decide) 118 #[.pointer (some ⟨W5.heap.size + 1, 0, none⟩)] enters_f1 (numsB true [mp]) (fun _ => C5.out) (by have h1 := HL5.out; have h2 := oneB_len (decide (0 ≤ pref)) 64 5 (numsB true [mp]); have h3 := nums_one mp; rw [List.length_append]; omega) (by have := nums_one mp; omega)).mono ?_; rintro e W6 ⟨rfl, s9⟩; have hkA9 := s9.blkA; rw [HROW.out] at hkA9; have f4c : W6.cell? ⟨w.heap.size, 4, none⟩ = some (.int .i64 pref) := hkA9.cell 4; have S6 := Lib.hid s9; clear s9 hkA9)
    | (go_at_call 82; refine (four_blk _ _ _ _).mono ?_; rintro e V5 ⟨rfl, hb6, hk6⟩; have hb7 := below_undrew hb6; rw [show (World.drew (W5.alloc (.cells #[.int .u32 (mp : Int)] 24))).heap.size = W5.heap.size + 1 from HZ5.out] at hk6; have s6 := S5.out.later (below_boxed hb7); have c6 := four_clos (b := W5.heap.size + 1) (A := some ⟨W5.heap.size, 0, none⟩) (c := 1) (z := [mp]) hk6 (at32_one hb7) (by simpa using hmp) (by simp); have hkA6 := s6.blkA; rw [HROW.out] at hkA6; have f4b : V5.cell? ⟨w.heap.size, 4, none⟩ = some (.int .i64 pref) := hkA6.cell 4; have T5 := Lib.hid s6; have C5 := Lib.hid c6; clear hb6 hb7 hk6 s6 c6 hkA6)))
  have HL6 := Lib.hid (show (L5 ++ oneB (decide (0 ≤ pref)) 64 5 (numsB true [mp])).length ≤ 70030 by have h1 := HL5.out; have h2 := oneB_len (decide (0 ≤ pref)) 64 5 (numsB true [mp]); have h3 := nums_one mp; rw [List.length_append]; omega)
  generalize hE6 : (L5 ++ oneB (decide (0 ≤ pref)) 64 5 (numsB true [mp])) = L6 at S6 HL6
  have HE6 := Lib.hid hE6
  clear hE6
  have hkA := S6.out.blkA
  rw [HROW.out] at hkA
  have f5 : W6.cell? ⟨w.heap.size, 5, none⟩ = some (.bool atomic) := hkA.cell 5
  clear hkA
  go_wp2_with fail
  refine (put_step S6.out HT.out atomic 6 6 64 6 0 0 0 rfl (by rfl) (by decide) (by decide) 83 #[] enters_p4 [] (fun _ W' _ => clos4_any W') (by have h1 := HL6.out; have h2 := oneB_len atomic 64 6 []; rw [List.length_append]; simp at h2; omega) (by simp)).mono ?_
  rintro e W7 ⟨rfl, s7⟩
  have S7 := Lib.hid s7
  have HL7 := Lib.hid (show (L6 ++ oneB atomic 64 6 []).length ≤ 70040 by have h1 := HL6.out; have h2 := oneB_len atomic 64 6 []; rw [List.length_append]; simp at h2; omega)
  clear s7 f5
  generalize hE7 : (L6 ++ oneB atomic 64 6 []) = L7 at S7 HL7
  have HE7 := Lib.hid hE7
  clear hE7
  have hkA := S7.out.blkA
  rw [HROW.out] at hkA
  have f6 : W7.cell? ⟨w.heap.size, 6, none⟩ = some (.bool has) := hkA.cell 6
  clear hkA
  go_wp2_with fail
  refine (put_step S7.out HT.out has 7 7 192 7 6 8 0 rfl (by rfl) (by decide) (by decide) 84 #[.pointer (some ⟨w.heap.size, 0, none⟩), .pointer (some ⟨w.heap.size + 1, 0, none⟩)] enters_p5 (aggrB wide sa ad) (fun _ W' hb => clos5_any a W' w.heap.size (S7.out.blkA.below hb S7.out.blkA.lt) wide (w.heap.size + 1) (S7.out.blkW.below hb S7.out.blkW.lt) sa ad HES.out HED.out hsa had) (by have h1 := HL7.out; have h2 := oneB_len has 192 7 (aggrB wide sa ad); have h3 := aggrB_len wide sa ad; rw [List.length_append]; omega) (by have := aggrB_len wide sa ad; omega)).mono ?_
  rintro e W8 ⟨rfl, s8⟩
  have S8 := Lib.hid s8
  have HL8 := Lib.hid (show (L7 ++ oneB has 192 7 (aggrB wide sa ad)).length ≤ 70060 by have h1 := HL7.out; have h2 := oneB_len has 192 7 (aggrB wide sa ad); have h3 := aggrB_len wide sa ad; rw [List.length_append]; omega)
  clear s8 f6
  generalize hE8 : (L7 ++ oneB has 192 7 (aggrB wide sa ad)) = L8 at S8 HL8
  have HE8 := Lib.hid hE8
  clear hE8
  have hkA := S8.out.blkA
  rw [HROW.out] at hkA
  have f9 : W8.cell? ⟨w.heap.size, 9, none⟩ = some (.slice ca comms.length cc) := hkA.cell 9
  clear hkA
  go_wp2_with fail
  go_region_held3 (fun w' => w'.cell? ⟨w.heap.size, 9, none⟩ = some (.slice ca comms.length cc)) (first | exact f9 | exact f9b | exact f9c) ((first
    | (have hq := C8; clear hq; go_at_call 76; refine (put_step T8.out HT.out (decide (0 < comms.length)) 8 8 192 8 0 0 4 rfl (by rfl) (by decide) (by decide) 118 #[.pointer (some ⟨W8.heap.size, 0, none⟩)] enters_f1 (numsB true comms) (fun _ => C8.out) (by have h1 := HL8.out; have h2 := oneB_len (decide (0 < comms.length)) 192 8 (numsB true comms); have h3 := HCL.out; rw [List.length_append]; omega) (by have := HCL.out; omega)).mono ?_; rintro e W9 ⟨rfl, s9⟩; have hkA9 := s9.blkA; rw [HROW.out] at hkA9; have f9c : W9.cell? ⟨w.heap.size, 9, none⟩ = some (.slice ca comms.length cc) := hkA9.cell 9; have S9 := Lib.hid s9; clear s9 hkA9)
    | (go_at_call 82; refine (four_blk _ _ _ _).mono ?_; rintro e V8 ⟨rfl, hb6, hk6⟩; have hb7 := below_undrew hb6; have s6 := S8.out.later hb7; have c6 := four_clos (b := W8.heap.size) (A := ca) (c := cc) (z := comms) hk6 ((HCM.out.below s6.below (Nat.le_refl _)).lift s6.below.size) HCF.out (by omega); have hkA6 := s6.blkA; rw [HROW.out] at hkA6; have f9b : V8.cell? ⟨w.heap.size, 9, none⟩ = some (.slice ca comms.length cc) := hkA6.cell 9; have T8 := Lib.hid s6; have C8 := Lib.hid c6; clear hb6 hb7 hk6 s6 c6 hkA6)))
  have HL9 := Lib.hid (show (L8 ++ oneB (decide (0 < comms.length)) 192 8 (numsB true comms)).length ≤ 120000 by have h1 := HL8.out; have h2 := oneB_len (decide (0 < comms.length)) 192 8 (numsB true comms); have h3 := HCL.out; rw [List.length_append]; omega)
  generalize hE9 : (L8 ++ oneB (decide (0 < comms.length)) 192 8 (numsB true comms)) = L9 at S9 HL9
  have HE9 := Lib.hid hE9
  clear hE9
  have hkA := S9.out.blkA
  rw [HROW.out] at hkA
  have f10 : W9.cell? ⟨w.heap.size, 10, none⟩ = some (.slice ra raws.length rc) := hkA.cell 10
  clear hkA
  go_wp2_with fail
  go_loopw [67] (fun i wr => ∃ j : Nat, j ≤ raws.length ∧ i = .int .i64 (j : Int) ∧ PutSt w w.heap.size (w.heap.size + 1) w1.heap.size a wide (L9 ++ rawsB (raws.take j)) wr) (fun i _ => raws.length - (intOf i).toNat)
  case atStart => exact ⟨0, Nat.zero_le _, rfl, by simpa [rawsB] using S9.out⟩
  case round =>
    obtain ⟨j, hj, rfl, hst⟩ := hrel
    by_cases hlt : j < raws.length
    · obtain ⟨s, hs⟩ : ∃ s, raws[j]? = some s := ⟨_, List.getElem?_eq_getElem hlt⟩
      obtain ⟨b, off, hA1, hb1, k1, k2, k3, hy⟩ := (HRW.out.below hst.below (Nat.le_refl _)).at hs
      obtain ⟨f, t, e1, e2, hf, ht2, hd⟩ := HRE.out s (List.mem_of_getElem? hs)
      have hnx : L9 ++ rawsB (raws.take (j + 1)) = (L9 ++ rawsB (raws.take j)) ++ wholeL f t s.data := by rw [rawsB_step hs, e1, e2, List.append_assoc]; rfl
      have hnl : (L9 ++ rawsB (raws.take (j + 1))).length ≤ 900000 := by
        have h1 := HL9.out
        have h2 := rawsB_len (raws.take (j + 1)) (fun s hs => by obtain ⟨_, _, _, _, _, _, h⟩ := HRE.out s (List.mem_of_mem_take hs); exact h)
        have h3 : (raws.take (j + 1)).length ≤ j + 1 := by simp; omega
        have h4 := HRL.out
        rw [List.length_append]
        omega
      rw [hnx] at hnl
      rw [e1] at k1
      rw [e2] at k2
      generalize s.adr = A1 at k3 hy
      generalize s.cap = c1 at k3
      generalize s.data = d at k3 hy hd hnx hnl
      generalize L9 ++ rawsB (raws.take j) = L at hst hnx hnl
      have hx := (Below.refl wr.heap.size wr).alloc (Nat.le_refl _) (.cells #[.int .i64 (f : Int), .int .i64 (t : Int), .slice A1 d.length c1] 77)
      have c0 := cells3 (Blk.new wr 77 [.int .i64 (f : Int), .int .i64 (t : Int), .slice A1 d.length c1])
      obtain ⟨v0, hov⟩ := hst.out
      obtain ⟨Av1, cv1, rfl, _, _⟩ := hov.2.form
      have hkg := hov.1.below hx hov.1.lt
      have cg : World.cell? (wr.alloc (.cells #[.int .i64 (f : Int), .int .i64 (t : Int), .slice A1 d.length c1] 77)) ⟨w1.heap.size, 0, none⟩ = some (.slice Av1 L.length cv1) := hkg.cell 0
      have QW := Lib.hid (whole_any f t A1 c1 d (wr.alloc (.cells #[.int .i64 (f : Int), .int .i64 (t : Int), .slice A1 d.length c1] 77)).drew (.inr (.inr (.inr hf))) ht2 (by omega) ((((hy.lift hst.below.size).below hx (Nat.le_refl _)).below (Below.refl _ _).drew hx.size).bytes (by simp [World.drew])))
      have HST := Lib.hid hst; have HOV := Lib.hid hov; have HX := Lib.hid hx; have HKG := Lib.hid hkg; have HOW := Lib.hid (hov.2.below hx)
      have HNX := Lib.hid hnx; have HNL := Lib.hid hnl; have HJ := Lib.hid hlt
      have HSB := Lib.hid (hst.below.trans (hx.mono hst.below.size))
      have hj1000 : j + 1 ≤ 1000 := by have := HRL.out; omega
      clear hst hov hx hkg hnx hnl hs e1 e2 hf ht2 hd hy
      subst hA1
      go_wp2_with fail
      go_region_law ((first
        | (have hq5 := HO5; clear hq5; refine step_append_bytes isBytes (by rfl) (.tmp 71) (.tmp 78) (by rfl) w (.slice Av1 L.length cv1) L (by rfl) HOW5.out A5 (wholeL f t d) _ c5 (by rfl) (by rfl) HO5.out.bytes (by have h1 := HNL.out; rw [List.length_append] at h1; omega) HB5.out ?_; intro v6 w6 ho6 hg6 hb6; have hk6 := HK5.out.row hg6 (HOW5.out.ne_blk HK5.out (by decide)); have c6 : w6.cell? ⟨w1.heap.size, 0, none⟩ = some (.slice Av1 L.length cv1) := hk6.cell 0; have g6 : w6.frozen? ⟨w1.heap.size, 0, none⟩ = false := hk6.free 0; obtain ⟨A6, d6, rfl, q61, q62⟩ := ho6.form; have el6 : (L ++ wholeL f t d).length = L.length + (wholeL f t d).length := List.length_append; rw [el6] at ho6; clear el6; have HK6 := Lib.hid hk6; have HO6 := Lib.hid ho6; have HG6 := Lib.hid hg6; have HB6 := Lib.hid hb6; clear hk6 ho6 hg6 hb6 q61 q62)
        | ((try go_simp); go_at_call 78; refine QW.out.mono ?_; rintro e w5 ⟨A5, c5, rfl, f51, f52, ho5, hb5⟩; replace hb5 := below_undrew hb5; have hk5 := HKG.out.below hb5 HKG.out.lt; have cg5 : w5.cell? ⟨w1.heap.size, 0, none⟩ = some (.slice Av1 L.length cv1) := hk5.cell 0; have HK5 := Lib.hid hk5; have HO5 := Lib.hid ho5; have HB5 := Lib.hid (HSB.out.trans (hb5.mono HSB.out.size)); have HW5 := Lib.hid (HX.out.trans (hb5.mono HX.out.size)); have HOW5 := Lib.hid (HOW.out.below hb5); clear hk5 ho5 hb5 f51 f52)))
      all_goals
        go_wp2_with fail
        go_roundw
        case rel => have h1 := HJ.out; have h2 := HRL.out; exact ⟨j + 1, HJ.out, by go_num, by rw [HNX.out]; exact HST.out.put HOV.out HW5.out HG6.out HB6.out HK6.out HO6.out (by have h1 := HNL.out; exact h1)⟩
        case measure => have h1 := HJ.out; have h2 := HRL.out; simp [intOf]; omega
    · obtain rfl : j = raws.length := by omega
      rw [List.take_length] at hst
      have S10 := Lib.hid hst
      have HL10 := Lib.hid (show (L9 ++ rawsB raws).length ≤ 190000 by
        have h1 := HL9.out
        have h2 := rawsB_len raws (fun s hs => by obtain ⟨_, _, _, _, _, _, h⟩ := HRE.out s hs; exact h)
        have h4 := HRL.out
        rw [List.length_append]
        omega)
      clear hst
      generalize hE10 : (L9 ++ rawsB raws) = L10 at S10 HL10
      have HE10 := Lib.hid hE10
      clear hE10
      clear HCM HRW HRE HRL HCF HCL
      cases wide with
      | true =>
        have hkA := S10.out.blkA
        rw [HROW.out] at hkA
        have f1 : wr.cell? ⟨w.heap.size, 1, none⟩ = some (.slice pa path.length pc) := hkA.cell 1
        have fW : wr.cell? ⟨w.heap.size + 1, 0, none⟩ = some (.bool true) := S10.out.blkW.cell 0
        clear hkA
        go_wp2_with fail
        refine (put_step S10.out HT.out (false) 17 17 192 17 0 0 1 rfl (by rfl) (by decide) (by decide) 89 #[.pointer (some ⟨w.heap.size, 0, none⟩)] enters_p6 (putB true path) (fun h => absurd h (by decide)) (by have h1 := HL10.out; have h2 := oneB_len (false) 192 17 (putB true path); have h3 := HPL.out.2; rw [List.length_append]; omega) (by have h3 := HPL.out.2; omega)).mono ?_
        rintro e W11 ⟨rfl, s9⟩
        have S11 := Lib.hid s9
        have HL11 := Lib.hid (show (L10 ++ oneB (false) 192 17 (putB true path)).length ≤ 260000 by have h1 := HL10.out; have h2 := oneB_len (false) 192 17 (putB true path); have h3 := HPL.out.2; rw [List.length_append]; omega)
        clear s9
        generalize hE11 : (L10 ++ oneB (false) 192 17 (putB true path)) = L11 at S11 HL11
        have HE11 := Lib.hid hE11
        clear hE11
        have fW2 : W11.cell? ⟨w.heap.size + 1, 0, none⟩ = some (.bool true) := S11.out.blkW.cell 0
        go_wp2_with fail
        refine (put_step S11.out HT.out (false) 18 18 192 18 0 0 1 rfl (by rfl) (by decide) (by decide) 90 #[.pointer (some ⟨w.heap.size, 0, none⟩)] enters_p7 (aggrB true sa ad) (fun h => absurd h (by decide)) (by have h1 := HL11.out; have h2 := oneB_len (false) 192 18 (aggrB true sa ad); have h3 := aggrB_len true sa ad; rw [List.length_append]; omega) (by have h3 := aggrB_len true sa ad; omega)).mono ?_
        rintro e W12 ⟨rfl, s9⟩
        have S12 := Lib.hid s9
        have HL12 := Lib.hid (show (L11 ++ oneB (false) 192 18 (aggrB true sa ad)).length ≤ 260020 by have h1 := HL11.out; have h2 := oneB_len (false) 192 18 (aggrB true sa ad); have h3 := aggrB_len true sa ad; rw [List.length_append]; omega)
        clear s9
        generalize hE12 : (L11 ++ oneB (false) 192 18 (aggrB true sa ad)) = L12 at S12 HL12
        have HE12 := Lib.hid hE12
        clear hE12
        obtain ⟨v12, ho12⟩ := S12.out.out
        obtain ⟨AE, cE, rfl, g1, g2⟩ := ho12.2.form
        have fE : W12.cell? ⟨w1.heap.size, 0, none⟩ = some (.slice AE L12.length cE) := ho12.1.cell 0
        have HOE := Lib.hid ho12.2; have HGE := Lib.hid (And.intro g1 g2)
        clear ho12 g1 g2
        go_wp2_with fail
        go_ret2
        rw [show putA org next sa ad path med pref mm mp atomic has comms raws true = L12 from by
          unfold putA
          simp only [Bool.not_true, Bool.false_and]
          rw [HE1.out, HE2.out, HE4.out, HE5.out, HE6.out, HE7.out, HE8.out, HE9.out, HE10.out, HE11.out, HE12.out]]
        exact ⟨AE, cE, rfl, HGE.out.1, HGE.out.2, HOE.out, S12.out.below⟩
      | false =>
        have hkA := S10.out.blkA
        rw [HROW.out] at hkA
        have f1 : wr.cell? ⟨w.heap.size, 1, none⟩ = some (.slice pa path.length pc) := hkA.cell 1
        have fW : wr.cell? ⟨w.heap.size + 1, 0, none⟩ = some (.bool false) := S10.out.blkW.cell 0
        clear hkA
        have QF := Flat_any pa pc path wr (by have h := (HIN.out.path.below S10.out.below (Nat.le_refl _)).lift S10.out.below.size; rw [HEA.out, HEP.out] at h; exact h) (by omega) (by have := HPT.out; omega)
        obtain ⟨z, hz⟩ : ∃ z, z = flatN path := ⟨_, rfl⟩
        have hzl : z.length ≤ 10000 := by rw [hz, flatN_len]; have := HPT.out; omega
        rw [← hz] at QF
        have HZ := Lib.hid hz; have HZL := Lib.hid hzl; have QF2 := Lib.hid QF
        clear QF hz hzl
        go_wp2_with fail
        refine QF2.out.mono ?_
        rintro e V10 ⟨AF, cF, rfl, g1, g2, hoF, hbF⟩
        have SF := Lib.hid (S10.out.later hbF)
        have QB := Lib.hid (ContainsFunc4_any AF cF z V10 hoF.at (by have := HZL.out; omega))
        clear g1 g2 hoF hbF
        go_wp2_with fail
        refine QB.out.mono ?_
        rintro e V11 ⟨rfl, rfl⟩
        go_wp2_with fail
        refine (put_step SF.out HT.out (bigs z) 17 17 192 17 0 0 1 rfl (by rfl) (by decide) (by decide) 89 #[.pointer (some ⟨w.heap.size, 0, none⟩)] enters_p6 (putB true path) (fun _ W' hb => by have h := clos6_any a W' w.heap.size (SF.out.blkA.below hb SF.out.blkA.lt) ((HIN.out.path.below (SF.out.below.trans (hb.mono SF.out.below.size)) (Nat.le_refl _)).lift (SF.out.below.trans (hb.mono SF.out.below.size)).size) (by rw [HEP.out]; omega) (by rw [HEP.out]; have := HPT.out; omega); rw [HEP.out] at h; exact h) (by have h1 := HL10.out; have h2 := oneB_len (bigs z) 192 17 (putB true path); have h3 := HPL.out.2; rw [List.length_append]; omega) (by have h3 := HPL.out.2; omega)).mono ?_
        rintro e W11 ⟨rfl, s9⟩
        have S11 := Lib.hid s9
        have HL11 := Lib.hid (show (L10 ++ oneB (bigs z) 192 17 (putB true path)).length ≤ 260000 by have h1 := HL10.out; have h2 := oneB_len (bigs z) 192 17 (putB true path); have h3 := HPL.out.2; rw [List.length_append]; omega)
        clear s9
        generalize hE11 : (L10 ++ oneB (bigs z) 192 17 (putB true path)) = L11 at S11 HL11
        have HE11 := Lib.hid hE11
        clear hE11
        have hkA := S11.out.blkA
        rw [HROW.out] at hkA
        have f7 : W11.cell? ⟨w.heap.size, 7, none⟩ = some (.int .u32 (sa : Int)) := hkA.cell 7
        have fW2 : W11.cell? ⟨w.heap.size + 1, 0, none⟩ = some (.bool false) := S11.out.blkW.cell 0
        clear hkA
        go_wp2_with fail
        refine (big_any sa W11).mono ?_
        rintro e V12 ⟨rfl, rfl⟩
        go_wp2_with fail
        refine (put_step S11.out HT.out (bigB sa) 18 18 192 18 0 0 1 rfl (by rfl) (by decide) (by decide) 90 #[.pointer (some ⟨w.heap.size, 0, none⟩)] enters_p7 (aggrB true sa ad) (fun _ W' hb => clos7_any a W' w.heap.size (S11.out.blkA.below hb S11.out.blkA.lt) sa ad HES.out HED.out hsa had) (by have h1 := HL11.out; have h2 := oneB_len (bigB sa) 192 18 (aggrB true sa ad); have h3 := aggrB_len true sa ad; rw [List.length_append]; omega) (by have h3 := aggrB_len true sa ad; omega)).mono ?_
        rintro e W12 ⟨rfl, s9⟩
        have S12 := Lib.hid s9
        have HL12 := Lib.hid (show (L11 ++ oneB (bigB sa) 192 18 (aggrB true sa ad)).length ≤ 260020 by have h1 := HL11.out; have h2 := oneB_len (bigB sa) 192 18 (aggrB true sa ad); have h3 := aggrB_len true sa ad; rw [List.length_append]; omega)
        clear s9
        generalize hE12 : (L11 ++ oneB (bigB sa) 192 18 (aggrB true sa ad)) = L12 at S12 HL12
        have HE12 := Lib.hid hE12
        clear hE12
        obtain ⟨v12, ho12⟩ := S12.out.out
        obtain ⟨AE, cE, rfl, g1, g2⟩ := ho12.2.form
        have fE : W12.cell? ⟨w1.heap.size, 0, none⟩ = some (.slice AE L12.length cE) := ho12.1.cell 0
        have HOE := Lib.hid ho12.2; have HGE := Lib.hid (And.intro g1 g2)
        clear ho12 g1 g2
        go_wp2_with fail
        go_ret2
        rw [show putA org next sa ad path med pref mm mp atomic has comms raws false = L12 from by
          unfold putA
          simp only [Bool.not_false, Bool.true_and]
          rw [HE1.out, HE2.out, HE4.out, HE5.out, HE6.out, HE7.out, HE8.out, HE9.out, HE10.out, ← HZ.out, HE11.out, HE12.out]]
        exact ⟨AE, cE, rfl, HGE.out.1, HGE.out.2, HOE.out, S12.out.below⟩
end Go.Proofs.YtnaangnmlbgmkaaGreatDoor

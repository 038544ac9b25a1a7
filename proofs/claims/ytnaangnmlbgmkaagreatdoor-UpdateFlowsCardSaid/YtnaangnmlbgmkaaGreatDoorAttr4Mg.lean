/-
  Texts of this seat, put together: Attr4.
-/
import Derived.Test.YtnaangnmlbgmkaaGreatDoorRaw4Mg
import Derived.Test.YtnaangnmlbgmkaaGreatDoorMg1
/-
  Attributes in memory, and whether they may be.
-/
namespace Go.Proofs.YtnaangnmlbgmkaaGreatDoor
set_option linter.unusedVariables false
set_option linter.unusedSimpArgs false
open Go.RowKit

/-- Attributes as they lie in memory. -/
structure Av where
  org : Int
  pathA : Option Addr
  pathC : Nat
  path : List Sg
  next : Int
  med : Int
  pref : Int
  atomic : Bool
  has : Bool
  aas : Int
  aad : Int
  commsA : Option Addr
  commsC : Nat
  comms : List Nat
  rawsA : Option Addr
  rawsC : Nat
  raws : List Rw
def Av.row (a : Av) : List Value := [.int .i64 a.org, .slice a.pathA a.path.length a.pathC, .int .u32 a.next, .int .i64 a.med, .int .i64 a.pref, .bool a.atomic, .bool a.has, .int .u32 a.aas, .int .u32 a.aad, .slice a.commsA a.comms.length a.commsC, .slice a.rawsA a.raws.length a.rawsC]
/-- What attributes lead to lies below B. -/
structure Av.In (w : World) (B : Nat) (a : Av) : Prop where
  path : Segs w B a.pathA a.path
  pathC : a.path.length ≤ a.pathC ∧ a.pathC ≤ maxLen
  comms : At32 w B a.commsA a.comms
  commsC : a.comms.length ≤ a.commsC ∧ a.commsC ≤ maxLen
  raws : RwIn w B a.rawsA a.raws
  rawsC : a.raws.length ≤ a.rawsC ∧ a.rawsC ≤ maxLen
  each : ∀ s ∈ a.raws, s.data.length ≤ s.cap ∧ s.cap ≤ maxLen
theorem Av.In.below {w w' : World} {B B' : Nat} {a : Av} (h : a.In w B) (hb : Below B' w w') (hB : B ≤ B') : a.In w' B :=
  ⟨h.path.below hb hB, h.pathC, h.comms.below hb hB, h.commsC, h.raws.below hb hB, h.rawsC, h.each⟩
theorem Av.In.lift {w : World} {B B' : Nat} {a : Av} (h : a.In w B) (hB : B ≤ B') : a.In w B' :=
  ⟨h.path.lift hB, h.pathC, h.comms.lift hB, h.commsC, h.raws.lift hB, h.rawsC, h.each⟩
/-- May a number be said, or not be? -/
def saidB (n : Int) : Bool := decide (-1 ≤ n) && decide (n ≤ 4294967295)
/-- May attributes be? -/
def Av.okB (a : Av) : Bool := decide (0 ≤ a.org) && decide (a.org ≤ 2) && rightB a.path && saidB a.med && saidB a.pref && (a.has || (decide (a.aas = 0) && decide (a.aad = 0))) && decide (a.comms.length ≤ 32) && (rawsF (-1) (a.raws.map Rw.abs) && decide (a.raws.length ≤ 8))

set_option maxHeartbeats 6400000 in
theorem Right_attrs (a : Av) (w : World) (ht : TabK w) (h : a.In w w.heap.size) (hl : a.path.length ≤ 1152921504606846976) (hl2 : a.raws.length ≤ 1152921504606846976) (hl3 : totN a.path ≤ 1152921504606846976) :
    Calls Tryz.prog 75 #[.agg a.row.toArray] w fun e w' => e = .returned (.bool a.okB) ∧ Below w.heap.size w w' := by
  obtain ⟨org, pa, pc, path, next, med, pref, atomic, has, aas, aad, ca, cc, comms, ra, rc, raws⟩ := a
  obtain ⟨hp, hpc, hcm, hcc, hrw, hrc, hea⟩ := h
  dsimp only at hp hpc hcm hcc hrw hrc hea hl hl2 hl3
  unfold Av.row Av.okB
  dsimp only
  have hb0 := (Below.refl w.heap.size w).alloc (Nat.le_refl _) (.cells #[.int .i64 org, .slice pa path.length pc, .int .u32 next, .int .i64 med, .int .i64 pref, .bool atomic, .bool has, .int .u32 aas, .int .u32 aad, .slice ca comms.length cc, .slice ra raws.length rc] 28)
  have kO := Blk.new w 28 [.int .i64 org, .slice pa path.length pc, .int .u32 next, .int .i64 med, .int .i64 pref, .bool atomic, .bool has, .int .u32 aas, .int .u32 aad, .slice ca comms.length cc, .slice ra raws.length rc]
  have k0 : World.cell? _ ⟨w.heap.size, 0, none⟩ = some _ := kO.cell 0
  have k1 : World.cell? _ ⟨w.heap.size, 1, none⟩ = some _ := kO.cell 1
  have HB0 := Lib.hid hb0; have HO := Lib.hid kO
  have HT0 := ht.below hb0 ht.lt
  have q3 := Right_any pa pc path _ ((hp.below hb0 (Nat.le_refl _)).lift hb0.size) hpc.1 hpc.2 hl3
  obtain ⟨R, hR⟩ : ∃ R, R = rightB path := ⟨_, rfl⟩
  obtain ⟨M, hM⟩ : ∃ M, M = saidB med := ⟨_, rfl⟩
  obtain ⟨P, hP⟩ : ∃ P, P = saidB pref := ⟨_, rfl⟩
  obtain ⟨W, hW⟩ : ∃ W, W = (rawsF (-1) (raws.map Rw.abs) && decide (raws.length ≤ 8)) := ⟨_, rfl⟩
  rw [← hR, ← hM, ← hP, ← hW]
  rw [← hR] at q3
  have Q3 := Lib.hid q3
  have Q4 := Lib.hid (fun w => mayBeSaid_any med w)
  have Q5 := Lib.hid (fun w => mayBeSaid_any pref w)
  unfold saidB at hM hP
  rw [← hM] at Q4
  rw [← hP] at Q5
  have Q8 := Lib.hid (fun (w2 : World) (hb2 : Below w.heap.size w w2) => rightRaws_any ra rc raws w2 (ht.below hb2 ht.lt) ((hrw.below hb2 (Nat.le_refl _)).lift hb2.size) hl2 hea)
  rw [← hW] at Q8
  obtain ⟨V, hV⟩ : ∃ V, V = (decide (0 ≤ org) && decide (org ≤ 2) && R && M && P && (has || (decide (aas = 0) && decide (aad = 0))) && decide (comms.length ≤ 32) && W) := ⟨_, rfl⟩
  rw [← hV]
  have HV := Lib.hid hV
  clear hp hpc hcm hcc hrw hrc hea hl hl2 hl3 hb0 kO HT0 q3 hR hM hP hW hV ht
  by_cases h1 : 0 ≤ org
  · by_cases h2 : org ≤ 2
    · go_enter Tryz.func75, Tryz.ntmps75
      go_wp2_with fail
      refine Q3.out.mono ?_
      rintro e w3 ⟨rfl, hb3⟩
      have HB3 := Lib.hid (HB0.out.trans (hb3.mono HB0.out.size))
      have hk := HO.out.below hb3 HO.out.lt
      have d3 : World.cell? _ ⟨w.heap.size, 3, none⟩ = some _ := hk.cell 3
      have d4 : World.cell? _ ⟨w.heap.size, 4, none⟩ = some _ := hk.cell 4
      have d6 : World.cell? _ ⟨w.heap.size, 6, none⟩ = some _ := hk.cell 6
      have d7 : World.cell? _ ⟨w.heap.size, 7, none⟩ = some _ := hk.cell 7
      have d8 : World.cell? _ ⟨w.heap.size, 8, none⟩ = some _ := hk.cell 8
      have d9 : World.cell? _ ⟨w.heap.size, 9, none⟩ = some _ := hk.cell 9
      have d10 : World.cell? _ ⟨w.heap.size, 10, none⟩ = some _ := hk.cell 10
      clear hb3 Q3 hk k0 k1
      cases R with
      | false =>
        have HE := Lib.hid (show V = false by rw [HV.out]; simp)
        clear HV
        go_wp2_with fail
        go_ret
        exact ⟨by rw [HE.out]; rfl, HB3.out⟩
      | true =>
        go_wp2_with fail
        refine (Q4.out _).mono ?_
        rintro e w4 ⟨rfl, rfl⟩
        cases M with
        | false =>
          have HE := Lib.hid (show V = false by rw [HV.out]; simp)
          clear HV
          go_wp2_with fail
          go_ret
          exact ⟨by rw [HE.out]; rfl, HB3.out⟩
        | true =>
          go_wp2_with fail
          refine (Q5.out _).mono ?_
          rintro e w4 ⟨rfl, rfl⟩
          cases P with
          | false =>
            have HE := Lib.hid (show V = false by rw [HV.out]; simp)
            clear HV
            go_wp2_with fail
            go_ret
            exact ⟨by rw [HE.out]; rfl, HB3.out⟩
          | true =>
            have HG := Lib.hid (show V = ((has || (decide (aas = 0) && decide (aad = 0))) && decide (comms.length ≤ 32) && W) by rw [HV.out]; simp [h1, h2])
            clear HV
            cases has with
            | true =>
              have HK := Lib.hid (show V = (decide (comms.length ≤ 32) && W) by rw [HG.out]; simp [*])
              clear HG
              by_cases h9 : comms.length ≤ 32
              · have h9I : (comms.length : Int) ≤ 32 := by omega
                have HE := Lib.hid (show V = W by rw [HK.out]; simp [h9])
                clear HK
                go_wp2_with fail
                refine (Q8.out _ HB3.out).mono ?_
                rintro e w5 ⟨rfl, hb5⟩
                have HB5 := Lib.hid (HB3.out.trans (hb5.mono HB3.out.size))
                clear hb5 Q8
                go_wp2_with fail
                go_ret
                exact ⟨by rw [HE.out]; rfl, HB5.out⟩
              · have h9I : ¬ (comms.length : Int) ≤ 32 := by omega
                have HE := Lib.hid (show V = false by rw [HK.out]; simp [h9])
                clear HK
                go_wp2_with fail
                go_ret
                exact ⟨by rw [HE.out]; rfl, HB3.out⟩
            | false =>
              by_cases h7 : aas = 0
              · have e7 : (aas == 0) = true := by simp [h7]
                by_cases h8 : aad = 0
                · have e8 : (aad == 0) = true := by simp [h8]
                  have HK := Lib.hid (show V = (decide (comms.length ≤ 32) && W) by rw [HG.out]; simp [*])
                  clear HG
                  by_cases h9 : comms.length ≤ 32
                  · have h9I : (comms.length : Int) ≤ 32 := by omega
                    have HE := Lib.hid (show V = W by rw [HK.out]; simp [h9])
                    clear HK
                    go_wp2_with fail
                    refine (Q8.out _ HB3.out).mono ?_
                    rintro e w5 ⟨rfl, hb5⟩
                    have HB5 := Lib.hid (HB3.out.trans (hb5.mono HB3.out.size))
                    clear hb5 Q8
                    go_wp2_with fail
                    go_ret
                    exact ⟨by rw [HE.out]; rfl, HB5.out⟩
                  · have h9I : ¬ (comms.length : Int) ≤ 32 := by omega
                    have HE := Lib.hid (show V = false by rw [HK.out]; simp [h9])
                    clear HK
                    go_wp2_with fail
                    go_ret
                    exact ⟨by rw [HE.out]; rfl, HB3.out⟩
                · have e8 : (aad == 0) = false := by simp [h8]
                  have HE := Lib.hid (show V = false by rw [HG.out]; simp [h8])
                  clear HG
                  go_wp2_with fail
                  go_ret
                  exact ⟨by rw [HE.out]; rfl, HB3.out⟩
              · have e7 : (aas == 0) = false := by simp [h7]
                have HE := Lib.hid (show V = false by rw [HG.out]; simp [h7])
                clear HG
                go_wp2_with fail
                go_ret
                exact ⟨by rw [HE.out]; rfl, HB3.out⟩
    · have HE := Lib.hid (show V = false by rw [HV.out]; simp [h2])
      clear HV Q3
      go_enter Tryz.func75, Tryz.ntmps75
      go_wp2_with fail
      go_ret
      exact ⟨by rw [HE.out]; rfl, HB0.out⟩
  · have HE := Lib.hid (show V = false by rw [HV.out]; simp [h1])
    clear HV Q3
    go_enter Tryz.func75, Tryz.ntmps75
    go_wp2_with fail
    go_ret
    exact ⟨by rw [HE.out]; rfl, HB0.out⟩
end Go.Proofs.YtnaangnmlbgmkaaGreatDoor

/-
  What is wrong with an OPEN, by the code.
-/
import Derived.Test.YtpdnpphkkobhgaaCheck6
namespace Go.Proofs.Ytpdnpphkkobhgaa
set_option linter.unusedVariables false
set_option linter.unusedSimpArgs false
open Go.RowKit

/-- What is wrong with an OPEN: a fault's Code, Sub and bytes. -/
def checkF (ver a hold id au mine : Int) : Int × Int × List UInt8 :=
  if ver ≠ 4 then (2, 1, [0, 4]) else if a ≠ au then (2, 2, []) else if id = 0 ∨ id = mine then (2, 3, []) else if hold = 1 ∨ hold = 2 then (2, 6, []) else (0, 0, [])
/-- A fault that a call returned. -/
def RetFault (w : World) (x : Int × Int × List UInt8) (e : Ending) (w' : World) : Prop :=
  Below w.heap.size w w' ∧ ∃ A c, e = .returned (.agg #[.int .i64 x.1, .int .i64 x.2.1, .slice A x.2.2.length c]) ∧ x.2.2.length ≤ c ∧ c ≤ maxLen ∧ Bytes w' A x.2.2
theorem own_two (w : World) (e : Nat) : Own (w.alloc (.cells #[.int .u8 0, .int .u8 4] e)) w.heap.size e (.slice (some ⟨w.heap.size, 0, none⟩) 2 2) [0, 4] := by
  refine ⟨by simp, .inr ⟨w.heap.size, 2, _, rfl, Nat.le_refl _, heap_alloc_new w _, Nat.le_refl _, by unfold maxLen; omega, rfl, ?_⟩⟩
  simp
set_option maxHeartbeats 6400000 in
theorem Check_any (ver sys hold id au mine : Int) (A : Option Addr) (c : Nat) (L : List Cp) (w : World) (h : CpIn w w.heap.size A L) (hl : L.length ≤ 1152921504606846976) (hr : ∀ s ∈ L, s.data.length ≤ s.cap ∧ s.cap ≤ maxLen) :
    Calls Try.prog 20 #[.agg #[.int .i64 ver, .int .i64 sys, .int .i64 hold, .int .u32 id, .slice A L.length c], .int .u32 au, .int .u32 mine] w (RetFault w (checkF ver (asN sys (wideL (L.map Cp.abs))) hold id au mine)) := by
  have hb0 := (Below.refl w.heap.size w).alloc (Nat.le_refl _) (.cells #[.int .i64 ver, .int .i64 sys, .int .i64 hold, .int .u32 id, .slice A L.length c] 25)
  have kO := Blk.new w 25 [.int .i64 ver, .int .i64 sys, .int .i64 hold, .int .u32 id, .slice A L.length c]
  have hz : (w.alloc (.cells #[.int .i64 ver, .int .i64 sys, .int .i64 hold, .int .u32 id, .slice A L.length c] 25)).heap.size = w.heap.size + 1 := by simp
  have kR := Blk.new (w.alloc (.cells #[.int .i64 ver, .int .i64 sys, .int .i64 hold, .int .u32 id, .slice A L.length c] 25)) 36 [.int .i64 0, .int .i64 0, .slice none 0 0]
  rw [hz] at kR
  have hb1 := hb0.alloc (by simp) (.cells #[.int .i64 0, .int .i64 0, .slice none 0 0] 36)
  have kO1 := kO.below ((Below.refl _ _).alloc (Nat.le_refl _) (.cells #[.int .i64 0, .int .i64 0, .slice none 0 0] 36)) kO.lt
  have q := AS_any ver sys hold id A c L _ ((h.below hb1 (Nat.le_refl _)).lift hb1.size) hl hr
  obtain ⟨a, ha⟩ : ∃ a, a = asN sys (wideL (L.map Cp.abs)) := ⟨_, rfl⟩
  rw [← ha] at q ⊢
  have o0 : World.cell? _ ⟨w.heap.size, 0, none⟩ = some _ := kO1.cell 0
  have o1 : World.cell? _ ⟨w.heap.size, 1, none⟩ = some _ := kO1.cell 1
  have o2 : World.cell? _ ⟨w.heap.size, 2, none⟩ = some _ := kO1.cell 2
  have o3 : World.cell? _ ⟨w.heap.size, 3, none⟩ = some _ := kO1.cell 3
  have o4 : World.cell? _ ⟨w.heap.size, 4, none⟩ = some _ := kO1.cell 4
  have hz2 : ((w.alloc (.cells #[.int .i64 ver, .int .i64 sys, .int .i64 hold, .int .u32 id, .slice A L.length c] 25)).alloc (.cells #[.int .i64 0, .int .i64 0, .slice none 0 0] 36)).heap.size = w.heap.size + 2 := by simp
  have Q := Lib.hid q
  have HB1 := Lib.hid hb1; have HO := Lib.hid kO1; have HR := Lib.hid kR; have HZ2 := Lib.hid hz2
  clear h hr hb0 hb1 kO kO1 kR ha q hz hz2
  by_cases h4 : ver = 4
  · subst h4
    by_cases hA : a ≠ au
    · have HF := Lib.hid (show checkF 4 a hold id au mine = (2, 2, []) by unfold checkF; rw [if_neg (by simp), if_pos hA])
      have hAb : (a != au) = true := by simpa using hA
      clear hA
      go_enter Try.func20, Try.ntmps20
      go_wp2_with fail
      refine Q.out.mono ?_
      rintro e w2 ⟨rfl, hb2⟩
      have kO2 := HO.out.below hb2 HO.out.lt
      have p0 : World.cell? _ ⟨w.heap.size, 0, none⟩ = some _ := kO2.cell 0
      have p2 : World.cell? _ ⟨w.heap.size, 2, none⟩ = some _ := kO2.cell 2
      have p3 : World.cell? _ ⟨w.heap.size, 3, none⟩ = some _ := kO2.cell 3
      have HB2 := Lib.hid (HB1.out.trans (hb2.mono HB1.out.size))
      have kR2 := HR.out.below hb2 HR.out.lt
      have fR2 := free3 kR2
      have cR2 := cells3 kR2
      have HR2 := Lib.hid kR2
      clear hb2 kO2 kR2 Q
      go_wp2_with fail
      refine (fault6_any 2 none 0 0 w2).mono ?_
      rintro e w3 ⟨rfl, hb3⟩
      have kR3 := HR2.out.below hb3 HR2.out.lt
      have fR3 := free3 kR3
      have cR3 := cells3 kR3
      have r7 := res3 (.int .i64 2) (.int .i64 2) (.slice none 0 0) kR3
      have HB3 := Lib.hid (HB2.out.trans (hb3.mono HB2.out.size))
      clear hb3 kR3
      go_wp2_with fail
      refine bodyPost_ret (v := .agg #[.int .i64 2, .int .i64 2, .slice none 0 0]) (by simp [results, Try.results20, go_sem, r7.1, r7.2.1, r7.2.2]) rfl ?_
      rw [HF.out]
      exact ⟨below_set3' HB3.out (Nat.le_succ _), none, 0, rfl, Nat.le_refl _, Nat.zero_le _, Bytes.nil _ _⟩
    · obtain rfl : a = au := Classical.not_not.1 hA
      clear hA
      by_cases hi : id = 0
      · subst hi
        have HF := Lib.hid (show checkF 4 a hold 0 a mine = (2, 3, []) by unfold checkF; rw [if_neg (by simp), if_neg (by simp), if_pos (.inl rfl)])
        go_enter Try.func20, Try.ntmps20
        go_wp2_with fail
        refine Q.out.mono ?_
        rintro e w2 ⟨rfl, hb2⟩
        have kO2 := HO.out.below hb2 HO.out.lt
        have p0 : World.cell? _ ⟨w.heap.size, 0, none⟩ = some _ := kO2.cell 0
        have p2 : World.cell? _ ⟨w.heap.size, 2, none⟩ = some _ := kO2.cell 2
        have p3 : World.cell? _ ⟨w.heap.size, 3, none⟩ = some _ := kO2.cell 3
        have HB2 := Lib.hid (HB1.out.trans (hb2.mono HB1.out.size))
        have kR2 := HR.out.below hb2 HR.out.lt
        have fR2 := free3 kR2
        have cR2 := cells3 kR2
        have HR2 := Lib.hid kR2
        clear hb2 kO2 kR2 Q
        go_wp2_with fail
        refine (fault6_any 3 none 0 0 w2).mono ?_
        rintro e w3 ⟨rfl, hb3⟩
        have kR3 := HR2.out.below hb3 HR2.out.lt
        have fR3 := free3 kR3
        have cR3 := cells3 kR3
        have r7 := res3 (.int .i64 2) (.int .i64 3) (.slice none 0 0) kR3
        have HB3 := Lib.hid (HB2.out.trans (hb3.mono HB2.out.size))
        clear hb3 kR3
        go_wp2_with fail
        refine bodyPost_ret (v := .agg #[.int .i64 2, .int .i64 3, .slice none 0 0]) (by simp [results, Try.results20, go_sem, r7.1, r7.2.1, r7.2.2]) rfl ?_
        rw [HF.out]
        exact ⟨below_set3' HB3.out (Nat.le_succ _), none, 0, rfl, Nat.le_refl _, Nat.zero_le _, Bytes.nil _ _⟩
      · by_cases hm : id = mine
        · subst hm
          have HF := Lib.hid (show checkF 4 a hold id a id = (2, 3, []) by unfold checkF; rw [if_neg (by simp), if_neg (by simp), if_pos (.inr rfl)])
          have hib : (id == 0) = false := by simpa using hi
          go_enter Try.func20, Try.ntmps20
          go_wp2_with fail
          refine Q.out.mono ?_
          rintro e w2 ⟨rfl, hb2⟩
          have kO2 := HO.out.below hb2 HO.out.lt
          have p0 : World.cell? _ ⟨w.heap.size, 0, none⟩ = some _ := kO2.cell 0
          have p2 : World.cell? _ ⟨w.heap.size, 2, none⟩ = some _ := kO2.cell 2
          have p3 : World.cell? _ ⟨w.heap.size, 3, none⟩ = some _ := kO2.cell 3
          have HB2 := Lib.hid (HB1.out.trans (hb2.mono HB1.out.size))
          have kR2 := HR.out.below hb2 HR.out.lt
          have fR2 := free3 kR2
          have cR2 := cells3 kR2
          have HR2 := Lib.hid kR2
          clear hb2 kO2 kR2 Q
          go_wp2_with fail
          refine (fault6_any 3 none 0 0 w2).mono ?_
          rintro e w3 ⟨rfl, hb3⟩
          have kR3 := HR2.out.below hb3 HR2.out.lt
          have fR3 := free3 kR3
          have cR3 := cells3 kR3
          have r7 := res3 (.int .i64 2) (.int .i64 3) (.slice none 0 0) kR3
          have HB3 := Lib.hid (HB2.out.trans (hb3.mono HB2.out.size))
          clear hb3 kR3
          go_wp2_with fail
          refine bodyPost_ret (v := .agg #[.int .i64 2, .int .i64 3, .slice none 0 0]) (by simp [results, Try.results20, go_sem, r7.1, r7.2.1, r7.2.2]) rfl ?_
          rw [HF.out]
          exact ⟨below_set3' HB3.out (Nat.le_succ _), none, 0, rfl, Nat.le_refl _, Nat.zero_le _, Bytes.nil _ _⟩
        · by_cases h1 : hold = 1
          · subst h1
            have HF := Lib.hid (show checkF 4 a 1 id a mine = (2, 6, []) by unfold checkF; rw [if_neg (by simp), if_neg (by simp), if_neg (fun e => e.elim hi hm), if_pos (.inl rfl)])
            have hib : (id == 0) = false := by simpa using hi
            have hmb : (id == mine) = false := by simpa using hm
            clear hi hm
            go_enter Try.func20, Try.ntmps20
            go_wp2_with fail
            refine Q.out.mono ?_
            rintro e w2 ⟨rfl, hb2⟩
            have kO2 := HO.out.below hb2 HO.out.lt
            have p0 : World.cell? _ ⟨w.heap.size, 0, none⟩ = some _ := kO2.cell 0
            have p2 : World.cell? _ ⟨w.heap.size, 2, none⟩ = some _ := kO2.cell 2
            have p3 : World.cell? _ ⟨w.heap.size, 3, none⟩ = some _ := kO2.cell 3
            have HB2 := Lib.hid (HB1.out.trans (hb2.mono HB1.out.size))
            have kR2 := HR.out.below hb2 HR.out.lt
            have fR2 := free3 kR2
            have cR2 := cells3 kR2
            have HR2 := Lib.hid kR2
            clear hb2 kO2 kR2 Q
            go_wp2_with fail
            refine (fault6_any 6 none 0 0 w2).mono ?_
            rintro e w3 ⟨rfl, hb3⟩
            have kR3 := HR2.out.below hb3 HR2.out.lt
            have fR3 := free3 kR3
            have cR3 := cells3 kR3
            have r7 := res3 (.int .i64 2) (.int .i64 6) (.slice none 0 0) kR3
            have HB3 := Lib.hid (HB2.out.trans (hb3.mono HB2.out.size))
            clear hb3 kR3
            go_wp2_with fail
            refine bodyPost_ret (v := .agg #[.int .i64 2, .int .i64 6, .slice none 0 0]) (by simp [results, Try.results20, go_sem, r7.1, r7.2.1, r7.2.2]) rfl ?_
            rw [HF.out]
            exact ⟨below_set3' HB3.out (Nat.le_succ _), none, 0, rfl, Nat.le_refl _, Nat.zero_le _, Bytes.nil _ _⟩
          · by_cases h2 : hold = 2
            · subst h2
              have HF := Lib.hid (show checkF 4 a 2 id a mine = (2, 6, []) by unfold checkF; rw [if_neg (by simp), if_neg (by simp), if_neg (fun e => e.elim hi hm), if_pos (.inr rfl)])
              have hib : (id == 0) = false := by simpa using hi
              have hmb : (id == mine) = false := by simpa using hm
              clear hi hm
              go_enter Try.func20, Try.ntmps20
              go_wp2_with fail
              refine Q.out.mono ?_
              rintro e w2 ⟨rfl, hb2⟩
              have kO2 := HO.out.below hb2 HO.out.lt
              have p0 : World.cell? _ ⟨w.heap.size, 0, none⟩ = some _ := kO2.cell 0
              have p2 : World.cell? _ ⟨w.heap.size, 2, none⟩ = some _ := kO2.cell 2
              have p3 : World.cell? _ ⟨w.heap.size, 3, none⟩ = some _ := kO2.cell 3
              have HB2 := Lib.hid (HB1.out.trans (hb2.mono HB1.out.size))
              have kR2 := HR.out.below hb2 HR.out.lt
              have fR2 := free3 kR2
              have cR2 := cells3 kR2
              have HR2 := Lib.hid kR2
              clear hb2 kO2 kR2 Q
              go_wp2_with fail
              refine (fault6_any 6 none 0 0 w2).mono ?_
              rintro e w3 ⟨rfl, hb3⟩
              have kR3 := HR2.out.below hb3 HR2.out.lt
              have fR3 := free3 kR3
              have cR3 := cells3 kR3
              have r7 := res3 (.int .i64 2) (.int .i64 6) (.slice none 0 0) kR3
              have HB3 := Lib.hid (HB2.out.trans (hb3.mono HB2.out.size))
              clear hb3 kR3
              go_wp2_with fail
              refine bodyPost_ret (v := .agg #[.int .i64 2, .int .i64 6, .slice none 0 0]) (by simp [results, Try.results20, go_sem, r7.1, r7.2.1, r7.2.2]) rfl ?_
              rw [HF.out]
              exact ⟨below_set3' HB3.out (Nat.le_succ _), none, 0, rfl, Nat.le_refl _, Nat.zero_le _, Bytes.nil _ _⟩
            · have HF := Lib.hid (show checkF 4 a hold id a mine = (0, 0, []) by unfold checkF; rw [if_neg (by simp), if_neg (by simp), if_neg (fun e => e.elim hi hm), if_neg (fun e => e.elim h1 h2)])
              have hib : (id == 0) = false := by simpa using hi
              have hmb : (id == mine) = false := by simpa using hm
              have h1b : (hold == 1) = false := by simpa using h1
              have h2b : (hold == 2) = false := by simpa using h2
              clear hi hm h1 h2
              go_enter Try.func20, Try.ntmps20
              go_wp2_with fail
              refine Q.out.mono ?_
              rintro e w2 ⟨rfl, hb2⟩
              have kO2 := HO.out.below hb2 HO.out.lt
              have p0 : World.cell? _ ⟨w.heap.size, 0, none⟩ = some _ := kO2.cell 0
              have p2 : World.cell? _ ⟨w.heap.size, 2, none⟩ = some _ := kO2.cell 2
              have p3 : World.cell? _ ⟨w.heap.size, 3, none⟩ = some _ := kO2.cell 3
              have HB2 := Lib.hid (HB1.out.trans (hb2.mono HB1.out.size))
              have kR2 := HR.out.below hb2 HR.out.lt
              have fR2 := free3 kR2
              have cR2 := cells3 kR2
              have HR2 := Lib.hid kR2
              clear hb2 kO2 kR2 Q
              have r7 := res3 (.int .i64 0) (.int .i64 0) (.slice none 0 0) HR2.out
              go_wp2_with fail
              refine bodyPost_ret (v := .agg #[.int .i64 0, .int .i64 0, .slice none 0 0]) (by simp [results, Try.results20, go_sem, r7.1, r7.2.1, r7.2.2]) rfl ?_
              rw [HF.out]
              exact ⟨below_set3' HB2.out (Nat.le_succ _), none, 0, rfl, Nat.le_refl _, Nat.zero_le _, Bytes.nil _ _⟩
  · have HF := Lib.hid (show checkF ver a hold id au mine = (2, 1, [0, 4]) by unfold checkF; rw [if_pos h4])
    have h4b : (ver != 4) = true := by simpa using h4
    clear h4
    have ho := own_two ((w.alloc (.cells #[.int .i64 ver, .int .i64 sys, .int .i64 hold, .int .u32 id, .slice A L.length c] 25)).alloc (.cells #[.int .i64 0, .int .i64 0, .slice none 0 0] 36)) 5
    have hbx := (Below.refl ((w.alloc (.cells #[.int .i64 ver, .int .i64 sys, .int .i64 hold, .int .u32 id, .slice A L.length c] 25)).alloc (.cells #[.int .i64 0, .int .i64 0, .slice none 0 0] 36)).heap.size ((w.alloc (.cells #[.int .i64 ver, .int .i64 sys, .int .i64 hold, .int .u32 id, .slice A L.length c] 25)).alloc (.cells #[.int .i64 0, .int .i64 0, .slice none 0 0] 36))).alloc (Nat.le_refl _) (.cells #[.int .u8 0, .int .u8 4] 5)
    have kx := HR.out.below hbx HR.out.lt
    have HX := Lib.hid kx
    have HBX := Lib.hid (HB1.out.trans (hbx.mono HB1.out.size))
    have HOX := Lib.hid ho
    clear hbx kx ho
    go_enter Try.func20, Try.ntmps20
    go_wp2_with fail
    refine (fault6_any 1 _ 2 2 _).mono ?_
    rintro e w3 ⟨rfl, hb3⟩
    have kR3 := HX.out.below hb3 HX.out.lt
    have fR3 := free3 kR3
    have cR3 := cells3 kR3
    have r7 := res3 (.int .i64 2) (.int .i64 1) (.slice (some ⟨w.heap.size + 2, 0, none⟩) 2 2) kR3
    have HB3 := Lib.hid (HBX.out.trans (hb3.mono HBX.out.size))
    have HO3 := Lib.hid (HOX.out.below hb3)
    clear hb3 kR3
    go_wp2_with fail
    refine bodyPost_ret (v := .agg #[.int .i64 2, .int .i64 1, .slice (some ⟨w.heap.size + 2, 0, none⟩) 2 2]) (by simp [results, Try.results20, go_sem, r7.1, r7.2.1, r7.2.2]) rfl ?_
    rw [HF.out]
    refine ⟨below_set3' HB3.out (Nat.le_succ _), some ⟨w.heap.size + 2, 0, none⟩, 2, rfl, Nat.le_refl _, by show 2 ≤ maxLen; unfold maxLen; omega, ?_⟩
    have h := HO3.out
    rw [HZ2.out] at h
    exact (h.beside (grown_set3 _ _ _ _ _) (by omega)).bytes
end Go.Proofs.Ytpdnpphkkobhgaa

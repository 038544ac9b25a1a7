/-
  What is wrong with an OPEN, by the document.
-/
import Derived.Test.YtpdnpphkkobhgaaChk6
import Derived.Test.YtpdnpphkkobhgaaRefWide6
namespace Go.Proofs.Ytpdnpphkkobhgaa
set_option linter.unusedVariables false
set_option linter.unusedSimpArgs false
open Go.RowKit

set_option maxHeartbeats 6400000 in
theorem RefCheck_any (ver sys hold id au mine : Int) (A : Option Addr) (c : Nat) (L : List Cp) (w : World) (h : CpIn w w.heap.size A L) (hl : L.length ≤ 1152921504606846976) (hr : ∀ s ∈ L, s.data.length ≤ s.cap ∧ s.cap ≤ maxLen) :
    Calls Try.prog 21 #[.agg #[.int .i64 ver, .int .i64 sys, .int .i64 hold, .int .u32 id, .slice A L.length c], .int .u32 au, .int .u32 mine] w (RetFault w (checkF ver (asN sys (wideL (L.map Cp.abs))) hold id au mine)) := by
  have hb0 := (Below.refl w.heap.size w).alloc (Nat.le_refl _) (.cells #[.int .i64 ver, .int .i64 sys, .int .i64 hold, .int .u32 id, .slice A L.length c] 25)
  have kO := Blk.new w 25 [.int .i64 ver, .int .i64 sys, .int .i64 hold, .int .u32 id, .slice A L.length c]
  have hz : (w.alloc (.cells #[.int .i64 ver, .int .i64 sys, .int .i64 hold, .int .u32 id, .slice A L.length c] 25)).heap.size = w.heap.size + 1 := by simp
  have kR := Blk.new (w.alloc (.cells #[.int .i64 ver, .int .i64 sys, .int .i64 hold, .int .u32 id, .slice A L.length c] 25)) 36 [.int .i64 0, .int .i64 0, .slice none 0 0]
  rw [hz] at kR
  have hb1 := hb0.alloc (by simp) (.cells #[.int .i64 0, .int .i64 0, .slice none 0 0] 36)
  have kO1 := kO.below ((Below.refl _ _).alloc (Nat.le_refl _) (.cells #[.int .i64 0, .int .i64 0, .slice none 0 0] 36)) kO.lt
  have q := RefAS_any ver sys hold id A c L _ ((h.below hb1 (Nat.le_refl _)).lift hb1.size) hl hr
  obtain ⟨a, ha⟩ : ∃ a, a = asN sys (wideL (L.map Cp.abs)) := ⟨_, rfl⟩
  rw [← ha] at q ⊢
  have o0 : World.cell? _ ⟨w.heap.size, 0, none⟩ = some _ := kO1.cell 0
  have o1 : World.cell? _ ⟨w.heap.size, 1, none⟩ = some _ := kO1.cell 1
  have o2 : World.cell? _ ⟨w.heap.size, 2, none⟩ = some _ := kO1.cell 2
  have o3 : World.cell? _ ⟨w.heap.size, 3, none⟩ = some _ := kO1.cell 3
  have o4 : World.cell? _ ⟨w.heap.size, 4, none⟩ = some _ := kO1.cell 4
  have hz2 : ((w.alloc (.cells #[.int .i64 ver, .int .i64 sys, .int .i64 hold, .int .u32 id, .slice A L.length c] 25)).alloc (.cells #[.int .i64 0, .int .i64 0, .slice none 0 0] 36)).heap.size = w.heap.size + 2 := by simp
  have Q := Lib.hid q
  have HB1 := Lib.hid hb1; have HO := Lib.hid kO1; have HR := Lib.hid kR; have HZ2 := Lib.hid hz2
  clear h hr hb0 hb1 kO kO1 kR ha q hz hz2
  by_cases h4 : ver = 4
  · subst h4
    by_cases hA : a ≠ au
    · have HF := Lib.hid (show checkF 4 a hold id au mine = (2, 2, []) by unfold checkF; rw [if_neg (by simp), if_pos hA])
      have hAb : (a != au) = true := by simpa using hA
      clear hA
      go_enter Try.func21, Try.ntmps21
      go_wp2_with fail
      refine Q.out.mono ?_
      rintro e w2 ⟨rfl, hb2⟩
      have kO2 := HO.out.below hb2 HO.out.lt
      have p0 : World.cell? _ ⟨w.heap.size, 0, none⟩ = some _ := kO2.cell 0
      have p2 : World.cell? _ ⟨w.heap.size, 2, none⟩ = some _ := kO2.cell 2
      have p3 : World.cell? _ ⟨w.heap.size, 3, none⟩ = some _ := kO2.cell 3
      have HB2 := Lib.hid (HB1.out.trans (hb2.mono HB1.out.size))
      have kR2 := HR.out.below hb2 HR.out.lt
      have fR2 := free3 kR2
      have cR2 := cells3 kR2
      have HR2 := Lib.hid kR2
      clear hb2 kO2 kR2 Q
      have r7 := res3 (.int .i64 2) (.int .i64 2) (.slice none 0 0) HR2.out
      go_wp2_with fail
      refine bodyPost_ret (v := .agg #[.int .i64 2, .int .i64 2, .slice none 0 0]) (by simp [results, Try.results21, go_sem, r7.1, r7.2.1, r7.2.2]) rfl ?_
      rw [HF.out]
      exact ⟨below_set3' HB2.out (Nat.le_succ _), none, 0, rfl, Nat.le_refl _, Nat.zero_le _, Bytes.nil _ _⟩
    · obtain rfl : a = au := Classical.not_not.1 hA
      clear hA
      by_cases hi : id = 0
      · subst hi
        have HF := Lib.hid (show checkF 4 a hold 0 a mine = (2, 3, []) by unfold checkF; rw [if_neg (by simp), if_neg (by simp), if_pos (.inl rfl)])
        go_enter Try.func21, Try.ntmps21
        go_wp2_with fail
        refine Q.out.mono ?_
        rintro e w2 ⟨rfl, hb2⟩
        have kO2 := HO.out.below hb2 HO.out.lt
        have p0 : World.cell? _ ⟨w.heap.size, 0, none⟩ = some _ := kO2.cell 0
        have p2 : World.cell? _ ⟨w.heap.size, 2, none⟩ = some _ := kO2.cell 2
        have p3 : World.cell? _ ⟨w.heap.size, 3, none⟩ = some _ := kO2.cell 3
        have HB2 := Lib.hid (HB1.out.trans (hb2.mono HB1.out.size))
        have kR2 := HR.out.below hb2 HR.out.lt
        have fR2 := free3 kR2
        have cR2 := cells3 kR2
        have HR2 := Lib.hid kR2
        clear hb2 kO2 kR2 Q
        have r7 := res3 (.int .i64 2) (.int .i64 3) (.slice none 0 0) HR2.out
        go_wp2_with fail
        refine bodyPost_ret (v := .agg #[.int .i64 2, .int .i64 3, .slice none 0 0]) (by simp [results, Try.results21, go_sem, r7.1, r7.2.1, r7.2.2]) rfl ?_
        rw [HF.out]
        exact ⟨below_set3' HB2.out (Nat.le_succ _), none, 0, rfl, Nat.le_refl _, Nat.zero_le _, Bytes.nil _ _⟩
      · by_cases hm : id = mine
        · subst hm
          have HF := Lib.hid (show checkF 4 a hold id a id = (2, 3, []) by unfold checkF; rw [if_neg (by simp), if_neg (by simp), if_pos (.inr rfl)])
          have hib : (id == 0) = false := by simpa using hi
          go_enter Try.func21, Try.ntmps21
          go_wp2_with fail
          refine Q.out.mono ?_
          rintro e w2 ⟨rfl, hb2⟩
          have kO2 := HO.out.below hb2 HO.out.lt
          have p0 : World.cell? _ ⟨w.heap.size, 0, none⟩ = some _ := kO2.cell 0
          have p2 : World.cell? _ ⟨w.heap.size, 2, none⟩ = some _ := kO2.cell 2
          have p3 : World.cell? _ ⟨w.heap.size, 3, none⟩ = some _ := kO2.cell 3
          have HB2 := Lib.hid (HB1.out.trans (hb2.mono HB1.out.size))
          have kR2 := HR.out.below hb2 HR.out.lt
          have fR2 := free3 kR2
          have cR2 := cells3 kR2
          have HR2 := Lib.hid kR2
          clear hb2 kO2 kR2 Q
          have r7 := res3 (.int .i64 2) (.int .i64 3) (.slice none 0 0) HR2.out
          go_wp2_with fail
          refine bodyPost_ret (v := .agg #[.int .i64 2, .int .i64 3, .slice none 0 0]) (by simp [results, Try.results21, go_sem, r7.1, r7.2.1, r7.2.2]) rfl ?_
          rw [HF.out]
          exact ⟨below_set3' HB2.out (Nat.le_succ _), none, 0, rfl, Nat.le_refl _, Nat.zero_le _, Bytes.nil _ _⟩
        · by_cases h1 : hold = 1
          · subst h1
            have HF := Lib.hid (show checkF 4 a 1 id a mine = (2, 6, []) by unfold checkF; rw [if_neg (by simp), if_neg (by simp), if_neg (fun e => e.elim hi hm), if_pos (.inl rfl)])
            have hib : (id == 0) = false := by simpa using hi
            have hmb : (id == mine) = false := by simpa using hm
            clear hi hm
            go_enter Try.func21, Try.ntmps21
            go_wp2_with fail
            refine Q.out.mono ?_
            rintro e w2 ⟨rfl, hb2⟩
            have kO2 := HO.out.below hb2 HO.out.lt
            have p0 : World.cell? _ ⟨w.heap.size, 0, none⟩ = some _ := kO2.cell 0
            have p2 : World.cell? _ ⟨w.heap.size, 2, none⟩ = some _ := kO2.cell 2
            have p3 : World.cell? _ ⟨w.heap.size, 3, none⟩ = some _ := kO2.cell 3
            have HB2 := Lib.hid (HB1.out.trans (hb2.mono HB1.out.size))
            have kR2 := HR.out.below hb2 HR.out.lt
            have fR2 := free3 kR2
            have cR2 := cells3 kR2
            have HR2 := Lib.hid kR2
            clear hb2 kO2 kR2 Q
            have r7 := res3 (.int .i64 2) (.int .i64 6) (.slice none 0 0) HR2.out
            go_wp2_with fail
            refine bodyPost_ret (v := .agg #[.int .i64 2, .int .i64 6, .slice none 0 0]) (by simp [results, Try.results21, go_sem, r7.1, r7.2.1, r7.2.2]) rfl ?_
            rw [HF.out]
            exact ⟨below_set3' HB2.out (Nat.le_succ _), none, 0, rfl, Nat.le_refl _, Nat.zero_le _, Bytes.nil _ _⟩
          · by_cases h2 : hold = 2
            · subst h2
              have HF := Lib.hid (show checkF 4 a 2 id a mine = (2, 6, []) by unfold checkF; rw [if_neg (by simp), if_neg (by simp), if_neg (fun e => e.elim hi hm), if_pos (.inr rfl)])
              have hib : (id == 0) = false := by simpa using hi
              have hmb : (id == mine) = false := by simpa using hm
              clear hi hm
              go_enter Try.func21, Try.ntmps21
              go_wp2_with fail
              refine Q.out.mono ?_
              rintro e w2 ⟨rfl, hb2⟩
              have kO2 := HO.out.below hb2 HO.out.lt
              have p0 : World.cell? _ ⟨w.heap.size, 0, none⟩ = some _ := kO2.cell 0
              have p2 : World.cell? _ ⟨w.heap.size, 2, none⟩ = some _ := kO2.cell 2
              have p3 : World.cell? _ ⟨w.heap.size, 3, none⟩ = some _ := kO2.cell 3
              have HB2 := Lib.hid (HB1.out.trans (hb2.mono HB1.out.size))
              have kR2 := HR.out.below hb2 HR.out.lt
              have fR2 := free3 kR2
              have cR2 := cells3 kR2
              have HR2 := Lib.hid kR2
              clear hb2 kO2 kR2 Q
              have r7 := res3 (.int .i64 2) (.int .i64 6) (.slice none 0 0) HR2.out
              go_wp2_with fail
              refine bodyPost_ret (v := .agg #[.int .i64 2, .int .i64 6, .slice none 0 0]) (by simp [results, Try.results21, go_sem, r7.1, r7.2.1, r7.2.2]) rfl ?_
              rw [HF.out]
              exact ⟨below_set3' HB2.out (Nat.le_succ _), none, 0, rfl, Nat.le_refl _, Nat.zero_le _, Bytes.nil _ _⟩
            · have HF := Lib.hid (show checkF 4 a hold id a mine = (0, 0, []) by unfold checkF; rw [if_neg (by simp), if_neg (by simp), if_neg (fun e => e.elim hi hm), if_neg (fun e => e.elim h1 h2)])
              have hib : (id == 0) = false := by simpa using hi
              have hmb : (id == mine) = false := by simpa using hm
              have h1b : (hold == 1) = false := by simpa using h1
              have h2b : (hold == 2) = false := by simpa using h2
              clear hi hm h1 h2
              go_enter Try.func21, Try.ntmps21
              go_wp2_with fail
              refine Q.out.mono ?_
              rintro e w2 ⟨rfl, hb2⟩
              have kO2 := HO.out.below hb2 HO.out.lt
              have p0 : World.cell? _ ⟨w.heap.size, 0, none⟩ = some _ := kO2.cell 0
              have p2 : World.cell? _ ⟨w.heap.size, 2, none⟩ = some _ := kO2.cell 2
              have p3 : World.cell? _ ⟨w.heap.size, 3, none⟩ = some _ := kO2.cell 3
              have HB2 := Lib.hid (HB1.out.trans (hb2.mono HB1.out.size))
              have kR2 := HR.out.below hb2 HR.out.lt
              have fR2 := free3 kR2
              have cR2 := cells3 kR2
              have HR2 := Lib.hid kR2
              clear hb2 kO2 kR2 Q
              have r7 := res3 (.int .i64 0) (.int .i64 0) (.slice none 0 0) HR2.out
              go_wp2_with fail
              refine bodyPost_ret (v := .agg #[.int .i64 0, .int .i64 0, .slice none 0 0]) (by simp [results, Try.results21, go_sem, r7.1, r7.2.1, r7.2.2]) rfl ?_
              rw [HF.out]
              exact ⟨below_set3' HB2.out (Nat.le_succ _), none, 0, rfl, Nat.le_refl _, Nat.zero_le _, Bytes.nil _ _⟩
  · have HF := Lib.hid (show checkF ver a hold id au mine = (2, 1, [0, 4]) by unfold checkF; rw [if_pos h4])
    have h4b : (ver != 4) = true := by simpa using h4
    clear h4
    have ho := own_two ((w.alloc (.cells #[.int .i64 ver, .int .i64 sys, .int .i64 hold, .int .u32 id, .slice A L.length c] 25)).alloc (.cells #[.int .i64 0, .int .i64 0, .slice none 0 0] 36)) 5
    have hbx := (Below.refl ((w.alloc (.cells #[.int .i64 ver, .int .i64 sys, .int .i64 hold, .int .u32 id, .slice A L.length c] 25)).alloc (.cells #[.int .i64 0, .int .i64 0, .slice none 0 0] 36)).heap.size ((w.alloc (.cells #[.int .i64 ver, .int .i64 sys, .int .i64 hold, .int .u32 id, .slice A L.length c] 25)).alloc (.cells #[.int .i64 0, .int .i64 0, .slice none 0 0] 36))).alloc (Nat.le_refl _) (.cells #[.int .u8 0, .int .u8 4] 5)
    have kx := HR.out.below hbx HR.out.lt
    have HX := Lib.hid kx
    have HBX := Lib.hid (HB1.out.trans (hbx.mono HB1.out.size))
    have HOX := Lib.hid ho
    clear hbx kx ho
    go_enter Try.func21, Try.ntmps21
    have fR3 := free3 HX.out
    have cR3 := cells3 HX.out
    have r7 := res3 (.int .i64 2) (.int .i64 1) (.slice (some ⟨w.heap.size + 2, 0, none⟩) 2 2) HX.out
    go_wp2_with fail
    refine bodyPost_ret (v := .agg #[.int .i64 2, .int .i64 1, .slice (some ⟨w.heap.size + 2, 0, none⟩) 2 2]) (by simp [results, Try.results21, go_sem, r7.1, r7.2.1, r7.2.2]) rfl ?_
    rw [HF.out]
    have hz' : ((w.alloc (.cells #[.int .i64 ver, .int .i64 sys, .int .i64 hold, .int .u32 id, .slice A L.length c] 25)).alloc (.cells #[.int .i64 2, .int .i64 1, .slice (some ⟨w.heap.size + 1 + 1, 0, none⟩) 2 2] 36)).heap.size = w.heap.size + 2 := by simp
    have h := (own_two ((w.alloc (.cells #[.int .i64 ver, .int .i64 sys, .int .i64 hold, .int .u32 id, .slice A L.length c] 25)).alloc (.cells #[.int .i64 2, .int .i64 1, .slice (some ⟨w.heap.size + 1 + 1, 0, none⟩) 2 2] 36)) 5).bytes
    rw [hz'] at h
    exact ⟨(((Below.refl _ _).alloc (Nat.le_refl _) _).alloc (by simp) _).alloc (by simp; omega) _, some ⟨w.heap.size + 2, 0, none⟩, 2, rfl, Nat.le_refl _, by show 2 ≤ maxLen; unfold maxLen; omega, h⟩
end Go.Proofs.Ytpdnpphkkobhgaa

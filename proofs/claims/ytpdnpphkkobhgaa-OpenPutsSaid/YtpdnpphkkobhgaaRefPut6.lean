/-
  An OPEN's body, as the document puts it.
-/
import Derived.Test.YtpdnpphkkobhgaaPut6
import Derived.Test.YtpdnpphkkobhgaaRefPutA
import Derived.Test.YtpdnpphkkobhgaaAppB
namespace Go.Proofs.Ytpdnpphkkobhgaa
set_option linter.unusedVariables false
set_option linter.unusedSimpArgs false
open Go.RowKit

theorem byteI_in {k : Int} (h0 : 0 ≤ k) (h1 : k < 256) : byteI k = UInt8.ofNat k.toNat := by
  unfold byteI
  rw [show IntKind.u8.wrap k = k by simp [IntKind.wrap, IntKind.bits, IntKind.signed]; omega]
theorem inUp_no {g k : Int} (h : k < 0 ∨ g < k) : inUp g k = false := by
  unfold inUp
  exact decide_eq_false (by omega)
theorem inUp_yes {g k : Int} (h0 : 0 ≤ k) (h1 : k ≤ g) : inUp g k = true := by
  unfold inUp
  exact decide_eq_true ⟨h0, h1⟩
theorem put_none {ver sys hold id : Int} {L : List (Int × List UInt8)} (h : putCapsF [] L = none) : putF6 ver sys hold id L = none := by
  unfold putF6
  rw [h]
theorem put_bad {ver sys hold id : Int} {L : List (Int × List UInt8)} (h : ver < 0 ∨ 255 < ver ∨ sys < 0 ∨ 65535 < sys ∨ hold < 0 ∨ 65535 < hold) : putF6 ver sys hold id L = none := by
  unfold putF6
  split
  · rfl
  · refine if_neg fun h9 => ?_
    simp only [allUp, inUp, List.all_cons, List.all_nil, Bool.and_true, Bool.and_eq_true, decide_eq_true_eq] at h9
    omega
theorem put_good {ver sys hold id : Int} {L : List (Int × List UInt8)} {cs : List UInt8} (hc : putCapsF [] L = some cs) (h1 : 0 ≤ ver) (h2 : ver ≤ 255) (h3 : 0 ≤ sys) (h4 : sys ≤ 65535) (h5 : 0 ≤ hold) (h6 : hold ≤ 65535) : putF6 ver sys hold id L = some (bodyF ver sys hold id (parF cs)) := by
  unfold putF6
  rw [hc]
  refine if_pos ?_
  simp only [allUp, inUp, List.all_cons, List.all_nil, Bool.and_true, Bool.and_eq_true, decide_eq_true_eq]
  omega
theorem u8ne : (5 : TypeId) ≠ 54 := by decide

set_option maxRecDepth 100000 in
set_option maxHeartbeats 6400000 in
theorem RefPut6_any (ver sys hold id : Int) (A : Option Addr) (c : Nat) (L : List Cp) (w : World) (h : CpIn w w.heap.size A L) (hl : L.length ≤ 1152921504606846976) (hr : ∀ s ∈ L, s.data.length ≤ s.cap ∧ s.cap ≤ maxLen) (hd : ∀ s ∈ L, s.data.length ≤ 1000000)
    (hs : -9223372036854775808 ≤ sys ∧ sys ≤ 9223372036854775807) (hh : -9223372036854775808 ≤ hold ∧ hold ≤ 9223372036854775807) (hi : 0 ≤ id ∧ id < 4294967296) :
    Calls Try.prog 10 #[.agg #[.int .i64 ver, .int .i64 sys, .int .i64 hold, .int .u32 id, .slice A L.length c]] w (RetPut6 w (putF6 ver sys hold id (L.map Cp.abs))) := by
  have hb0 := (Below.refl w.heap.size w).alloc (Nat.le_refl _) (.cells #[.int .i64 ver, .int .i64 sys, .int .i64 hold, .int .u32 id, .slice A L.length c] 25)
  have kO := Blk.new w 25 [.int .i64 ver, .int .i64 sys, .int .i64 hold, .int .u32 id, .slice A L.length c]
  have hcp := (h.below hb0 (Nat.le_refl _)).lift hb0.size
  obtain ⟨W1, hW1⟩ : ∃ W1, W1 = w.alloc (.cells #[.int .i64 ver, .int .i64 sys, .int .i64 hold, .int .u32 id, .slice A L.length c] 25) := ⟨_, rfl⟩
  rw [← hW1] at hb0 kO hcp
  have HB0 := Lib.hid hb0; have HO := Lib.hid kO; have HS := Lib.hid hcp; have HR := Lib.hid hr; have HD := Lib.hid hd; have HI := Lib.hid (And.intro hs (And.intro hh hi))
  have HW := Lib.hid hW1
  clear hb0 kO hcp h hr hd hW1 hs hh hi
  go_enter Try.func10, Try.ntmps10
  go_wp2_with fail
  rw [← HW.out]
  go_loopw [4, 5] (fun v i wr => CPutRel W1 L v i wr) (fun _ i _ => L.length - (intOf i).toNat)
  case atStart => exact ⟨Below.refl _ _, 0, [], Nat.zero_le _, rfl, rfl, by simp, Own.nil _ _ _⟩
  case round =>
    obtain ⟨hbr, j, out, hj, rfl, hF, ho253, hO⟩ := hrel
    obtain ⟨Av, cv, rfl, fv, gv⟩ := hO.form
    have HF := Lib.hid hF; have HOW := Lib.hid hO; have HV := Lib.hid (And.intro fv gv)
    have kO1 := HO.out.below hbr HO.out.lt
    have o4 : World.cell? _ ⟨w.heap.size, 4, none⟩ = some _ := kO1.cell 4
    clear hF hO fv gv
    by_cases hlt : j < L.length
    · obtain ⟨s, hs⟩ : ∃ s, L[j]? = some s := ⟨_, List.getElem?_eq_getElem hlt⟩
      have hy : At W1 W1.heap.size s.adr s.data := by obtain ⟨_, _, _, _, _, _, h9⟩ := HS.out.at hs; exact h9
      obtain ⟨b, off, rfl, hb, k1, k2, _⟩ := (HS.out.below hbr (Nat.le_refl _)).at hs
      have hdl := HD.out s (List.mem_of_getElem? hs)
      have hF2 := HF.out
      rw [drop_at hs] at hF2
      obtain ⟨sk, sa, sc, sd⟩ := s
      dsimp only at k1 k2 hy hdl
      dsimp only [Cp.abs] at hF2
      have HF2 := Lib.hid hF2
      have kc := Blk.new wr 54 [.int .i64 sk, .slice sa sd.length sc]
      have c0 : World.cell? _ ⟨wr.heap.size, 0, none⟩ = some _ := kc.cell 0
      have c1 : World.cell? _ ⟨wr.heap.size, 1, none⟩ = some _ := kc.cell 1
      have HY := Lib.hid hy
      clear hF2 hs kO1 hy
      by_cases n0 : sk < 0
      · have HN := Lib.hid (show putF6 ver sys hold id (L.map Cp.abs) = none from put_none (by rw [HF2.out]; unfold putCapsF; exact if_pos (.inl (inUp_no (.inl n0)))))
        have HBX := Lib.hid (HB0.out.trans ((hbr.alloc hbr.size (.cells #[.int .i64 sk, .slice sa sd.length sc] 54)).mono HB0.out.size))
        clear hbr
        go_wp2_with fail
        go_ret2
        exact ⟨HBX.out, .inl ⟨HN.out, rfl⟩⟩
      by_cases n1 : 255 < sk
      · have HN := Lib.hid (show putF6 ver sys hold id (L.map Cp.abs) = none from put_none (by rw [HF2.out]; unfold putCapsF; exact if_pos (.inl (inUp_no (.inr n1)))))
        have HBX := Lib.hid (HB0.out.trans ((hbr.alloc hbr.size (.cells #[.int .i64 sk, .slice sa sd.length sc] 54)).mono HB0.out.size))
        clear hbr
        go_wp2_with fail
        go_ret2
        exact ⟨HBX.out, .inl ⟨HN.out, rfl⟩⟩
      by_cases n2 : 253 < sd.length
      · have HN := Lib.hid (show putF6 ver sys hold id (L.map Cp.abs) = none from put_none (by rw [HF2.out]; unfold putCapsF; exact if_pos (.inr (by simp [partL]; omega))))
        have HBX := Lib.hid (HB0.out.trans ((hbr.alloc hbr.size (.cells #[.int .i64 sk, .slice sa sd.length sc] 54)).mono HB0.out.size))
        have n2I : (253 : Int) < (sd.length : Int) := by omega
        clear hbr
        go_wp2_with fail
        go_ret2
        exact ⟨HBX.out, .inl ⟨HN.out, rfl⟩⟩
      have n2I : ¬ (253 : Int) < (sd.length : Int) := by omega
      have hbc := hbr.alloc hbr.size (.cells #[.int .i64 sk, .slice sa sd.length sc] 54)
      have HBC := Lib.hid hbc; have HKC := Lib.hid kc
      have HOC := Lib.hid (HOW.out.alloc (.cells #[.int .i64 sk, .slice sa sd.length sc] 54))
      clear hbr kc hbc
      go_wp2_with (at_builtin; refine wpList_append_byte_at isBytes rfl (.tmp 34) (.tmp 38) rfl W1 _ out rfl (wr.alloc (.cells #[.int .i64 sk, .slice sa sd.length sc] 54)) _ rfl HOC.out _ rfl (by simp) (by omega) (by omega) (by omega) HBC.out ?_)
      intro v3 w3 ho3 hg3 hb3
      have HKC3 := Lib.hid (HKC.out.row hg3 (HOC.out.ne_blk HKC.out u8ne))
      obtain ⟨l3, hl3⟩ : ∃ l3, l3 = out ++ [UInt8.ofNat sk.toNat] := ⟨_, rfl⟩
      rw [← hl3] at ho3
      have hl3n : l3.length ≤ 254 := by rw [hl3]; simp; omega
      have HL3 := Lib.hid hl3
      have d0 : w3.cell? ⟨wr.heap.size, 0, none⟩ = some (.int .i64 sk) := HKC3.out.cell 0
      have d1 : w3.cell? ⟨wr.heap.size, 1, none⟩ = some (.slice sa sd.length sc) := HKC3.out.cell 1
      have HO3 := Lib.hid ho3; have HB3 := Lib.hid hb3
      clear ho3 hb3 hg3 hl3 c0 c1
      go_wp2_with (at_builtin; refine wpList_append_byte isBytes rfl (.tmp 40) (.tmp 45) rfl W1 _ l3 rfl w3 _ rfl HO3.out rfl (by omega) (by omega) (by omega) HB3.out ?_)
      intro v4 w4 ho4 hg4 hb4
      have HKC4 := Lib.hid (HKC3.out.row hg4 (HO3.out.ne_blk HKC3.out u8ne))
      obtain ⟨l4, hl4⟩ : ∃ l4, l4 = l3 ++ [UInt8.ofNat sd.length] := ⟨_, rfl⟩
      rw [← hl4] at ho4
      have hl4n : l4.length ≤ 255 := by rw [hl4]; simp; omega
      have HL4 := Lib.hid hl4
      have e1 : w4.cell? ⟨wr.heap.size, 1, none⟩ = some (.slice sa sd.length sc) := HKC4.out.cell 1
      have HO4 := Lib.hid ho4; have HB4 := Lib.hid hb4
      have HY4 := Lib.hid (At.bytes (HY.out.below hb4 (Nat.le_refl _)) hb4.size)
      clear ho4 hb4 hg4 hl4 d0 d1
      go_wp2_with (at_builtin; refine wpList_append_bytes isBytes rfl (.tmp 47) (.tmp 49) rfl W1 _ l4 rfl HO4.out sa sd sd.length sc rfl rfl HY4.out (by omega) HB4.out ?_)
      intro v5 w5 ho5 hg5 hb5
      obtain ⟨l5, hl5⟩ : ∃ l5, l5 = l4 ++ sd := ⟨_, rfl⟩
      rw [← hl5] at ho5
      have hl5n : l5.length = l4.length + sd.length := by rw [hl5, List.length_append]
      have HL5 := Lib.hid (show l5 = out ++ partL sk sd by
        rw [hl5, HL4.out, HL3.out]
        simp only [partL, List.append_assoc, List.cons_append, List.nil_append]
        rw [byteI_in (by omega) (by omega), byteI_in (by omega) (by omega)]
        simp)
      obtain ⟨A5, c5, rfl, f5, g5⟩ := ho5.form
      have HO5 := Lib.hid ho5; have HB5 := Lib.hid hb5
      clear ho5 hb5 hg5 hl5 e1
      by_cases n3 : 253 < l5.length
      · have n3I : (253 : Int) < (l5.length : Int) := by omega
        have HN := Lib.hid (show putF6 ver sys hold id (L.map Cp.abs) = none from put_none (by rw [HF2.out]; unfold putCapsF; exact if_pos (.inr (by rw [← HL5.out]; exact n3))))
        have HBX := Lib.hid (HB0.out.trans (HB5.out.mono HB0.out.size))
        clear hl5n
        go_wp2_with fail
        go_ret2
        exact ⟨HBX.out, .inl ⟨HN.out, rfl⟩⟩
      · have n3I : ¬ (253 : Int) < (l5.length : Int) := by omega
        have HN := Lib.hid (show putCapsF [] (L.map Cp.abs) = putCapsF l5 ((L.map Cp.abs).drop (j + 1)) by
          rw [HF2.out]
          show (if _ then _ else _) = _
          have hnot : ¬ (inUp 255 sk = false ∨ 253 < (out ++ partL sk sd).length) := fun e => e.elim (fun e => by rw [inUp_yes (by omega) (by omega)] at e; cases e) (fun e => n3 (by rw [HL5.out]; exact e))
          rw [if_neg hnot, ← HL5.out])
        have HN3 := Lib.hid n3
        clear hl5n n3
        go_wp2_with fail
        go_roundw
        case rel => exact ⟨HB5.out, j + 1, l5, by omega, by go_num, HN.out, by have := HN3.out; omega, HO5.out⟩
        case measure => simp [intOf]; omega
    · obtain rfl : j = L.length := by omega
      have hF3 := HF.out
      rw [List.drop_of_length_le (by simp)] at hF3
      have HF3 := Lib.hid (show putCapsF [] (L.map Cp.abs) = some out from hF3)
      have HBR := Lib.hid hbr
      have o0 : World.cell? _ ⟨w.heap.size, 0, none⟩ = some _ := kO1.cell 0
      have o1 : World.cell? _ ⟨w.heap.size, 1, none⟩ = some _ := kO1.cell 1
      have o2 : World.cell? _ ⟨w.heap.size, 2, none⟩ = some _ := kO1.cell 2
      have o3 : World.cell? _ ⟨w.heap.size, 3, none⟩ = some _ := kO1.cell 3
      have HBX := Lib.hid (HB0.out.trans (hbr.mono HB0.out.size))
      have HKO := Lib.hid kO1
      clear hF3 hbr kO1
      by_cases a0 : ver < 0
      · have HN := Lib.hid (put_bad (ver := ver) (sys := sys) (hold := hold) (id := id) (L := L.map Cp.abs) (.inl a0))
        go_wp2_with fail
        go_ret2
        exact ⟨HBX.out, .inl ⟨HN.out, rfl⟩⟩
      by_cases a1 : 255 < ver
      · have HN := Lib.hid (put_bad (ver := ver) (sys := sys) (hold := hold) (id := id) (L := L.map Cp.abs) (.inr (.inl a1)))
        go_wp2_with fail
        go_ret2
        exact ⟨HBX.out, .inl ⟨HN.out, rfl⟩⟩
      by_cases a2 : sys < 0
      · have HN := Lib.hid (put_bad (ver := ver) (sys := sys) (hold := hold) (id := id) (L := L.map Cp.abs) (.inr (.inr (.inl a2))))
        go_wp2_with fail
        go_ret2
        exact ⟨HBX.out, .inl ⟨HN.out, rfl⟩⟩
      by_cases a3 : 65535 < sys
      · have HN := Lib.hid (put_bad (ver := ver) (sys := sys) (hold := hold) (id := id) (L := L.map Cp.abs) (.inr (.inr (.inr (.inl a3)))))
        go_wp2_with fail
        go_ret2
        exact ⟨HBX.out, .inl ⟨HN.out, rfl⟩⟩
      by_cases a4 : hold < 0
      · have HN := Lib.hid (put_bad (ver := ver) (sys := sys) (hold := hold) (id := id) (L := L.map Cp.abs) (.inr (.inr (.inr (.inr (.inl a4))))))
        go_wp2_with fail
        go_ret2
        exact ⟨HBX.out, .inl ⟨HN.out, rfl⟩⟩
      by_cases a5 : 65535 < hold
      · have HN := Lib.hid (put_bad (ver := ver) (sys := sys) (hold := hold) (id := id) (L := L.map Cp.abs) (.inr (.inr (.inr (.inr (.inr a5))))))
        go_wp2_with fail
        go_ret2
        exact ⟨HBX.out, .inl ⟨HN.out, rfl⟩⟩
      have HG := Lib.hid (put_good (id := id) HF3.out (by omega) (by omega) (by omega) (by omega) (by omega) (by omega) : putF6 ver sys hold id (L.map Cp.abs) = _)
      have hI := HI.out
      have q2 := refPut16_any (some ⟨wr.heap.size, 0, none⟩) 1 1 [UInt8.ofNat ver.toNat] rfl sys _ (by simp) (bytes_one wr 5 (N := ver) (by omega) (by omega)) (by omega) (by omega)
      have hba := (Below.refl wr.heap.size wr).alloc (Nat.le_refl _) (.cells #[.int .u8 ver] 5)
      have HBA := Lib.hid hba
      have o1a : World.cell? _ ⟨w.heap.size, 1, none⟩ = some _ := (HKO.out.below hba HKO.out.lt).cell 1
      have Q2 := Lib.hid q2
      have n9 : 0 ≤ ver := by omega
      have n8 : ver < 256 := by omega
      clear q2 hba hI
      go_wp2_with fail
      refine Q2.out.mono ?_
      rintro e w2 ⟨A2, c2, rfl, f2, g2, ho2, hb2⟩
      have HX2 := Lib.hid (HBA.out.trans (hb2.mono HBA.out.size))
      have hk2 := HKO.out.below HX2.out HKO.out.lt
      have p2 : World.cell? _ ⟨w.heap.size, 2, none⟩ = some _ := hk2.cell 2
      have HK2 := Lib.hid hk2
      obtain ⟨l2, hl2⟩ : ∃ l2, l2 = [UInt8.ofNat ver.toNat] ++ be16 sys := ⟨_, rfl⟩
      rw [← hl2] at ho2 ⊢
      have HN2 : Hid (l2.length = 3) := Lib.hid (by rw [hl2]; rfl)
      have HL2 := Lib.hid hl2
      have Q3 := Lib.hid (refPut16_any A2 l2.length c2 l2 rfl hold w2 (by have := HN2.out; omega) ho2.bytes (by have := HI.out; omega) (by have := HI.out; omega))
      clear ho2 hb2 hk2 hl2 Q2 o0 o1 o1a o2 o3 f2 g2
      go_wp2_with fail
      refine Q3.out.mono ?_
      rintro e w3 ⟨A3, c3, rfl, f3, g3, ho3, hb3⟩
      have HX3 := Lib.hid (HX2.out.trans (hb3.mono HX2.out.size))
      have hk3 := HK2.out.below hb3 HK2.out.lt
      have p3 : World.cell? _ ⟨w.heap.size, 3, none⟩ = some _ := hk3.cell 3
      obtain ⟨l3, hl3⟩ : ∃ l3, l3 = l2 ++ be16 hold := ⟨_, rfl⟩
      rw [← hl3] at ho3 ⊢
      have HN3 : Hid (l3.length = 5) := Lib.hid (by rw [hl3, List.length_append, HN2.out]; rfl)
      have HL3 := Lib.hid hl3
      have Q4 := Lib.hid (refPut32_any A3 l3.length c3 l3 rfl id w3 (by have := HN3.out; omega) ho3.bytes (by have := HI.out; omega) (by have := HI.out; omega))
      clear ho3 hb3 hk3 hl3 Q3 p2 f3 g3
      go_wp2_with fail
      refine Q4.out.mono ?_
      rintro e w4 ⟨A4, c4, rfl, f4, g4, ho4, hb4⟩
      have HX4 := Lib.hid (HX3.out.trans (hb4.mono HX3.out.size))
      obtain ⟨l4, hl4⟩ : ∃ l4, l4 = l3 ++ be32 id := ⟨_, rfl⟩
      rw [← hl4] at ho4 ⊢
      have HN4 : Hid (l4.length = 9) := Lib.hid (by rw [hl4, List.length_append, HN3.out]; rfl)
      have HL4 := Lib.hid (show l4 = [byteI ver] ++ (be16 sys ++ (be16 hold ++ be32 id)) by rw [hl4, HL3.out, HL2.out, byteI_in n9 n8]; simp only [List.append_assoc])
      have HO4 := Lib.hid ho4; have HB4 := Lib.hid hb4
      have HB3 := Lib.hid (HB0.out.trans ((HBR.out.trans (HX3.out.mono HBR.out.size)).mono HB0.out.size))
      have HC3 := Lib.hid (HOW.out.below HX3.out).bytes
      clear ho4 hb4 hl4 Q4 p3 f4 g4
      by_cases he : out = []
      · subst he
        have hz0 : ¬ (0 : Int) < 0 := by omega
        go_wp2_with (at_builtin; refine wpList_append_byte isBytes rfl (.tmp 121) (.tmp 122) rfl w3 _ l4 rfl w4 _ rfl HO4.out rfl (by omega) (by omega) (by have := HN4.out; omega) HB4.out ?_)
        intro v5 w5 ho5 hg5 hb5
        obtain ⟨lf, hlf⟩ : ∃ lf, lf = l4 ++ [0] := ⟨_, rfl⟩
        rw [← hlf] at ho5
        have HFIN := Lib.hid (show lf = bodyF ver sys hold id (parF []) by
          rw [hlf, HL4.out]; simp only [bodyF, parF, if_pos, List.append_assoc, List.append_nil]; rfl)
        obtain ⟨A9, c9, rfl, f9, g9⟩ := ho5.form
        have HO9 := Lib.hid (ho5.lower HB3.out.size); have HB9 := Lib.hid (HB3.out.trans (hb5.mono HB3.out.size)); have HV9 := Lib.hid (And.intro f9 g9)
        clear hlf ho5 hb5 f9 g9
        go_wp2_with fail
        go_ret2
        exact ⟨HB9.out, .inr ⟨A9, c9, lf, by rw [HG.out, HFIN.out], rfl, HV9.out.1, HV9.out.2, HO9.out⟩⟩
      · have hp : 0 < out.length := List.length_pos_iff.2 he
        have hpI : (0 : Int) < (out.length : Int) := by omega
        have HP := Lib.hid (show parF out = partL 2 out from if_neg he)
        clear he
        go_wp2_with (at_builtin; refine wpList_append_byte isBytes rfl (.tmp 101) (.tmp 106) rfl w3 _ l4 rfl w4 _ rfl HO4.out rfl (by omega) (by omega) (by have := HN4.out; omega) HB4.out ?_)
        intro v5 w5 ho5 hg5 hb5
        obtain ⟨l5, hl5⟩ : ∃ l5, l5 = l4 ++ [UInt8.ofNat ((out.length : Int) + 2).toNat] := ⟨_, rfl⟩
        rw [← hl5] at ho5
        have HN5 := Lib.hid (show l5.length = 10 by rw [hl5, List.length_append, HN4.out]; rfl)
        have HL5 := Lib.hid hl5; have HO5 := Lib.hid ho5; have HB5 := Lib.hid hb5
        clear hl5 ho5 hb5 hg5
        go_wp2_with (at_builtin; refine wpList_append_byte isBytes rfl (.tmp 108) (.tmp 109) rfl w3 _ l5 rfl w5 _ rfl HO5.out rfl (by omega) (by omega) (by have := HN5.out; omega) HB5.out ?_)
        intro v6 w6 ho6 hg6 hb6
        obtain ⟨l6, hl6⟩ : ∃ l6, l6 = l5 ++ [2] := ⟨_, rfl⟩
        have ho6' : Own w6 w3.heap.size 5 v6 l6 := by rw [hl6]; exact ho6
        have HN6 := Lib.hid (show l6.length = 11 by rw [hl6, List.length_append, HN5.out]; rfl)
        have HL6 := Lib.hid hl6; have HO6 := Lib.hid ho6'; have HB6 := Lib.hid hb6
        clear hl6 ho6 ho6' hb6 hg6
        go_wp2_with (at_builtin; refine wpList_append_byte isBytes rfl (.tmp 111) (.tmp 115) rfl w3 _ l6 rfl w6 _ rfl HO6.out rfl (by omega) (by omega) (by have := HN6.out; omega) HB6.out ?_)
        intro v7 w7 ho7 hg7 hb7
        obtain ⟨l7, hl7⟩ : ∃ l7, l7 = l6 ++ [UInt8.ofNat out.length] := ⟨_, rfl⟩
        have ho7' : Own w7 w3.heap.size 5 v7 l7 := by rw [hl7]; simpa using ho7
        have HN7 := Lib.hid (show l7.length = 12 by rw [hl7, List.length_append, HN6.out]; rfl)
        have HL7 := Lib.hid hl7; have HO7 := Lib.hid ho7'; have HB7 := Lib.hid hb7
        have HC7 := Lib.hid (At.bytes (At.below HC3.out hb7 (Nat.le_refl _)) hb7.size)
        clear hl7 ho7 ho7' hb7 hg7
        go_wp2_with (at_builtin; refine wpList_append_bytes isBytes rfl (.tmp 117) (.tmp 118) rfl w3 _ l7 rfl HO7.out Av out out.length cv rfl rfl HC7.out (by have := HN7.out; omega) HB7.out ?_)
        intro v8 w8 ho8 hg8 hb8
        obtain ⟨lf, hlf⟩ : ∃ lf, lf = l7 ++ out := ⟨_, rfl⟩
        rw [← hlf] at ho8
        have HFIN := Lib.hid (show lf = bodyF ver sys hold id (parF out) by
          rw [hlf, HL7.out, HL6.out, HL5.out, HL4.out, HP.out]
          have e1 : ((partL 2 out).length : Int) = (out.length : Int) + 2 := by simp [partL]; omega
          unfold bodyF
          rw [e1, byteI_in (k := (out.length : Int) + 2) (by omega) (by omega)]
          simp only [partL, List.append_assoc, List.append_nil, List.cons_append, List.nil_append]
          rw [byteI_in (k := (out.length : Int)) (by omega) (by omega)]
          simp only [Int.toNat_natCast]
          rfl)
        obtain ⟨A9, c9, rfl, f9, g9⟩ := ho8.form
        have HO9 := Lib.hid (ho8.lower HB3.out.size); have HB9 := Lib.hid (HB3.out.trans (hb8.mono HB3.out.size)); have HV9 := Lib.hid (And.intro f9 g9)
        clear hlf ho8 hb8 f9 g9
        go_wp2_with fail
        go_ret2
        exact ⟨HB9.out, .inr ⟨A9, c9, lf, by rw [HG.out, HFIN.out], rfl, HV9.out.1, HV9.out.2, HO9.out⟩⟩
end Go.Proofs.Ytpdnpphkkobhgaa

/-
  The path of a text, by the document (written by gen03p.py).
-/
import Derived.Test.YtiegfellgnfiiaaDoorRefNorm3
import Derived.Test.YtiegfellgnfiiaaDoorRight3
import Derived.Test.YtiegfellgnfiiaaDoorRefInt
import Derived.Test.YtiegfellgnfiiaaDoorScanAt3
import Derived.Test.YtiegfellgnfiiaaDoorParse3
namespace Go.Proofs.YtiegfellgnfiiaaDoor
set_option linter.unusedVariables false
set_option linter.unusedSimpArgs false
open Go.RowKit

/-- What the loop over the parts holds. -/
def PartsRel (w : World) (l : List UInt8) (v i : Value) (wr : World) : Prop :=
  Below w.heap.size w wr ∧ ∃ (M : List Sg) (H p : Nat), p ≤ l.length ∧ i = .int .i64 (p : Int) ∧ OwnSegs wr w.heap.size H v M ∧ w.heap.size ≤ H ∧ H ≤ wr.heap.size ∧ M.length ≤ p ∧ totN M ≤ p ∧ Hid (p = 0 → M = []) ∧ Hid (scanFrom l p (M.map Sg.abs) = scanA l)
/-- What the loop over a part's numbers holds: W2 is the world ahead of its block h; R: what will be read. -/
def NumsRel (W2 : World) (h : Nat) (l : List UInt8) (K : Int) (set : Bool) (q : Nat) (R : Option (List Nat × List UInt8)) (i more : Value) (wr : World) : Prop :=
  Below h W2 wr ∧ ∃ (v : Value) (z : List Nat) (p : Nat) (mb : Bool), p ≤ l.length ∧ i = .int .i64 (p : Int) ∧ more = .bool mb ∧ Blk wr h 53 [.int .i64 K, v] ∧ Own32 wr (h + 1) v z ∧ Hid (∀ x ∈ z, x < 4294967296) ∧ q + z.length ≤ p ∧ Hid (mb = true → scanN set (l.drop p) z = R) ∧ Hid (mb = false → R = some (z, l.drop p))
theorem byte_at {l : List UInt8} {j : Nat} (h : j < l.length) : ∃ hb : j < (⟨l.toArray⟩ : ByteArray).size, ((((⟨l.toArray⟩ : ByteArray)[j]'hb).toNat : Nat) : Int) = (((l.getD j 0).toNat : Nat) : Int) := by
  have hb : j < (⟨l.toArray⟩ : ByteArray).size := by simpa [ByteArray.size] using h
  exact ⟨hb, by rw [ba_at l j hb]⟩
theorem byte_ne {x c : UInt8} (h : ¬ x = c) : ¬ ((x.toNat : Nat) : Int) = ((c.toNat : Nat) : Int) := fun e => h (UInt8.toNat_inj.1 (by omega))
theorem byte_beq {x c : UInt8} (h : ¬ x = c) : (((x.toNat : Nat) : Int) == ((c.toNat : Nat) : Int)) = false := beq_false_of_ne (byte_ne h)
theorem byte_bne {x c : UInt8} (h : ¬ x = c) : (((x.toNat : Nat) : Int) != ((c.toNat : Nat) : Int)) = true := by
  unfold bne
  rw [byte_beq h]
  rfl

set_option maxHeartbeats 25600000 in
set_option maxRecDepth 100000 in
theorem RefParse3_any (l : List UInt8) (w : World) (hl : l.length ≤ 1000) :
    Calls Tryd.prog 33 #[.string ⟨l.toArray⟩] w (ParsePost w (parseL l)) := by
  have HPS := Lib.hid (parse_scan l)
  go_enter Tryd.func33, Tryd.ntmps33
  go_wp2_with fail
  go_loopw [4, 5] (fun v i wr => PartsRel w l v i wr) (fun _ i _ => l.length - (intOf i).toNat)
  case atStart => exact ⟨Below.refl _ _, [], w.heap.size, 0, Nat.zero_le _, rfl, OwnSegs.nil _ _ _, Nat.le_refl _, Nat.le_refl _, by simp, by simp [totN], Lib.hid (fun _ => rfl), Lib.hid rfl⟩
  case round =>
    obtain ⟨hbr, M, H, p, hp, rfl, hown, hH, hH2, hMl, hMt, hm0, hsc⟩ := hrel
    obtain ⟨wo, rfl⟩ : ∃ x : World, x = wr := ⟨wr, rfl⟩
    by_cases hlt : p < l.length
    · obtain ⟨hpb, hpx⟩ := byte_at hlt
      have hpl : (p : Int) < (l.length : Int) := by omega
      have HBR := Lib.hid hbr; have HOW := Lib.hid hown; have HML := Lib.hid hMl; have HMT := Lib.hid hMt; have HPL := Lib.hid hlt
      have HBK := Lib.hid (Blk.new wo 53 [.int .i64 2, .slice none 0 0])
      have HBA := Lib.hid ((Below.refl wo.heap.size wo).alloc (Nat.le_refl _) (.cells #[.int .i64 2, .slice none 0 0] 53))
      by_cases hp0 : p = 0
      · have hM : M = [] := hm0.out hp0
        subst hM
        have HF := Lib.hid (show (scanS (l.drop p) = none → scanA l = none) ∧ ∀ s r, scanS (l.drop p) = some (s, r) → scanA l = scanR r ([] ++ [s]) from by rw [hp0]; exact scanA_first (by omega))
        have hpN : ¬ 0 < p := by omega
        have hpD : decide (0 < p) = false := decide_eq_false hpN
        have hpb0 : (p : Int) ≤ 1000 := by omega
        have HQP := Lib.hid (Nat.le_refl p)
        have HQL := Lib.hid (Nat.le_of_lt hlt)
        clear hbr hown hMl hMt hm0 hsc hp0
        by_cases hc : l.getD p 0 = 123
        · rw [hc] at hpx
          have HQC := Lib.hid (show p < l.length ∧ l.getD p 0 = 123 from ⟨hlt, hc⟩)
          have hce : ((((⟨l.toArray⟩ : ByteArray)[p]'hpb).toNat : Int) == 123) = true := by rw [hpx]; rfl
          clear hc hpx hlt
          obtain ⟨q2, hq2⟩ : ∃ q2 : Nat, q2 = p + 1 := ⟨_, rfl⟩
          have hq2I : (p : Int) + 1 = (q2 : Int) := by omega
          have HQ2 := Lib.hid hq2
          clear hq2
          have HB1 := Lib.hid (Blk.new wo 53 [.int .i64 1, .slice none 0 0])
          have HBB := Lib.hid ((Below.refl wo.heap.size wo).alloc (Nat.le_refl _) (.cells #[.int .i64 1, .slice none 0 0] 53))
          have HS0 := scanS_set HQC.out.1 HQC.out.2
          rw [← HQ2.out] at HS0
          have HSS := Lib.hid HS0
          have Hp2L := Lib.hid (show q2 ≤ l.length by have := HQC.out.1; have := HQ2.out; omega)
          clear HS0
          obtain ⟨R, hR⟩ : ∃ R, R = scanN true (l.drop q2) [] := ⟨_, rfl⟩
          have HRE := Lib.hid hR.symm
          rw [← hR] at HSS
          clear hR
          go_wp2_with fail
          have HQ2I := Lib.hid hq2I
          clear hq2I
          go_loopw [5, 7] (fun i more wr' => NumsRel wo wo.heap.size l 1 true q2 R i more wr') (fun i _ _ => l.length - (intOf i).toNat)
          case atStart => exact ⟨HBB.out, _, [], q2, true, Hp2L.out, by first | rfl | exact congrArg (Value.int .i64) HQ2I.out, rfl, HB1.out, Own32.nil _ _, Lib.hid (by simp), Nat.le_refl _, Lib.hid (fun _ => HRE.out), Lib.hid (fun e => by cases e)⟩
          case round =>
            obtain ⟨hbi, v, z, e, mb, hel, rfl, rfl, hblk, hown, hzf, hqz, hmt, hmf⟩ := hrel
            obtain ⟨A5, d5, rfl, e1, e2⟩ := hown.form
            have c0 : wr.cell? ⟨wo.heap.size, 0, none⟩ = some (.int .i64 1) := hblk.cell 0
            have c1 : wr.cell? ⟨wo.heap.size, 1, none⟩ = some (.slice A5 z.length d5) := hblk.cell 1
            have HBI := Lib.hid hbi; have HBL := Lib.hid hblk; have HO := Lib.hid hown; have HZF := Lib.hid hzf.out; have HQZ := Lib.hid hqz; have HEL := Lib.hid hel
            have heb : (e : Int) ≤ 1000 := by omega
            cases mb with
            | true =>
              have HMT := Lib.hid (hmt.out rfl)
              clear hbi hblk hown hzf hqz hmt hmf
              obtain ⟨g, hg⟩ : ∃ g, g = digEnd l e := ⟨_, rfl⟩
              have hgle := digEnd_le hel
              have HIN := Lib.hid (fun k (h1 : e ≤ k) (h2 : k < g) => digEnd_in h1 (by rw [← hg]; exact h2))
              have HOUT := digEnd_out hel
              rw [← hg] at hgle HOUT
              have HOUT := Lib.hid HOUT
              have HGLE := Lib.hid hgle
              have HGE := Lib.hid hg
              clear hg
              go_wp2_with fail
              go_loop [5] (fun i => ∃ k : Nat, e ≤ k ∧ k ≤ g ∧ i = .int .i64 (k : Int)) (fun i => l.length - (intOf i).toNat)
              case atStart => exact ⟨e, Nat.le_refl _, HGLE.out.1, rfl⟩
              case round =>
                obtain ⟨k, hk1, hk2, rfl⟩ := hrel
                by_cases hkg : k < g
                · have hkl : k < l.length := by omega
                  obtain ⟨hkb, hkx⟩ := byte_at hkl
                  have hdig := HIN.out k hk1 hkg
                  unfold isDig at hdig
                  obtain ⟨x, hx⟩ : ∃ x, x = (l.getD k 0).toNat := ⟨_, rfl⟩
                  rw [← hx] at hkx hdig
                  have h48 : (48 : Int) ≤ (x : Int) := by omega
                  have h57 : (x : Int) ≤ 57 := by omega
                  have hklI : (k : Int) < (l.length : Int) := by omega
                  have hkbI : (k : Int) ≤ 1000 := by omega
                  have HKG := Lib.hid hkg; have HK1 := Lib.hid hk1
                  clear hx hdig hkg hk1 hk2
                  go_wp2_with fail
                  go_round
                  case rel => exact ⟨k + 1, by have := HK1.out; omega, HKG.out, by go_num⟩
                  case measure =>
                    simp [intOf]
                    omega
                · obtain rfl : k = g := by omega
                  have hkbI : (k : Int) ≤ 1000 := by omega
                  have hke0 : (e : Int) ≤ (k : Int) := by omega
                  have hke1 : (k : Int) ≤ (l.length : Int) := by omega
                  have hext : (⟨l.toArray⟩ : ByteArray).extract e k = ⟨((l.drop e).takeWhile digB).toArray⟩ := by rw [ba_ext, HGE.out, word_cut]
                  have hwl : ((l.drop e).takeWhile digB).length ≤ maxLen := by
                    have := tw_le (l.drop e)
                    rw [List.length_drop] at this
                    unfold twN at this
                    unfold maxLen
                    omega
                  have QI := refInt_any ((l.drop e).takeWhile digB) wr hwl
                  have HWI := Lib.hid (fun (r : Option Nat) (h : intSpec ((l.drop e).takeWhile digB) = r) => h)
                  clear hwl
                  cases hi : intSpec ((l.drop e).takeWhile digB) with
                  | none =>
                    rw [hi] at QI
                    simp only [retInt, Option.getD_none, Option.isSome_none] at QI
                    have QI := Lib.hid QI
                    have HE := Lib.hid (show parseL l = none by
                      have h1 : R = none := by rw [← HMT.out]; exact nums_none hi
                      rw [HPS.out, HF.out.1 (HSS.out.1 h1)])
                    obtain ⟨W, hW⟩ : ∃ W, W = (l.drop e).takeWhile digB := ⟨_, rfl⟩
                    rw [← hW] at QI hext
                    clear hi hW c0 c1
                    by_cases hkl : k < l.length
                    · obtain ⟨hkb, hkx⟩ := byte_at hkl
                      have hklI : (k : Int) < (l.length : Int) := by omega
                      have hnd : ¬ (48 ≤ (l.getD k 0).toNat ∧ (l.getD k 0).toNat ≤ 57) := fun h => HOUT.out ⟨hkl, h⟩
                      obtain ⟨x, hx⟩ : ∃ x, x = (l.getD k 0).toNat := ⟨_, rfl⟩
                      rw [← hx] at hnd hkx
                      rcases (show ¬ (48 : Int) ≤ (x : Int) ∨ ((48 : Int) ≤ (x : Int) ∧ ¬ (x : Int) ≤ 57) by omega) with h48 | ⟨h48, h57⟩
                      · clear hnd hx HOUT
                        go_wp2_with fail
                        refine QI.out.mono ?_
                        rintro er w5 ⟨rfl, rfl⟩
                        go_wp2_with fail
                        go_ret2
                        rw [HE.out]
                        exact parsePost_none rfl (HBR.out.trans (HBI.out.mono HBR.out.size))
                      · clear hnd hx HOUT
                        go_wp2_with fail
                        refine QI.out.mono ?_
                        rintro er w5 ⟨rfl, rfl⟩
                        go_wp2_with fail
                        go_ret2
                        rw [HE.out]
                        exact parsePost_none rfl (HBR.out.trans (HBI.out.mono HBR.out.size))
                    · have hklI : ¬ (k : Int) < (l.length : Int) := by omega
                      clear HOUT
                      go_wp2_with fail
                      refine QI.out.mono ?_
                      rintro er w5 ⟨rfl, rfl⟩
                      go_wp2_with fail
                      go_ret2
                      rw [HE.out]
                      exact parsePost_none rfl (HBR.out.trans (HBI.out.mono HBR.out.size))
                  | some n =>
                    have hlt9 := word_len hi
                    have hn := (intSpec_some hi).2
                    rw [hi] at QI
                    simp only [retInt, Option.getD_some, Option.isSome_some] at QI
                    have QI := Lib.hid QI
                    have HGT := Lib.hid (show e < k by rw [HGE.out]; exact hlt9)
                    have HZF2 := Lib.hid (show ∀ x ∈ z ++ [n], x < 4294967296 from fun x hx => by
                      rcases List.mem_append.1 hx with h | h
                      · exact HZF.out x h
                      · simp at h; omega)
                    by_cases hkl : k < l.length
                    · obtain ⟨hkb, hkx⟩ := byte_at hkl
                      have hklI : (k : Int) < (l.length : Int) := by omega
                      have hnd : ¬ (48 ≤ (l.getD k 0).toNat ∧ (l.getD k 0).toNat ≤ 57) := fun h => HOUT.out ⟨hkl, h⟩
                      by_cases h44 : l.getD k 0 = 44
                      · have HMN := Lib.hid (show scanN true (l.drop (k + 1)) (z ++ [n]) = R by rw [← HMT.out, nums_more hi (by rw [← HGE.out]; exact hkl) (by rw [← HGE.out]; exact h44), ← HGE.out])
                        rw [h44] at hkx
                        have hcm : ((((⟨l.toArray⟩ : ByteArray)[k]'hkb).toNat : Int) == 44) = true := by rw [hkx]; rfl
                        have hg48 : ¬ (48 : Int) ≤ ((((⟨l.toArray⟩ : ByteArray)[k]'hkb).toNat : Nat) : Int) := by rw [hkx]; decide
                        have HKL := Lib.hid hkl
                        obtain ⟨W, hW⟩ : ∃ W, W = (l.drop e).takeWhile digB := ⟨_, rfl⟩
                        rw [← hW] at QI hext
                        clear hnd h44 hkx hi hW HOUT hlt9 hkl
                        go_wp2_with fail
                        refine QI.out.mono ?_
                        rintro er w5 ⟨rfl, rfl⟩
                        have hzl : z.length ≤ 1000 := by have h1 := HQZ.out; have h2 := HEL.out; omega
                        go_wp2_with (at_builtin; refine wpList_app_one' isU32 rfl (.tmp 68) (.tmp 71) rfl (wo.heap.size + 1) _ z.length (cells32 z) rfl wr [.int .u32 (n : Int)] rfl HO.out rfl rfl (by simp [Value.oneCell']) (by omega) HBL.out.lt ?_)
                        intro v6 w6 ho6 hg6
                        have hvb : some wo.heap.size ≠ (Value.slice A5 z.length d5).ownBlock := by
                          intro e9
                          have := (World.ownsRow.lt HO.out _ e9.symm).1
                          omega
                        have hk6 : Blk w6 wo.heap.size 53 [.int .i64 1, .slice A5 z.length d5] := (hg6.block _ HBL.out.lt hvb).trans HBL.out
                        have o6 : Own32 w6 (wo.heap.size + 1) v6 (z ++ [n]) := by
                          have e9 : (z ++ [n]).length = z.length + 1 := by simp
                          unfold Own32
                          rw [e9]
                          simpa [cells32] using ho6
                        obtain ⟨A6, d6, rfl, q1, q2'⟩ := o6.form
                        have el : (z ++ [n]).length = z.length + 1 := by simp
                        rw [el] at o6 q1
                        have c61 : w6.cell? ⟨wo.heap.size, 1, none⟩ = some (.slice A5 z.length d5) := hk6.cell 1
                        have f61 : w6.frozen? ⟨wo.heap.size, 1, none⟩ = false := hk6.free 1
                        have hk7 := hk6.set 1 (.slice A6 (z.length + 1) d6)
                        have c70 : (w6.setCell ⟨wo.heap.size, 1, none⟩ (.slice A6 (z.length + 1) d6)).cell? ⟨wo.heap.size, 0, none⟩ = some (.int .i64 1) := hk7.cell 0
                        have HK7 := Lib.hid hk7
                        have HB7 := Lib.hid (((HBI.out.grown hg6 (Nat.le_of_lt HBL.out.lt) (fun j hj => by have := (World.ownsRow.lt HO.out j hj).1; omega))).setCell (p := ⟨wo.heap.size, 1, none⟩) (Nat.le_refl _) (.slice A6 (z.length + 1) d6))
                        have HO7 := Lib.hid (own32_apart o6 (grown_setCell (grown_refl w6 (some wo.heap.size)) 1 (.slice A6 (z.length + 1) d6)) (Nat.lt_succ_self _))
                        clear c0 c1 ho6 hg6 hvb hk6 o6 el hk7
                        go_wp2_with fail
                        go_roundw
                        case rel => exact ⟨HB7.out, _, z ++ [n], k + 1, true, by have := HKL.out; omega, by first | rfl | go_num | rfl, rfl, HK7.out, HO7.out, HZF2, by have h1 := HQZ.out; have h2 := HGT.out; rw [List.length_append]; simp only [List.length_cons, List.length_nil]; omega, Lib.hid (fun _ => HMN.out), Lib.hid (fun e9 => by cases e9)⟩
                        case measure =>
                          have h1 := HGT.out
                          have h2 := HGLE.out.2
                          have h3 := HKL.out
                          simp [intOf]
                          omega
                      · have HRN := Lib.hid (show R = some (z ++ [n], l.drop k) by rw [← HMT.out, nums_end hi (fun _ h => h44 (by rw [← HGE.out] at h; exact h.2)), ← HGE.out])
                        have hcm : ((((⟨l.toArray⟩ : ByteArray)[k]'hkb).toNat : Int) == 44) = false := by
                          rw [hkx]
                          exact byte_beq h44
                        obtain ⟨x, hx⟩ : ∃ x, x = (l.getD k 0).toNat := ⟨_, rfl⟩
                        rw [← hx] at hnd hkx
                        obtain ⟨W, hW⟩ : ∃ W, W = (l.drop e).takeWhile digB := ⟨_, rfl⟩
                        rw [← hW] at QI hext
                        have hxm : ((x : Int) == 44) = false := by rw [hx]; exact byte_beq h44
                        rcases (show ¬ (48 : Int) ≤ (x : Int) ∨ ((48 : Int) ≤ (x : Int) ∧ ¬ (x : Int) ≤ 57) by omega) with h48 | ⟨h48, h57⟩
                        · clear hnd h44 hi hW HOUT hlt9 hkl hx
                          go_wp2_with fail
                          refine QI.out.mono ?_
                          rintro er w5 ⟨rfl, rfl⟩
                          have hzl : z.length ≤ 1000 := by have h1 := HQZ.out; have h2 := HEL.out; omega
                          go_wp2_with (at_builtin; refine wpList_app_one' isU32 rfl (.tmp 68) (.tmp 71) rfl (wo.heap.size + 1) _ z.length (cells32 z) rfl wr [.int .u32 (n : Int)] rfl HO.out rfl rfl (by simp [Value.oneCell']) (by omega) HBL.out.lt ?_)
                          intro v6 w6 ho6 hg6
                          have hvb : some wo.heap.size ≠ (Value.slice A5 z.length d5).ownBlock := by
                            intro e9
                            have := (World.ownsRow.lt HO.out _ e9.symm).1
                            omega
                          have hk6 : Blk w6 wo.heap.size 53 [.int .i64 1, .slice A5 z.length d5] := (hg6.block _ HBL.out.lt hvb).trans HBL.out
                          have o6 : Own32 w6 (wo.heap.size + 1) v6 (z ++ [n]) := by
                            have e9 : (z ++ [n]).length = z.length + 1 := by simp
                            unfold Own32
                            rw [e9]
                            simpa [cells32] using ho6
                          obtain ⟨A6, d6, rfl, q1, q2'⟩ := o6.form
                          have el : (z ++ [n]).length = z.length + 1 := by simp
                          rw [el] at o6 q1
                          have c61 : w6.cell? ⟨wo.heap.size, 1, none⟩ = some (.slice A5 z.length d5) := hk6.cell 1
                          have f61 : w6.frozen? ⟨wo.heap.size, 1, none⟩ = false := hk6.free 1
                          have hk7 := hk6.set 1 (.slice A6 (z.length + 1) d6)
                          have c70 : (w6.setCell ⟨wo.heap.size, 1, none⟩ (.slice A6 (z.length + 1) d6)).cell? ⟨wo.heap.size, 0, none⟩ = some (.int .i64 1) := hk7.cell 0
                          have HK7 := Lib.hid hk7
                          have HB7 := Lib.hid (((HBI.out.grown hg6 (Nat.le_of_lt HBL.out.lt) (fun j hj => by have := (World.ownsRow.lt HO.out j hj).1; omega))).setCell (p := ⟨wo.heap.size, 1, none⟩) (Nat.le_refl _) (.slice A6 (z.length + 1) d6))
                          have HO7 := Lib.hid (own32_apart o6 (grown_setCell (grown_refl w6 (some wo.heap.size)) 1 (.slice A6 (z.length + 1) d6)) (Nat.lt_succ_self _))
                          clear c0 c1 ho6 hg6 hvb hk6 o6 el hk7
                          go_wp2_with fail
                          go_roundw
                          case rel => exact ⟨HB7.out, _, z ++ [n], k, false, by omega, by first | rfl | go_num | rfl, rfl, HK7.out, HO7.out, HZF2, by have h1 := HQZ.out; have h2 := HGT.out; rw [List.length_append]; simp only [List.length_cons, List.length_nil]; omega, Lib.hid (fun e9 => by cases e9), Lib.hid (fun _ => HRN.out)⟩
                          case measure =>
                            have h1 := HGT.out
                            have h2 := HGLE.out.2
                            simp [intOf]
                            omega
                        · clear hnd h44 hi hW HOUT hlt9 hkl hx
                          go_wp2_with fail
                          refine QI.out.mono ?_
                          rintro er w5 ⟨rfl, rfl⟩
                          have hzl : z.length ≤ 1000 := by have h1 := HQZ.out; have h2 := HEL.out; omega
                          go_wp2_with (at_builtin; refine wpList_app_one' isU32 rfl (.tmp 68) (.tmp 71) rfl (wo.heap.size + 1) _ z.length (cells32 z) rfl wr [.int .u32 (n : Int)] rfl HO.out rfl rfl (by simp [Value.oneCell']) (by omega) HBL.out.lt ?_)
                          intro v6 w6 ho6 hg6
                          have hvb : some wo.heap.size ≠ (Value.slice A5 z.length d5).ownBlock := by
                            intro e9
                            have := (World.ownsRow.lt HO.out _ e9.symm).1
                            omega
                          have hk6 : Blk w6 wo.heap.size 53 [.int .i64 1, .slice A5 z.length d5] := (hg6.block _ HBL.out.lt hvb).trans HBL.out
                          have o6 : Own32 w6 (wo.heap.size + 1) v6 (z ++ [n]) := by
                            have e9 : (z ++ [n]).length = z.length + 1 := by simp
                            unfold Own32
                            rw [e9]
                            simpa [cells32] using ho6
                          obtain ⟨A6, d6, rfl, q1, q2'⟩ := o6.form
                          have el : (z ++ [n]).length = z.length + 1 := by simp
                          rw [el] at o6 q1
                          have c61 : w6.cell? ⟨wo.heap.size, 1, none⟩ = some (.slice A5 z.length d5) := hk6.cell 1
                          have f61 : w6.frozen? ⟨wo.heap.size, 1, none⟩ = false := hk6.free 1
                          have hk7 := hk6.set 1 (.slice A6 (z.length + 1) d6)
                          have c70 : (w6.setCell ⟨wo.heap.size, 1, none⟩ (.slice A6 (z.length + 1) d6)).cell? ⟨wo.heap.size, 0, none⟩ = some (.int .i64 1) := hk7.cell 0
                          have HK7 := Lib.hid hk7
                          have HB7 := Lib.hid (((HBI.out.grown hg6 (Nat.le_of_lt HBL.out.lt) (fun j hj => by have := (World.ownsRow.lt HO.out j hj).1; omega))).setCell (p := ⟨wo.heap.size, 1, none⟩) (Nat.le_refl _) (.slice A6 (z.length + 1) d6))
                          have HO7 := Lib.hid (own32_apart o6 (grown_setCell (grown_refl w6 (some wo.heap.size)) 1 (.slice A6 (z.length + 1) d6)) (Nat.lt_succ_self _))
                          clear c0 c1 ho6 hg6 hvb hk6 o6 el hk7
                          go_wp2_with fail
                          go_roundw
                          case rel => exact ⟨HB7.out, _, z ++ [n], k, false, by omega, by first | rfl | go_num | rfl, rfl, HK7.out, HO7.out, HZF2, by have h1 := HQZ.out; have h2 := HGT.out; rw [List.length_append]; simp only [List.length_cons, List.length_nil]; omega, Lib.hid (fun e9 => by cases e9), Lib.hid (fun _ => HRN.out)⟩
                          case measure =>
                            have h1 := HGT.out
                            have h2 := HGLE.out.2
                            simp [intOf]
                            omega
                    · have hklI : ¬ (k : Int) < (l.length : Int) := by omega
                      have HRN := Lib.hid (show R = some (z ++ [n], l.drop k) by rw [← HMT.out, nums_end hi (fun _ h => hkl (by rw [← HGE.out] at h; exact h.1)), ← HGE.out])
                      obtain ⟨W, hW⟩ : ∃ W, W = (l.drop e).takeWhile digB := ⟨_, rfl⟩
                      rw [← hW] at QI hext
                      clear hi hW HOUT hlt9
                      go_wp2_with fail
                      refine QI.out.mono ?_
                      rintro er w5 ⟨rfl, rfl⟩
                      have hzl : z.length ≤ 1000 := by have h1 := HQZ.out; have h2 := HEL.out; omega
                      go_wp2_with (at_builtin; refine wpList_app_one' isU32 rfl (.tmp 68) (.tmp 71) rfl (wo.heap.size + 1) _ z.length (cells32 z) rfl wr [.int .u32 (n : Int)] rfl HO.out rfl rfl (by simp [Value.oneCell']) (by omega) HBL.out.lt ?_)
                      intro v6 w6 ho6 hg6
                      have hvb : some wo.heap.size ≠ (Value.slice A5 z.length d5).ownBlock := by
                        intro e9
                        have := (World.ownsRow.lt HO.out _ e9.symm).1
                        omega
                      have hk6 : Blk w6 wo.heap.size 53 [.int .i64 1, .slice A5 z.length d5] := (hg6.block _ HBL.out.lt hvb).trans HBL.out
                      have o6 : Own32 w6 (wo.heap.size + 1) v6 (z ++ [n]) := by
                        have e9 : (z ++ [n]).length = z.length + 1 := by simp
                        unfold Own32
                        rw [e9]
                        simpa [cells32] using ho6
                      obtain ⟨A6, d6, rfl, q1, q2'⟩ := o6.form
                      have el : (z ++ [n]).length = z.length + 1 := by simp
                      rw [el] at o6 q1
                      have c61 : w6.cell? ⟨wo.heap.size, 1, none⟩ = some (.slice A5 z.length d5) := hk6.cell 1
                      have f61 : w6.frozen? ⟨wo.heap.size, 1, none⟩ = false := hk6.free 1
                      have hk7 := hk6.set 1 (.slice A6 (z.length + 1) d6)
                      have c70 : (w6.setCell ⟨wo.heap.size, 1, none⟩ (.slice A6 (z.length + 1) d6)).cell? ⟨wo.heap.size, 0, none⟩ = some (.int .i64 1) := hk7.cell 0
                      have HK7 := Lib.hid hk7
                      have HB7 := Lib.hid (((HBI.out.grown hg6 (Nat.le_of_lt HBL.out.lt) (fun j hj => by have := (World.ownsRow.lt HO.out j hj).1; omega))).setCell (p := ⟨wo.heap.size, 1, none⟩) (Nat.le_refl _) (.slice A6 (z.length + 1) d6))
                      have HO7 := Lib.hid (own32_apart o6 (grown_setCell (grown_refl w6 (some wo.heap.size)) 1 (.slice A6 (z.length + 1) d6)) (Nat.lt_succ_self _))
                      clear c0 c1 ho6 hg6 hvb hk6 o6 el hk7
                      go_wp2_with fail
                      go_roundw
                      case rel => exact ⟨HB7.out, _, z ++ [n], k, false, by omega, by first | rfl | go_num | rfl, rfl, HK7.out, HO7.out, HZF2, by have h1 := HQZ.out; have h2 := HGT.out; rw [List.length_append]; simp only [List.length_cons, List.length_nil]; omega, Lib.hid (fun e9 => by cases e9), Lib.hid (fun _ => HRN.out)⟩
                      case measure =>
                        have h1 := HGT.out
                        have h2 := HGLE.out.2
                        simp [intOf]
                        omega
            | false =>
              have HMF := Lib.hid (hmf.out rfl)
              clear hbi hblk hown hzf hqz hmt hmf
              have Hp2 := Lib.hid (show p ≤ q2 by have := HQ2.out; omega)
              by_cases hend : e < l.length ∧ l.getD e 0 = 125
              · have HNXT := Lib.hid (HF.out.2 _ _ (((HSS.out.2 z e HMF.out).1) hend))
                obtain ⟨hkl, h125⟩ := hend
                obtain ⟨hkb, hkx⟩ := byte_at hkl
                rw [h125] at hkx
                have hclI : ¬ (l.length : Int) ≤ (e : Int) := by omega
                have hklI : (e : Int) < (l.length : Int) := by omega
                have hcm : ((((⟨l.toArray⟩ : ByteArray)[e]'hkb).toNat : Int) != 125) = false := by rw [hkx]; rfl
                have HENDP := Lib.hid (show p < e + 1 by have h1 := HQZ.out; have h2 := HQP.out; have h3 := Hp2.out; omega)
                have HKL := Lib.hid hkl
                clear hkl h125 hkx
                have hzl : z.length ≤ 1000 := by have h1 := HQZ.out; have h2 := HEL.out; omega
                have HS7 := Lib.hid (HOW.out.below HBI.out)
                have HO7 := Lib.hid (show Own32 wr (wo.heap.size + 1) (Sg.sl ⟨1, A5, d5, z⟩) z from HO.out)
                have HBW := Lib.hid (HBR.out.trans (HBI.out.mono HBR.out.size))
                go_wp2_with (at_builtin; refine wpList_app_one' isSeg rfl (.tmp 107) (.tmp 109) rfl w.heap.size _ _ _ rfl wr (Sg.two ⟨1, A5, d5, z⟩) rfl HS7.out.row rfl rfl (two_one _) (by have h1 := HML.out; have h2 := HPL.out; first | omega | (simp; done) | (simp at h1 ⊢; omega)) HBW.out.size ?_)
                intro v8 w8 hown8 hg8
                have HP := Lib.hid (OwnSegs.push (s := ⟨1, A5, d5, z⟩) HS7.out HO7.out (by have := HBR.out.size; omega) (fun x hx j hj => Nat.lt_succ_of_lt (HOW.out.blocks x hx j hj)) ⟨HZF.out, by show -9223372036854775808 ≤ (1 : Int) ∧ (1 : Int) ≤ 9223372036854775807; decide⟩ (by first | exact hown8 | (rw [List.length_append]; exact hown8)) hg8)
                have HB9 := Lib.hid (HBW.out.grown hg8 HBW.out.size (fun j hj => (World.ownsRow.lt HS7.out.row j hj).1))
                have HZ8 := Lib.hid (show wo.heap.size + 1 ≤ w8.heap.size from Nat.le_trans HBL.out.lt hg8.size)
                clear c0 c1 hown8 hg8
                go_wp2_with fail
                go_roundw
                case rel =>
                  refine ⟨HB9.out, _, wo.heap.size + 1, e + 1, HKL.out, by first | rfl | go_num, HP.out, (by have := HBR.out.size; omega), HZ8.out, ?_, ?_, Lib.hid ?_, Lib.hid ?_⟩
                  · have h1 := HML.out
                    have h2 := HQZ.out
                    have h3 := HQP.out
                    have h4 := Hp2.out
                    have h5 := HENDP.out
                    rw [List.length_append]
                    simp only [List.length_cons, List.length_nil] at h1 ⊢
                    omega
                  · rw [totN_snoc]
                    have h1 := HMT.out
                    have h2 := HQZ.out
                    have h3 := HQP.out
                    have h4 := Hp2.out
                    show totN _ + z.length ≤ _
                    omega
                  · intro e9
                    have h2 := HENDP.out
                    omega
                  · have h2 := HENDP.out
                    unfold scanFrom
                    rw [if_neg (by omega), List.map_append]
                    exact HNXT.out.symm
                case measure =>
                  have h2 := HENDP.out
                  have h3 := HPL.out
                  have h4 := HEL.out
                  simp [intOf]
                  omega
              · have HE := Lib.hid (show parseL l = none by rw [HPS.out, HF.out.1 ((HSS.out.2 z e HMF.out).2 hend)])
                by_cases hkl : e < l.length
                · obtain ⟨hkb, hkx⟩ := byte_at hkl
                  have hclI : ¬ (l.length : Int) ≤ (e : Int) := by omega
                  have hklI : (e : Int) < (l.length : Int) := by omega
                  have hcm : ((((⟨l.toArray⟩ : ByteArray)[e]'hkb).toNat : Int) != 125) = true := by
                    rw [hkx]
                    exact byte_bne (fun h => hend ⟨hkl, h⟩)
                  clear hkl hend hkx
                  go_wp2_with fail
                  go_ret2
                  rw [HE.out]
                  exact parsePost_none rfl (HBR.out.trans (HBI.out.mono HBR.out.size))
                · have hclI : (l.length : Int) ≤ (e : Int) := by omega
                  clear hkl hend
                  go_wp2_with fail
                  go_ret2
                  rw [HE.out]
                  exact parsePost_none rfl (HBR.out.trans (HBI.out.mono HBR.out.size))
        · have hcn : ((((⟨l.toArray⟩ : ByteArray)[p]'hpb).toNat : Int) == 123) = false := by
            rw [hpx]
            exact byte_beq hc
          have HQC := Lib.hid (show ¬ (p < l.length ∧ l.getD p 0 = 123) from fun e => hc e.2)
          clear hc hpx hlt
          have HB1 := HBK
          have HBB := HBA
          have HSS := Lib.hid (scanS_seq HQC.out)
          have HpL := Lib.hid (show p ≤ l.length by exact HQL.out)
          obtain ⟨R, hR⟩ : ∃ R, R = scanN false (l.drop p) [] := ⟨_, rfl⟩
          have HRE := Lib.hid hR.symm
          rw [← hR] at HSS
          clear hR
          go_wp2_with fail
          go_loopw [5, 7] (fun i more wr' => NumsRel wo wo.heap.size l 2 false p R i more wr') (fun i _ _ => l.length - (intOf i).toNat)
          case atStart => exact ⟨HBB.out, _, [], p, true, HpL.out, by first | rfl | rfl, rfl, HB1.out, Own32.nil _ _, Lib.hid (by simp), Nat.le_refl _, Lib.hid (fun _ => HRE.out), Lib.hid (fun e => by cases e)⟩
          case round =>
            obtain ⟨hbi, v, z, e, mb, hel, rfl, rfl, hblk, hown, hzf, hqz, hmt, hmf⟩ := hrel
            obtain ⟨A5, d5, rfl, e1, e2⟩ := hown.form
            have c0 : wr.cell? ⟨wo.heap.size, 0, none⟩ = some (.int .i64 2) := hblk.cell 0
            have c1 : wr.cell? ⟨wo.heap.size, 1, none⟩ = some (.slice A5 z.length d5) := hblk.cell 1
            have HBI := Lib.hid hbi; have HBL := Lib.hid hblk; have HO := Lib.hid hown; have HZF := Lib.hid hzf.out; have HQZ := Lib.hid hqz; have HEL := Lib.hid hel
            have heb : (e : Int) ≤ 1000 := by omega
            cases mb with
            | true =>
              have HMT := Lib.hid (hmt.out rfl)
              clear hbi hblk hown hzf hqz hmt hmf
              obtain ⟨g, hg⟩ : ∃ g, g = digEnd l e := ⟨_, rfl⟩
              have hgle := digEnd_le hel
              have HIN := Lib.hid (fun k (h1 : e ≤ k) (h2 : k < g) => digEnd_in h1 (by rw [← hg]; exact h2))
              have HOUT := digEnd_out hel
              rw [← hg] at hgle HOUT
              have HOUT := Lib.hid HOUT
              have HGLE := Lib.hid hgle
              have HGE := Lib.hid hg
              clear hg
              go_wp2_with fail
              go_loop [5] (fun i => ∃ k : Nat, e ≤ k ∧ k ≤ g ∧ i = .int .i64 (k : Int)) (fun i => l.length - (intOf i).toNat)
              case atStart => exact ⟨e, Nat.le_refl _, HGLE.out.1, rfl⟩
              case round =>
                obtain ⟨k, hk1, hk2, rfl⟩ := hrel
                by_cases hkg : k < g
                · have hkl : k < l.length := by omega
                  obtain ⟨hkb, hkx⟩ := byte_at hkl
                  have hdig := HIN.out k hk1 hkg
                  unfold isDig at hdig
                  obtain ⟨x, hx⟩ : ∃ x, x = (l.getD k 0).toNat := ⟨_, rfl⟩
                  rw [← hx] at hkx hdig
                  have h48 : (48 : Int) ≤ (x : Int) := by omega
                  have h57 : (x : Int) ≤ 57 := by omega
                  have hklI : (k : Int) < (l.length : Int) := by omega
                  have hkbI : (k : Int) ≤ 1000 := by omega
                  have HKG := Lib.hid hkg; have HK1 := Lib.hid hk1
                  clear hx hdig hkg hk1 hk2
                  go_wp2_with fail
                  go_round
                  case rel => exact ⟨k + 1, by have := HK1.out; omega, HKG.out, by go_num⟩
                  case measure =>
                    simp [intOf]
                    omega
                · obtain rfl : k = g := by omega
                  have hkbI : (k : Int) ≤ 1000 := by omega
                  have hke0 : (e : Int) ≤ (k : Int) := by omega
                  have hke1 : (k : Int) ≤ (l.length : Int) := by omega
                  have hext : (⟨l.toArray⟩ : ByteArray).extract e k = ⟨((l.drop e).takeWhile digB).toArray⟩ := by rw [ba_ext, HGE.out, word_cut]
                  have hwl : ((l.drop e).takeWhile digB).length ≤ maxLen := by
                    have := tw_le (l.drop e)
                    rw [List.length_drop] at this
                    unfold twN at this
                    unfold maxLen
                    omega
                  have QI := refInt_any ((l.drop e).takeWhile digB) wr hwl
                  have HWI := Lib.hid (fun (r : Option Nat) (h : intSpec ((l.drop e).takeWhile digB) = r) => h)
                  clear hwl
                  cases hi : intSpec ((l.drop e).takeWhile digB) with
                  | none =>
                    rw [hi] at QI
                    simp only [retInt, Option.getD_none, Option.isSome_none] at QI
                    have QI := Lib.hid QI
                    have HE := Lib.hid (show parseL l = none by
                      have h1 : R = none := by rw [← HMT.out]; exact nums_none hi
                      rw [HPS.out, HF.out.1 (HSS.out.1 h1)])
                    obtain ⟨W, hW⟩ : ∃ W, W = (l.drop e).takeWhile digB := ⟨_, rfl⟩
                    rw [← hW] at QI hext
                    clear hi hW c0 c1
                    by_cases hkl : k < l.length
                    · obtain ⟨hkb, hkx⟩ := byte_at hkl
                      have hklI : (k : Int) < (l.length : Int) := by omega
                      have hnd : ¬ (48 ≤ (l.getD k 0).toNat ∧ (l.getD k 0).toNat ≤ 57) := fun h => HOUT.out ⟨hkl, h⟩
                      obtain ⟨x, hx⟩ : ∃ x, x = (l.getD k 0).toNat := ⟨_, rfl⟩
                      rw [← hx] at hnd hkx
                      rcases (show ¬ (48 : Int) ≤ (x : Int) ∨ ((48 : Int) ≤ (x : Int) ∧ ¬ (x : Int) ≤ 57) by omega) with h48 | ⟨h48, h57⟩
                      · clear hnd hx HOUT
                        go_wp2_with fail
                        refine QI.out.mono ?_
                        rintro er w5 ⟨rfl, rfl⟩
                        go_wp2_with fail
                        go_ret2
                        rw [HE.out]
                        exact parsePost_none rfl (HBR.out.trans (HBI.out.mono HBR.out.size))
                      · clear hnd hx HOUT
                        go_wp2_with fail
                        refine QI.out.mono ?_
                        rintro er w5 ⟨rfl, rfl⟩
                        go_wp2_with fail
                        go_ret2
                        rw [HE.out]
                        exact parsePost_none rfl (HBR.out.trans (HBI.out.mono HBR.out.size))
                    · have hklI : ¬ (k : Int) < (l.length : Int) := by omega
                      clear HOUT
                      go_wp2_with fail
                      refine QI.out.mono ?_
                      rintro er w5 ⟨rfl, rfl⟩
                      go_wp2_with fail
                      go_ret2
                      rw [HE.out]
                      exact parsePost_none rfl (HBR.out.trans (HBI.out.mono HBR.out.size))
                  | some n =>
                    have hlt9 := word_len hi
                    have hn := (intSpec_some hi).2
                    rw [hi] at QI
                    simp only [retInt, Option.getD_some, Option.isSome_some] at QI
                    have QI := Lib.hid QI
                    have HGT := Lib.hid (show e < k by rw [HGE.out]; exact hlt9)
                    have HZF2 := Lib.hid (show ∀ x ∈ z ++ [n], x < 4294967296 from fun x hx => by
                      rcases List.mem_append.1 hx with h | h
                      · exact HZF.out x h
                      · simp at h; omega)
                    by_cases hkl : k < l.length
                    · obtain ⟨hkb, hkx⟩ := byte_at hkl
                      have hklI : (k : Int) < (l.length : Int) := by omega
                      have hnd : ¬ (48 ≤ (l.getD k 0).toNat ∧ (l.getD k 0).toNat ≤ 57) := fun h => HOUT.out ⟨hkl, h⟩
                      have HRN := Lib.hid (show R = some (z ++ [n], l.drop k) by rw [← HMT.out, nums_end hi (fun h => by cases h), ← HGE.out])
                      obtain ⟨x, hx⟩ : ∃ x, x = (l.getD k 0).toNat := ⟨_, rfl⟩
                      rw [← hx] at hnd hkx
                      obtain ⟨W, hW⟩ : ∃ W, W = (l.drop e).takeWhile digB := ⟨_, rfl⟩
                      rw [← hW] at QI hext
                      rcases (show ¬ (48 : Int) ≤ (x : Int) ∨ ((48 : Int) ≤ (x : Int) ∧ ¬ (x : Int) ≤ 57) by omega) with h48 | ⟨h48, h57⟩
                      · clear hnd hi hW HOUT hlt9 hkl hx
                        go_wp2_with fail
                        refine QI.out.mono ?_
                        rintro er w5 ⟨rfl, rfl⟩
                        have hzl : z.length ≤ 1000 := by have h1 := HQZ.out; have h2 := HEL.out; omega
                        go_wp2_with (at_builtin; refine wpList_app_one' isU32 rfl (.tmp 68) (.tmp 71) rfl (wo.heap.size + 1) _ z.length (cells32 z) rfl wr [.int .u32 (n : Int)] rfl HO.out rfl rfl (by simp [Value.oneCell']) (by omega) HBL.out.lt ?_)
                        intro v6 w6 ho6 hg6
                        have hvb : some wo.heap.size ≠ (Value.slice A5 z.length d5).ownBlock := by
                          intro e9
                          have := (World.ownsRow.lt HO.out _ e9.symm).1
                          omega
                        have hk6 : Blk w6 wo.heap.size 53 [.int .i64 2, .slice A5 z.length d5] := (hg6.block _ HBL.out.lt hvb).trans HBL.out
                        have o6 : Own32 w6 (wo.heap.size + 1) v6 (z ++ [n]) := by
                          have e9 : (z ++ [n]).length = z.length + 1 := by simp
                          unfold Own32
                          rw [e9]
                          simpa [cells32] using ho6
                        obtain ⟨A6, d6, rfl, q1, q2'⟩ := o6.form
                        have el : (z ++ [n]).length = z.length + 1 := by simp
                        rw [el] at o6 q1
                        have c61 : w6.cell? ⟨wo.heap.size, 1, none⟩ = some (.slice A5 z.length d5) := hk6.cell 1
                        have f61 : w6.frozen? ⟨wo.heap.size, 1, none⟩ = false := hk6.free 1
                        have hk7 := hk6.set 1 (.slice A6 (z.length + 1) d6)
                        have c70 : (w6.setCell ⟨wo.heap.size, 1, none⟩ (.slice A6 (z.length + 1) d6)).cell? ⟨wo.heap.size, 0, none⟩ = some (.int .i64 2) := hk7.cell 0
                        have HK7 := Lib.hid hk7
                        have HB7 := Lib.hid (((HBI.out.grown hg6 (Nat.le_of_lt HBL.out.lt) (fun j hj => by have := (World.ownsRow.lt HO.out j hj).1; omega))).setCell (p := ⟨wo.heap.size, 1, none⟩) (Nat.le_refl _) (.slice A6 (z.length + 1) d6))
                        have HO7 := Lib.hid (own32_apart o6 (grown_setCell (grown_refl w6 (some wo.heap.size)) 1 (.slice A6 (z.length + 1) d6)) (Nat.lt_succ_self _))
                        clear c0 c1 ho6 hg6 hvb hk6 o6 el hk7
                        go_wp2_with fail
                        go_roundw
                        case rel => exact ⟨HB7.out, _, z ++ [n], k, false, by omega, by first | rfl | go_num | rfl, rfl, HK7.out, HO7.out, HZF2, by have h1 := HQZ.out; have h2 := HGT.out; rw [List.length_append]; simp only [List.length_cons, List.length_nil]; omega, Lib.hid (fun e9 => by cases e9), Lib.hid (fun _ => HRN.out)⟩
                        case measure =>
                          have h1 := HGT.out
                          have h2 := HGLE.out.2
                          simp [intOf]
                          omega
                      · clear hnd hi hW HOUT hlt9 hkl hx
                        go_wp2_with fail
                        refine QI.out.mono ?_
                        rintro er w5 ⟨rfl, rfl⟩
                        have hzl : z.length ≤ 1000 := by have h1 := HQZ.out; have h2 := HEL.out; omega
                        go_wp2_with (at_builtin; refine wpList_app_one' isU32 rfl (.tmp 68) (.tmp 71) rfl (wo.heap.size + 1) _ z.length (cells32 z) rfl wr [.int .u32 (n : Int)] rfl HO.out rfl rfl (by simp [Value.oneCell']) (by omega) HBL.out.lt ?_)
                        intro v6 w6 ho6 hg6
                        have hvb : some wo.heap.size ≠ (Value.slice A5 z.length d5).ownBlock := by
                          intro e9
                          have := (World.ownsRow.lt HO.out _ e9.symm).1
                          omega
                        have hk6 : Blk w6 wo.heap.size 53 [.int .i64 2, .slice A5 z.length d5] := (hg6.block _ HBL.out.lt hvb).trans HBL.out
                        have o6 : Own32 w6 (wo.heap.size + 1) v6 (z ++ [n]) := by
                          have e9 : (z ++ [n]).length = z.length + 1 := by simp
                          unfold Own32
                          rw [e9]
                          simpa [cells32] using ho6
                        obtain ⟨A6, d6, rfl, q1, q2'⟩ := o6.form
                        have el : (z ++ [n]).length = z.length + 1 := by simp
                        rw [el] at o6 q1
                        have c61 : w6.cell? ⟨wo.heap.size, 1, none⟩ = some (.slice A5 z.length d5) := hk6.cell 1
                        have f61 : w6.frozen? ⟨wo.heap.size, 1, none⟩ = false := hk6.free 1
                        have hk7 := hk6.set 1 (.slice A6 (z.length + 1) d6)
                        have c70 : (w6.setCell ⟨wo.heap.size, 1, none⟩ (.slice A6 (z.length + 1) d6)).cell? ⟨wo.heap.size, 0, none⟩ = some (.int .i64 2) := hk7.cell 0
                        have HK7 := Lib.hid hk7
                        have HB7 := Lib.hid (((HBI.out.grown hg6 (Nat.le_of_lt HBL.out.lt) (fun j hj => by have := (World.ownsRow.lt HO.out j hj).1; omega))).setCell (p := ⟨wo.heap.size, 1, none⟩) (Nat.le_refl _) (.slice A6 (z.length + 1) d6))
                        have HO7 := Lib.hid (own32_apart o6 (grown_setCell (grown_refl w6 (some wo.heap.size)) 1 (.slice A6 (z.length + 1) d6)) (Nat.lt_succ_self _))
                        clear c0 c1 ho6 hg6 hvb hk6 o6 el hk7
                        go_wp2_with fail
                        go_roundw
                        case rel => exact ⟨HB7.out, _, z ++ [n], k, false, by omega, by first | rfl | go_num | rfl, rfl, HK7.out, HO7.out, HZF2, by have h1 := HQZ.out; have h2 := HGT.out; rw [List.length_append]; simp only [List.length_cons, List.length_nil]; omega, Lib.hid (fun e9 => by cases e9), Lib.hid (fun _ => HRN.out)⟩
                        case measure =>
                          have h1 := HGT.out
                          have h2 := HGLE.out.2
                          simp [intOf]
                          omega
                    · have hklI : ¬ (k : Int) < (l.length : Int) := by omega
                      have HRN := Lib.hid (show R = some (z ++ [n], l.drop k) by rw [← HMT.out, nums_end hi (fun _ h => hkl (by rw [← HGE.out] at h; exact h.1)), ← HGE.out])
                      obtain ⟨W, hW⟩ : ∃ W, W = (l.drop e).takeWhile digB := ⟨_, rfl⟩
                      rw [← hW] at QI hext
                      clear hi hW HOUT hlt9
                      go_wp2_with fail
                      refine QI.out.mono ?_
                      rintro er w5 ⟨rfl, rfl⟩
                      have hzl : z.length ≤ 1000 := by have h1 := HQZ.out; have h2 := HEL.out; omega
                      go_wp2_with (at_builtin; refine wpList_app_one' isU32 rfl (.tmp 68) (.tmp 71) rfl (wo.heap.size + 1) _ z.length (cells32 z) rfl wr [.int .u32 (n : Int)] rfl HO.out rfl rfl (by simp [Value.oneCell']) (by omega) HBL.out.lt ?_)
                      intro v6 w6 ho6 hg6
                      have hvb : some wo.heap.size ≠ (Value.slice A5 z.length d5).ownBlock := by
                        intro e9
                        have := (World.ownsRow.lt HO.out _ e9.symm).1
                        omega
                      have hk6 : Blk w6 wo.heap.size 53 [.int .i64 2, .slice A5 z.length d5] := (hg6.block _ HBL.out.lt hvb).trans HBL.out
                      have o6 : Own32 w6 (wo.heap.size + 1) v6 (z ++ [n]) := by
                        have e9 : (z ++ [n]).length = z.length + 1 := by simp
                        unfold Own32
                        rw [e9]
                        simpa [cells32] using ho6
                      obtain ⟨A6, d6, rfl, q1, q2'⟩ := o6.form
                      have el : (z ++ [n]).length = z.length + 1 := by simp
                      rw [el] at o6 q1
                      have c61 : w6.cell? ⟨wo.heap.size, 1, none⟩ = some (.slice A5 z.length d5) := hk6.cell 1
                      have f61 : w6.frozen? ⟨wo.heap.size, 1, none⟩ = false := hk6.free 1
                      have hk7 := hk6.set 1 (.slice A6 (z.length + 1) d6)
                      have c70 : (w6.setCell ⟨wo.heap.size, 1, none⟩ (.slice A6 (z.length + 1) d6)).cell? ⟨wo.heap.size, 0, none⟩ = some (.int .i64 2) := hk7.cell 0
                      have HK7 := Lib.hid hk7
                      have HB7 := Lib.hid (((HBI.out.grown hg6 (Nat.le_of_lt HBL.out.lt) (fun j hj => by have := (World.ownsRow.lt HO.out j hj).1; omega))).setCell (p := ⟨wo.heap.size, 1, none⟩) (Nat.le_refl _) (.slice A6 (z.length + 1) d6))
                      have HO7 := Lib.hid (own32_apart o6 (grown_setCell (grown_refl w6 (some wo.heap.size)) 1 (.slice A6 (z.length + 1) d6)) (Nat.lt_succ_self _))
                      clear c0 c1 ho6 hg6 hvb hk6 o6 el hk7
                      go_wp2_with fail
                      go_roundw
                      case rel => exact ⟨HB7.out, _, z ++ [n], k, false, by omega, by first | rfl | go_num | rfl, rfl, HK7.out, HO7.out, HZF2, by have h1 := HQZ.out; have h2 := HGT.out; rw [List.length_append]; simp only [List.length_cons, List.length_nil]; omega, Lib.hid (fun e9 => by cases e9), Lib.hid (fun _ => HRN.out)⟩
                      case measure =>
                        have h1 := HGT.out
                        have h2 := HGLE.out.2
                        simp [intOf]
                        omega
            | false =>
              have HMF := Lib.hid (hmf.out rfl)
              clear hbi hblk hown hzf hqz hmt hmf
              have Hp := Lib.hid (show p ≤ p by omega)
              have HNXT := Lib.hid (HF.out.2 _ _ (HSS.out.2 z _ HMF.out))
              have HENDP := Lib.hid (show p < e by
                have h1 := HQZ.out
                have h2 := HQP.out
                have h3 : z ≠ [] := by
                  intro e9
                  have h4 := HMF.out
                  rw [← HRE.out] at h4
                  obtain ⟨z', g1, g2, _⟩ := scanN_some _ _ _ _ _ _ (Nat.le_refl _) h4
                  rw [e9, List.nil_append] at g1
                  exact g2 g1.symm
                have h5 := List.length_pos_iff.2 h3
                omega)
              have hzl : z.length ≤ 1000 := by have h1 := HQZ.out; have h2 := HEL.out; omega
              have HS7 := Lib.hid (HOW.out.below HBI.out)
              have HO7 := Lib.hid (show Own32 wr (wo.heap.size + 1) (Sg.sl ⟨2, A5, d5, z⟩) z from HO.out)
              have HBW := Lib.hid (HBR.out.trans (HBI.out.mono HBR.out.size))
              go_wp2_with (at_builtin; refine wpList_app_one' isSeg rfl (.tmp 107) (.tmp 109) rfl w.heap.size _ _ _ rfl wr (Sg.two ⟨2, A5, d5, z⟩) rfl HS7.out.row rfl rfl (two_one _) (by have h1 := HML.out; have h2 := HPL.out; first | omega | (simp; done) | (simp at h1 ⊢; omega)) HBW.out.size ?_)
              intro v8 w8 hown8 hg8
              have HP := Lib.hid (OwnSegs.push (s := ⟨2, A5, d5, z⟩) HS7.out HO7.out (by have := HBR.out.size; omega) (fun x hx j hj => Nat.lt_succ_of_lt (HOW.out.blocks x hx j hj)) ⟨HZF.out, by show -9223372036854775808 ≤ (2 : Int) ∧ (2 : Int) ≤ 9223372036854775807; decide⟩ (by first | exact hown8 | (rw [List.length_append]; exact hown8)) hg8)
              have HB9 := Lib.hid (HBW.out.grown hg8 HBW.out.size (fun j hj => (World.ownsRow.lt HS7.out.row j hj).1))
              have HZ8 := Lib.hid (show wo.heap.size + 1 ≤ w8.heap.size from Nat.le_trans HBL.out.lt hg8.size)
              clear c0 c1 hown8 hg8
              go_wp2_with fail
              go_roundw
              case rel =>
                refine ⟨HB9.out, _, wo.heap.size + 1, e, HEL.out, by first | rfl | go_num, HP.out, (by have := HBR.out.size; omega), HZ8.out, ?_, ?_, Lib.hid ?_, Lib.hid ?_⟩
                · have h1 := HML.out
                  have h2 := HQZ.out
                  have h3 := HQP.out
                  have h4 := Hp.out
                  have h5 := HENDP.out
                  rw [List.length_append]
                  simp only [List.length_cons, List.length_nil] at h1 ⊢
                  omega
                · rw [totN_snoc]
                  have h1 := HMT.out
                  have h2 := HQZ.out
                  have h3 := HQP.out
                  have h4 := Hp.out
                  show totN _ + z.length ≤ _
                  omega
                · intro e9
                  have h2 := HENDP.out
                  omega
                · have h2 := HENDP.out
                  unfold scanFrom
                  rw [if_neg (by omega), List.map_append]
                  exact HNXT.out.symm
              case measure =>
                have h2 := HENDP.out
                have h3 := HPL.out
                have h4 := HEL.out
                simp [intOf]
                omega
      · have hpNat : 0 < p := by omega
        have hpD : decide (0 < p) = true := decide_eq_true hpNat
        have hpI : (0 : Int) < (p : Int) := by omega
        have hscp : scanR (l.drop p) (M.map Sg.abs) = scanA l := by
          have h1 := hsc.out
          unfold scanFrom at h1
          rw [if_neg hp0] at h1
          exact h1
        by_cases h32 : l.getD p 0 = 32
        · rw [h32] at hpx
          have hce : ((((⟨l.toArray⟩ : ByteArray)[p]'hpb).toNat : Int) != 32) = false := by rw [hpx]; rfl
          have HF0 := scanR_next hlt h32 (M.map Sg.abs)
          rw [hscp] at HF0
          obtain ⟨q, hq⟩ : ∃ q : Nat, q = p + 1 := ⟨_, rfl⟩
          rw [← hq] at HF0
          have HF := Lib.hid HF0
          have HQP := Lib.hid (show p ≤ q by omega)
          have hqI : (p : Int) + 1 = (q : Int) := by omega
          have HQL := Lib.hid (show q ≤ l.length by omega)
          have hqb : (q : Int) ≤ 1000 := by omega
          have hpb0 : (p : Int) ≤ 1000 := by omega
          clear hbr hown hMl hMt hm0 hsc hlt h32 hpx hscp HF0 hp0 hq
          by_cases hql : q < l.length
          · obtain ⟨hqbb, hqx⟩ := byte_at hql
            have hqlI : (q : Int) < (l.length : Int) := by omega
            by_cases hc : l.getD q 0 = 123
            · rw [hc] at hqx
              have HQC := Lib.hid (show q < l.length ∧ l.getD q 0 = 123 from ⟨hql, hc⟩)
              have hcq : ((((⟨l.toArray⟩ : ByteArray)[q]'hqbb).toNat : Int) == 123) = true := by rw [hqx]; rfl
              clear hc hqx
              obtain ⟨q2, hq2⟩ : ∃ q2 : Nat, q2 = q + 1 := ⟨_, rfl⟩
              have hq2I : (q : Int) + 1 = (q2 : Int) := by omega
              have HQ2 := Lib.hid hq2
              clear hq2 hql
              have HB1 := Lib.hid (Blk.new wo 53 [.int .i64 1, .slice none 0 0])
              have HBB := Lib.hid ((Below.refl wo.heap.size wo).alloc (Nat.le_refl _) (.cells #[.int .i64 1, .slice none 0 0] 53))
              have HS0 := scanS_set HQC.out.1 HQC.out.2
              rw [← HQ2.out] at HS0
              have HSS := Lib.hid HS0
              have Hq2L := Lib.hid (show q2 ≤ l.length by have := HQC.out.1; have := HQ2.out; omega)
              clear HS0
              obtain ⟨R, hR⟩ : ∃ R, R = scanN true (l.drop q2) [] := ⟨_, rfl⟩
              have HRE := Lib.hid hR.symm
              rw [← hR] at HSS
              clear hR
              go_wp2_with fail
              have HQ2I := Lib.hid hq2I
              clear hq2I
              have HQI := Lib.hid hqI
              clear hqI
              go_loopw [5, 7] (fun i more wr' => NumsRel wo wo.heap.size l 1 true q2 R i more wr') (fun i _ _ => l.length - (intOf i).toNat)
              case atStart => exact ⟨HBB.out, _, [], q2, true, Hq2L.out, by first | rfl | exact congrArg (Value.int .i64) HQ2I.out, rfl, HB1.out, Own32.nil _ _, Lib.hid (by simp), Nat.le_refl _, Lib.hid (fun _ => HRE.out), Lib.hid (fun e => by cases e)⟩
              case round =>
                obtain ⟨hbi, v, z, e, mb, hel, rfl, rfl, hblk, hown, hzf, hqz, hmt, hmf⟩ := hrel
                obtain ⟨A5, d5, rfl, e1, e2⟩ := hown.form
                have c0 : wr.cell? ⟨wo.heap.size, 0, none⟩ = some (.int .i64 1) := hblk.cell 0
                have c1 : wr.cell? ⟨wo.heap.size, 1, none⟩ = some (.slice A5 z.length d5) := hblk.cell 1
                have HBI := Lib.hid hbi; have HBL := Lib.hid hblk; have HO := Lib.hid hown; have HZF := Lib.hid hzf.out; have HQZ := Lib.hid hqz; have HEL := Lib.hid hel
                have heb : (e : Int) ≤ 1000 := by omega
                cases mb with
                | true =>
                  have HMT := Lib.hid (hmt.out rfl)
                  clear hbi hblk hown hzf hqz hmt hmf
                  obtain ⟨g, hg⟩ : ∃ g, g = digEnd l e := ⟨_, rfl⟩
                  have hgle := digEnd_le hel
                  have HIN := Lib.hid (fun k (h1 : e ≤ k) (h2 : k < g) => digEnd_in h1 (by rw [← hg]; exact h2))
                  have HOUT := digEnd_out hel
                  rw [← hg] at hgle HOUT
                  have HOUT := Lib.hid HOUT
                  have HGLE := Lib.hid hgle
                  have HGE := Lib.hid hg
                  clear hg
                  go_wp2_with fail
                  go_loop [5] (fun i => ∃ k : Nat, e ≤ k ∧ k ≤ g ∧ i = .int .i64 (k : Int)) (fun i => l.length - (intOf i).toNat)
                  case atStart => exact ⟨e, Nat.le_refl _, HGLE.out.1, rfl⟩
                  case round =>
                    obtain ⟨k, hk1, hk2, rfl⟩ := hrel
                    by_cases hkg : k < g
                    · have hkl : k < l.length := by omega
                      obtain ⟨hkb, hkx⟩ := byte_at hkl
                      have hdig := HIN.out k hk1 hkg
                      unfold isDig at hdig
                      obtain ⟨x, hx⟩ : ∃ x, x = (l.getD k 0).toNat := ⟨_, rfl⟩
                      rw [← hx] at hkx hdig
                      have h48 : (48 : Int) ≤ (x : Int) := by omega
                      have h57 : (x : Int) ≤ 57 := by omega
                      have hklI : (k : Int) < (l.length : Int) := by omega
                      have hkbI : (k : Int) ≤ 1000 := by omega
                      have HKG := Lib.hid hkg; have HK1 := Lib.hid hk1
                      clear hx hdig hkg hk1 hk2
                      go_wp2_with fail
                      go_round
                      case rel => exact ⟨k + 1, by have := HK1.out; omega, HKG.out, by go_num⟩
                      case measure =>
                        simp [intOf]
                        omega
                    · obtain rfl : k = g := by omega
                      have hkbI : (k : Int) ≤ 1000 := by omega
                      have hke0 : (e : Int) ≤ (k : Int) := by omega
                      have hke1 : (k : Int) ≤ (l.length : Int) := by omega
                      have hext : (⟨l.toArray⟩ : ByteArray).extract e k = ⟨((l.drop e).takeWhile digB).toArray⟩ := by rw [ba_ext, HGE.out, word_cut]
                      have hwl : ((l.drop e).takeWhile digB).length ≤ maxLen := by
                        have := tw_le (l.drop e)
                        rw [List.length_drop] at this
                        unfold twN at this
                        unfold maxLen
                        omega
                      have QI := refInt_any ((l.drop e).takeWhile digB) wr hwl
                      have HWI := Lib.hid (fun (r : Option Nat) (h : intSpec ((l.drop e).takeWhile digB) = r) => h)
                      clear hwl
                      cases hi : intSpec ((l.drop e).takeWhile digB) with
                      | none =>
                        rw [hi] at QI
                        simp only [retInt, Option.getD_none, Option.isSome_none] at QI
                        have QI := Lib.hid QI
                        have HE := Lib.hid (show parseL l = none by
                          have h1 : R = none := by rw [← HMT.out]; exact nums_none hi
                          rw [HPS.out, HF.out.1 (HSS.out.1 h1)])
                        obtain ⟨W, hW⟩ : ∃ W, W = (l.drop e).takeWhile digB := ⟨_, rfl⟩
                        rw [← hW] at QI hext
                        clear hi hW c0 c1
                        by_cases hkl : k < l.length
                        · obtain ⟨hkb, hkx⟩ := byte_at hkl
                          have hklI : (k : Int) < (l.length : Int) := by omega
                          have hnd : ¬ (48 ≤ (l.getD k 0).toNat ∧ (l.getD k 0).toNat ≤ 57) := fun h => HOUT.out ⟨hkl, h⟩
                          obtain ⟨x, hx⟩ : ∃ x, x = (l.getD k 0).toNat := ⟨_, rfl⟩
                          rw [← hx] at hnd hkx
                          rcases (show ¬ (48 : Int) ≤ (x : Int) ∨ ((48 : Int) ≤ (x : Int) ∧ ¬ (x : Int) ≤ 57) by omega) with h48 | ⟨h48, h57⟩
                          · clear hnd hx HOUT
                            go_wp2_with fail
                            refine QI.out.mono ?_
                            rintro er w5 ⟨rfl, rfl⟩
                            go_wp2_with fail
                            go_ret2
                            rw [HE.out]
                            exact parsePost_none rfl (HBR.out.trans (HBI.out.mono HBR.out.size))
                          · clear hnd hx HOUT
                            go_wp2_with fail
                            refine QI.out.mono ?_
                            rintro er w5 ⟨rfl, rfl⟩
                            go_wp2_with fail
                            go_ret2
                            rw [HE.out]
                            exact parsePost_none rfl (HBR.out.trans (HBI.out.mono HBR.out.size))
                        · have hklI : ¬ (k : Int) < (l.length : Int) := by omega
                          clear HOUT
                          go_wp2_with fail
                          refine QI.out.mono ?_
                          rintro er w5 ⟨rfl, rfl⟩
                          go_wp2_with fail
                          go_ret2
                          rw [HE.out]
                          exact parsePost_none rfl (HBR.out.trans (HBI.out.mono HBR.out.size))
                      | some n =>
                        have hlt9 := word_len hi
                        have hn := (intSpec_some hi).2
                        rw [hi] at QI
                        simp only [retInt, Option.getD_some, Option.isSome_some] at QI
                        have QI := Lib.hid QI
                        have HGT := Lib.hid (show e < k by rw [HGE.out]; exact hlt9)
                        have HZF2 := Lib.hid (show ∀ x ∈ z ++ [n], x < 4294967296 from fun x hx => by
                          rcases List.mem_append.1 hx with h | h
                          · exact HZF.out x h
                          · simp at h; omega)
                        by_cases hkl : k < l.length
                        · obtain ⟨hkb, hkx⟩ := byte_at hkl
                          have hklI : (k : Int) < (l.length : Int) := by omega
                          have hnd : ¬ (48 ≤ (l.getD k 0).toNat ∧ (l.getD k 0).toNat ≤ 57) := fun h => HOUT.out ⟨hkl, h⟩
                          by_cases h44 : l.getD k 0 = 44
                          · have HMN := Lib.hid (show scanN true (l.drop (k + 1)) (z ++ [n]) = R by rw [← HMT.out, nums_more hi (by rw [← HGE.out]; exact hkl) (by rw [← HGE.out]; exact h44), ← HGE.out])
                            rw [h44] at hkx
                            have hcm : ((((⟨l.toArray⟩ : ByteArray)[k]'hkb).toNat : Int) == 44) = true := by rw [hkx]; rfl
                            have hg48 : ¬ (48 : Int) ≤ ((((⟨l.toArray⟩ : ByteArray)[k]'hkb).toNat : Nat) : Int) := by rw [hkx]; decide
                            have HKL := Lib.hid hkl
                            obtain ⟨W, hW⟩ : ∃ W, W = (l.drop e).takeWhile digB := ⟨_, rfl⟩
                            rw [← hW] at QI hext
                            clear hnd h44 hkx hi hW HOUT hlt9 hkl
                            go_wp2_with fail
                            refine QI.out.mono ?_
                            rintro er w5 ⟨rfl, rfl⟩
                            have hzl : z.length ≤ 1000 := by have h1 := HQZ.out; have h2 := HEL.out; omega
                            go_wp2_with (at_builtin; refine wpList_app_one' isU32 rfl (.tmp 68) (.tmp 71) rfl (wo.heap.size + 1) _ z.length (cells32 z) rfl wr [.int .u32 (n : Int)] rfl HO.out rfl rfl (by simp [Value.oneCell']) (by omega) HBL.out.lt ?_)
                            intro v6 w6 ho6 hg6
                            have hvb : some wo.heap.size ≠ (Value.slice A5 z.length d5).ownBlock := by
                              intro e9
                              have := (World.ownsRow.lt HO.out _ e9.symm).1
                              omega
                            have hk6 : Blk w6 wo.heap.size 53 [.int .i64 1, .slice A5 z.length d5] := (hg6.block _ HBL.out.lt hvb).trans HBL.out
                            have o6 : Own32 w6 (wo.heap.size + 1) v6 (z ++ [n]) := by
                              have e9 : (z ++ [n]).length = z.length + 1 := by simp
                              unfold Own32
                              rw [e9]
                              simpa [cells32] using ho6
                            obtain ⟨A6, d6, rfl, q1, q2'⟩ := o6.form
                            have el : (z ++ [n]).length = z.length + 1 := by simp
                            rw [el] at o6 q1
                            have c61 : w6.cell? ⟨wo.heap.size, 1, none⟩ = some (.slice A5 z.length d5) := hk6.cell 1
                            have f61 : w6.frozen? ⟨wo.heap.size, 1, none⟩ = false := hk6.free 1
                            have hk7 := hk6.set 1 (.slice A6 (z.length + 1) d6)
                            have c70 : (w6.setCell ⟨wo.heap.size, 1, none⟩ (.slice A6 (z.length + 1) d6)).cell? ⟨wo.heap.size, 0, none⟩ = some (.int .i64 1) := hk7.cell 0
                            have HK7 := Lib.hid hk7
                            have HB7 := Lib.hid (((HBI.out.grown hg6 (Nat.le_of_lt HBL.out.lt) (fun j hj => by have := (World.ownsRow.lt HO.out j hj).1; omega))).setCell (p := ⟨wo.heap.size, 1, none⟩) (Nat.le_refl _) (.slice A6 (z.length + 1) d6))
                            have HO7 := Lib.hid (own32_apart o6 (grown_setCell (grown_refl w6 (some wo.heap.size)) 1 (.slice A6 (z.length + 1) d6)) (Nat.lt_succ_self _))
                            clear c0 c1 ho6 hg6 hvb hk6 o6 el hk7
                            go_wp2_with fail
                            go_roundw
                            case rel => exact ⟨HB7.out, _, z ++ [n], k + 1, true, by have := HKL.out; omega, by first | rfl | go_num | rfl, rfl, HK7.out, HO7.out, HZF2, by have h1 := HQZ.out; have h2 := HGT.out; rw [List.length_append]; simp only [List.length_cons, List.length_nil]; omega, Lib.hid (fun _ => HMN.out), Lib.hid (fun e9 => by cases e9)⟩
                            case measure =>
                              have h1 := HGT.out
                              have h2 := HGLE.out.2
                              have h3 := HKL.out
                              simp [intOf]
                              omega
                          · have HRN := Lib.hid (show R = some (z ++ [n], l.drop k) by rw [← HMT.out, nums_end hi (fun _ h => h44 (by rw [← HGE.out] at h; exact h.2)), ← HGE.out])
                            have hcm : ((((⟨l.toArray⟩ : ByteArray)[k]'hkb).toNat : Int) == 44) = false := by
                              rw [hkx]
                              exact byte_beq h44
                            obtain ⟨x, hx⟩ : ∃ x, x = (l.getD k 0).toNat := ⟨_, rfl⟩
                            rw [← hx] at hnd hkx
                            obtain ⟨W, hW⟩ : ∃ W, W = (l.drop e).takeWhile digB := ⟨_, rfl⟩
                            rw [← hW] at QI hext
                            have hxm : ((x : Int) == 44) = false := by rw [hx]; exact byte_beq h44
                            rcases (show ¬ (48 : Int) ≤ (x : Int) ∨ ((48 : Int) ≤ (x : Int) ∧ ¬ (x : Int) ≤ 57) by omega) with h48 | ⟨h48, h57⟩
                            · clear hnd h44 hi hW HOUT hlt9 hkl hx
                              go_wp2_with fail
                              refine QI.out.mono ?_
                              rintro er w5 ⟨rfl, rfl⟩
                              have hzl : z.length ≤ 1000 := by have h1 := HQZ.out; have h2 := HEL.out; omega
                              go_wp2_with (at_builtin; refine wpList_app_one' isU32 rfl (.tmp 68) (.tmp 71) rfl (wo.heap.size + 1) _ z.length (cells32 z) rfl wr [.int .u32 (n : Int)] rfl HO.out rfl rfl (by simp [Value.oneCell']) (by omega) HBL.out.lt ?_)
                              intro v6 w6 ho6 hg6
                              have hvb : some wo.heap.size ≠ (Value.slice A5 z.length d5).ownBlock := by
                                intro e9
                                have := (World.ownsRow.lt HO.out _ e9.symm).1
                                omega
                              have hk6 : Blk w6 wo.heap.size 53 [.int .i64 1, .slice A5 z.length d5] := (hg6.block _ HBL.out.lt hvb).trans HBL.out
                              have o6 : Own32 w6 (wo.heap.size + 1) v6 (z ++ [n]) := by
                                have e9 : (z ++ [n]).length = z.length + 1 := by simp
                                unfold Own32
                                rw [e9]
                                simpa [cells32] using ho6
                              obtain ⟨A6, d6, rfl, q1, q2'⟩ := o6.form
                              have el : (z ++ [n]).length = z.length + 1 := by simp
                              rw [el] at o6 q1
                              have c61 : w6.cell? ⟨wo.heap.size, 1, none⟩ = some (.slice A5 z.length d5) := hk6.cell 1
                              have f61 : w6.frozen? ⟨wo.heap.size, 1, none⟩ = false := hk6.free 1
                              have hk7 := hk6.set 1 (.slice A6 (z.length + 1) d6)
                              have c70 : (w6.setCell ⟨wo.heap.size, 1, none⟩ (.slice A6 (z.length + 1) d6)).cell? ⟨wo.heap.size, 0, none⟩ = some (.int .i64 1) := hk7.cell 0
                              have HK7 := Lib.hid hk7
                              have HB7 := Lib.hid (((HBI.out.grown hg6 (Nat.le_of_lt HBL.out.lt) (fun j hj => by have := (World.ownsRow.lt HO.out j hj).1; omega))).setCell (p := ⟨wo.heap.size, 1, none⟩) (Nat.le_refl _) (.slice A6 (z.length + 1) d6))
                              have HO7 := Lib.hid (own32_apart o6 (grown_setCell (grown_refl w6 (some wo.heap.size)) 1 (.slice A6 (z.length + 1) d6)) (Nat.lt_succ_self _))
                              clear c0 c1 ho6 hg6 hvb hk6 o6 el hk7
                              go_wp2_with fail
                              go_roundw
                              case rel => exact ⟨HB7.out, _, z ++ [n], k, false, by omega, by first | rfl | go_num | rfl, rfl, HK7.out, HO7.out, HZF2, by have h1 := HQZ.out; have h2 := HGT.out; rw [List.length_append]; simp only [List.length_cons, List.length_nil]; omega, Lib.hid (fun e9 => by cases e9), Lib.hid (fun _ => HRN.out)⟩
                              case measure =>
                                have h1 := HGT.out
                                have h2 := HGLE.out.2
                                simp [intOf]
                                omega
                            · clear hnd h44 hi hW HOUT hlt9 hkl hx
                              go_wp2_with fail
                              refine QI.out.mono ?_
                              rintro er w5 ⟨rfl, rfl⟩
                              have hzl : z.length ≤ 1000 := by have h1 := HQZ.out; have h2 := HEL.out; omega
                              go_wp2_with (at_builtin; refine wpList_app_one' isU32 rfl (.tmp 68) (.tmp 71) rfl (wo.heap.size + 1) _ z.length (cells32 z) rfl wr [.int .u32 (n : Int)] rfl HO.out rfl rfl (by simp [Value.oneCell']) (by omega) HBL.out.lt ?_)
                              intro v6 w6 ho6 hg6
                              have hvb : some wo.heap.size ≠ (Value.slice A5 z.length d5).ownBlock := by
                                intro e9
                                have := (World.ownsRow.lt HO.out _ e9.symm).1
                                omega
                              have hk6 : Blk w6 wo.heap.size 53 [.int .i64 1, .slice A5 z.length d5] := (hg6.block _ HBL.out.lt hvb).trans HBL.out
                              have o6 : Own32 w6 (wo.heap.size + 1) v6 (z ++ [n]) := by
                                have e9 : (z ++ [n]).length = z.length + 1 := by simp
                                unfold Own32
                                rw [e9]
                                simpa [cells32] using ho6
                              obtain ⟨A6, d6, rfl, q1, q2'⟩ := o6.form
                              have el : (z ++ [n]).length = z.length + 1 := by simp
                              rw [el] at o6 q1
                              have c61 : w6.cell? ⟨wo.heap.size, 1, none⟩ = some (.slice A5 z.length d5) := hk6.cell 1
                              have f61 : w6.frozen? ⟨wo.heap.size, 1, none⟩ = false := hk6.free 1
                              have hk7 := hk6.set 1 (.slice A6 (z.length + 1) d6)
                              have c70 : (w6.setCell ⟨wo.heap.size, 1, none⟩ (.slice A6 (z.length + 1) d6)).cell? ⟨wo.heap.size, 0, none⟩ = some (.int .i64 1) := hk7.cell 0
                              have HK7 := Lib.hid hk7
                              have HB7 := Lib.hid (((HBI.out.grown hg6 (Nat.le_of_lt HBL.out.lt) (fun j hj => by have := (World.ownsRow.lt HO.out j hj).1; omega))).setCell (p := ⟨wo.heap.size, 1, none⟩) (Nat.le_refl _) (.slice A6 (z.length + 1) d6))
                              have HO7 := Lib.hid (own32_apart o6 (grown_setCell (grown_refl w6 (some wo.heap.size)) 1 (.slice A6 (z.length + 1) d6)) (Nat.lt_succ_self _))
                              clear c0 c1 ho6 hg6 hvb hk6 o6 el hk7
                              go_wp2_with fail
                              go_roundw
                              case rel => exact ⟨HB7.out, _, z ++ [n], k, false, by omega, by first | rfl | go_num | rfl, rfl, HK7.out, HO7.out, HZF2, by have h1 := HQZ.out; have h2 := HGT.out; rw [List.length_append]; simp only [List.length_cons, List.length_nil]; omega, Lib.hid (fun e9 => by cases e9), Lib.hid (fun _ => HRN.out)⟩
                              case measure =>
                                have h1 := HGT.out
                                have h2 := HGLE.out.2
                                simp [intOf]
                                omega
                        · have hklI : ¬ (k : Int) < (l.length : Int) := by omega
                          have HRN := Lib.hid (show R = some (z ++ [n], l.drop k) by rw [← HMT.out, nums_end hi (fun _ h => hkl (by rw [← HGE.out] at h; exact h.1)), ← HGE.out])
                          obtain ⟨W, hW⟩ : ∃ W, W = (l.drop e).takeWhile digB := ⟨_, rfl⟩
                          rw [← hW] at QI hext
                          clear hi hW HOUT hlt9
                          go_wp2_with fail
                          refine QI.out.mono ?_
                          rintro er w5 ⟨rfl, rfl⟩
                          have hzl : z.length ≤ 1000 := by have h1 := HQZ.out; have h2 := HEL.out; omega
                          go_wp2_with (at_builtin; refine wpList_app_one' isU32 rfl (.tmp 68) (.tmp 71) rfl (wo.heap.size + 1) _ z.length (cells32 z) rfl wr [.int .u32 (n : Int)] rfl HO.out rfl rfl (by simp [Value.oneCell']) (by omega) HBL.out.lt ?_)
                          intro v6 w6 ho6 hg6
                          have hvb : some wo.heap.size ≠ (Value.slice A5 z.length d5).ownBlock := by
                            intro e9
                            have := (World.ownsRow.lt HO.out _ e9.symm).1
                            omega
                          have hk6 : Blk w6 wo.heap.size 53 [.int .i64 1, .slice A5 z.length d5] := (hg6.block _ HBL.out.lt hvb).trans HBL.out
                          have o6 : Own32 w6 (wo.heap.size + 1) v6 (z ++ [n]) := by
                            have e9 : (z ++ [n]).length = z.length + 1 := by simp
                            unfold Own32
                            rw [e9]
                            simpa [cells32] using ho6
                          obtain ⟨A6, d6, rfl, q1, q2'⟩ := o6.form
                          have el : (z ++ [n]).length = z.length + 1 := by simp
                          rw [el] at o6 q1
                          have c61 : w6.cell? ⟨wo.heap.size, 1, none⟩ = some (.slice A5 z.length d5) := hk6.cell 1
                          have f61 : w6.frozen? ⟨wo.heap.size, 1, none⟩ = false := hk6.free 1
                          have hk7 := hk6.set 1 (.slice A6 (z.length + 1) d6)
                          have c70 : (w6.setCell ⟨wo.heap.size, 1, none⟩ (.slice A6 (z.length + 1) d6)).cell? ⟨wo.heap.size, 0, none⟩ = some (.int .i64 1) := hk7.cell 0
                          have HK7 := Lib.hid hk7
                          have HB7 := Lib.hid (((HBI.out.grown hg6 (Nat.le_of_lt HBL.out.lt) (fun j hj => by have := (World.ownsRow.lt HO.out j hj).1; omega))).setCell (p := ⟨wo.heap.size, 1, none⟩) (Nat.le_refl _) (.slice A6 (z.length + 1) d6))
                          have HO7 := Lib.hid (own32_apart o6 (grown_setCell (grown_refl w6 (some wo.heap.size)) 1 (.slice A6 (z.length + 1) d6)) (Nat.lt_succ_self _))
                          clear c0 c1 ho6 hg6 hvb hk6 o6 el hk7
                          go_wp2_with fail
                          go_roundw
                          case rel => exact ⟨HB7.out, _, z ++ [n], k, false, by omega, by first | rfl | go_num | rfl, rfl, HK7.out, HO7.out, HZF2, by have h1 := HQZ.out; have h2 := HGT.out; rw [List.length_append]; simp only [List.length_cons, List.length_nil]; omega, Lib.hid (fun e9 => by cases e9), Lib.hid (fun _ => HRN.out)⟩
                          case measure =>
                            have h1 := HGT.out
                            have h2 := HGLE.out.2
                            simp [intOf]
                            omega
                | false =>
                  have HMF := Lib.hid (hmf.out rfl)
                  clear hbi hblk hown hzf hqz hmt hmf
                  have Hq2 := Lib.hid (show q ≤ q2 by have := HQ2.out; omega)
                  by_cases hend : e < l.length ∧ l.getD e 0 = 125
                  · have HNXT := Lib.hid (HF.out.2 _ _ (((HSS.out.2 z e HMF.out).1) hend))
                    obtain ⟨hkl, h125⟩ := hend
                    obtain ⟨hkb, hkx⟩ := byte_at hkl
                    rw [h125] at hkx
                    have hclI : ¬ (l.length : Int) ≤ (e : Int) := by omega
                    have hklI : (e : Int) < (l.length : Int) := by omega
                    have hcm : ((((⟨l.toArray⟩ : ByteArray)[e]'hkb).toNat : Int) != 125) = false := by rw [hkx]; rfl
                    have HENDP := Lib.hid (show p < e + 1 by have h1 := HQZ.out; have h2 := HQP.out; have h3 := Hq2.out; omega)
                    have HKL := Lib.hid hkl
                    clear hkl h125 hkx
                    have hzl : z.length ≤ 1000 := by have h1 := HQZ.out; have h2 := HEL.out; omega
                    have HS7 := Lib.hid (HOW.out.below HBI.out)
                    have HO7 := Lib.hid (show Own32 wr (wo.heap.size + 1) (Sg.sl ⟨1, A5, d5, z⟩) z from HO.out)
                    have HBW := Lib.hid (HBR.out.trans (HBI.out.mono HBR.out.size))
                    go_wp2_with (at_builtin; refine wpList_app_one' isSeg rfl (.tmp 107) (.tmp 109) rfl w.heap.size _ _ _ rfl wr (Sg.two ⟨1, A5, d5, z⟩) rfl HS7.out.row rfl rfl (two_one _) (by have h1 := HML.out; have h2 := HPL.out; first | omega | (simp; done) | (simp at h1 ⊢; omega)) HBW.out.size ?_)
                    intro v8 w8 hown8 hg8
                    have HP := Lib.hid (OwnSegs.push (s := ⟨1, A5, d5, z⟩) HS7.out HO7.out (by have := HBR.out.size; omega) (fun x hx j hj => Nat.lt_succ_of_lt (HOW.out.blocks x hx j hj)) ⟨HZF.out, by show -9223372036854775808 ≤ (1 : Int) ∧ (1 : Int) ≤ 9223372036854775807; decide⟩ (by first | exact hown8 | (rw [List.length_append]; exact hown8)) hg8)
                    have HB9 := Lib.hid (HBW.out.grown hg8 HBW.out.size (fun j hj => (World.ownsRow.lt HS7.out.row j hj).1))
                    have HZ8 := Lib.hid (show wo.heap.size + 1 ≤ w8.heap.size from Nat.le_trans HBL.out.lt hg8.size)
                    clear c0 c1 hown8 hg8
                    go_wp2_with fail
                    go_roundw
                    case rel =>
                      refine ⟨HB9.out, _, wo.heap.size + 1, e + 1, HKL.out, by first | rfl | go_num, HP.out, (by have := HBR.out.size; omega), HZ8.out, ?_, ?_, Lib.hid ?_, Lib.hid ?_⟩
                      · have h1 := HML.out
                        have h2 := HQZ.out
                        have h3 := HQP.out
                        have h4 := Hq2.out
                        have h5 := HENDP.out
                        rw [List.length_append]
                        simp only [List.length_cons, List.length_nil] at h1 ⊢
                        omega
                      · rw [totN_snoc]
                        have h1 := HMT.out
                        have h2 := HQZ.out
                        have h3 := HQP.out
                        have h4 := Hq2.out
                        show totN _ + z.length ≤ _
                        omega
                      · intro e9
                        have h2 := HENDP.out
                        omega
                      · have h2 := HENDP.out
                        unfold scanFrom
                        rw [if_neg (by omega), List.map_append]
                        exact HNXT.out.symm
                    case measure =>
                      have h2 := HENDP.out
                      have h3 := HPL.out
                      have h4 := HEL.out
                      simp [intOf]
                      omega
                  · have HE := Lib.hid (show parseL l = none by rw [HPS.out, HF.out.1 ((HSS.out.2 z e HMF.out).2 hend)])
                    by_cases hkl : e < l.length
                    · obtain ⟨hkb, hkx⟩ := byte_at hkl
                      have hclI : ¬ (l.length : Int) ≤ (e : Int) := by omega
                      have hklI : (e : Int) < (l.length : Int) := by omega
                      have hcm : ((((⟨l.toArray⟩ : ByteArray)[e]'hkb).toNat : Int) != 125) = true := by
                        rw [hkx]
                        exact byte_bne (fun h => hend ⟨hkl, h⟩)
                      clear hkl hend hkx
                      go_wp2_with fail
                      go_ret2
                      rw [HE.out]
                      exact parsePost_none rfl (HBR.out.trans (HBI.out.mono HBR.out.size))
                    · have hclI : (l.length : Int) ≤ (e : Int) := by omega
                      clear hkl hend
                      go_wp2_with fail
                      go_ret2
                      rw [HE.out]
                      exact parsePost_none rfl (HBR.out.trans (HBI.out.mono HBR.out.size))
            · have hcq : ((((⟨l.toArray⟩ : ByteArray)[q]'hqbb).toNat : Int) == 123) = false := by
                rw [hqx]
                exact byte_beq hc
              have HQC := Lib.hid (show ¬ (q < l.length ∧ l.getD q 0 = 123) from fun e => hc e.2)
              clear hc hqx hql
              have HB1 := HBK
              have HBB := HBA
              have HSS := Lib.hid (scanS_seq HQC.out)
              have HqL := Lib.hid (show q ≤ l.length by exact HQL.out)
              obtain ⟨R, hR⟩ : ∃ R, R = scanN false (l.drop q) [] := ⟨_, rfl⟩
              have HRE := Lib.hid hR.symm
              rw [← hR] at HSS
              clear hR
              go_wp2_with fail
              have HQI := Lib.hid hqI
              clear hqI
              go_loopw [5, 7] (fun i more wr' => NumsRel wo wo.heap.size l 2 false q R i more wr') (fun i _ _ => l.length - (intOf i).toNat)
              case atStart => exact ⟨HBB.out, _, [], q, true, HqL.out, by first | rfl | exact congrArg (Value.int .i64) HQI.out, rfl, HB1.out, Own32.nil _ _, Lib.hid (by simp), Nat.le_refl _, Lib.hid (fun _ => HRE.out), Lib.hid (fun e => by cases e)⟩
              case round =>
                obtain ⟨hbi, v, z, e, mb, hel, rfl, rfl, hblk, hown, hzf, hqz, hmt, hmf⟩ := hrel
                obtain ⟨A5, d5, rfl, e1, e2⟩ := hown.form
                have c0 : wr.cell? ⟨wo.heap.size, 0, none⟩ = some (.int .i64 2) := hblk.cell 0
                have c1 : wr.cell? ⟨wo.heap.size, 1, none⟩ = some (.slice A5 z.length d5) := hblk.cell 1
                have HBI := Lib.hid hbi; have HBL := Lib.hid hblk; have HO := Lib.hid hown; have HZF := Lib.hid hzf.out; have HQZ := Lib.hid hqz; have HEL := Lib.hid hel
                have heb : (e : Int) ≤ 1000 := by omega
                cases mb with
                | true =>
                  have HMT := Lib.hid (hmt.out rfl)
                  clear hbi hblk hown hzf hqz hmt hmf
                  obtain ⟨g, hg⟩ : ∃ g, g = digEnd l e := ⟨_, rfl⟩
                  have hgle := digEnd_le hel
                  have HIN := Lib.hid (fun k (h1 : e ≤ k) (h2 : k < g) => digEnd_in h1 (by rw [← hg]; exact h2))
                  have HOUT := digEnd_out hel
                  rw [← hg] at hgle HOUT
                  have HOUT := Lib.hid HOUT
                  have HGLE := Lib.hid hgle
                  have HGE := Lib.hid hg
                  clear hg
                  go_wp2_with fail
                  go_loop [5] (fun i => ∃ k : Nat, e ≤ k ∧ k ≤ g ∧ i = .int .i64 (k : Int)) (fun i => l.length - (intOf i).toNat)
                  case atStart => exact ⟨e, Nat.le_refl _, HGLE.out.1, rfl⟩
                  case round =>
                    obtain ⟨k, hk1, hk2, rfl⟩ := hrel
                    by_cases hkg : k < g
                    · have hkl : k < l.length := by omega
                      obtain ⟨hkb, hkx⟩ := byte_at hkl
                      have hdig := HIN.out k hk1 hkg
                      unfold isDig at hdig
                      obtain ⟨x, hx⟩ : ∃ x, x = (l.getD k 0).toNat := ⟨_, rfl⟩
                      rw [← hx] at hkx hdig
                      have h48 : (48 : Int) ≤ (x : Int) := by omega
                      have h57 : (x : Int) ≤ 57 := by omega
                      have hklI : (k : Int) < (l.length : Int) := by omega
                      have hkbI : (k : Int) ≤ 1000 := by omega
                      have HKG := Lib.hid hkg; have HK1 := Lib.hid hk1
                      clear hx hdig hkg hk1 hk2
                      go_wp2_with fail
                      go_round
                      case rel => exact ⟨k + 1, by have := HK1.out; omega, HKG.out, by go_num⟩
                      case measure =>
                        simp [intOf]
                        omega
                    · obtain rfl : k = g := by omega
                      have hkbI : (k : Int) ≤ 1000 := by omega
                      have hke0 : (e : Int) ≤ (k : Int) := by omega
                      have hke1 : (k : Int) ≤ (l.length : Int) := by omega
                      have hext : (⟨l.toArray⟩ : ByteArray).extract e k = ⟨((l.drop e).takeWhile digB).toArray⟩ := by rw [ba_ext, HGE.out, word_cut]
                      have hwl : ((l.drop e).takeWhile digB).length ≤ maxLen := by
                        have := tw_le (l.drop e)
                        rw [List.length_drop] at this
                        unfold twN at this
                        unfold maxLen
                        omega
                      have QI := refInt_any ((l.drop e).takeWhile digB) wr hwl
                      have HWI := Lib.hid (fun (r : Option Nat) (h : intSpec ((l.drop e).takeWhile digB) = r) => h)
                      clear hwl
                      cases hi : intSpec ((l.drop e).takeWhile digB) with
                      | none =>
                        rw [hi] at QI
                        simp only [retInt, Option.getD_none, Option.isSome_none] at QI
                        have QI := Lib.hid QI
                        have HE := Lib.hid (show parseL l = none by
                          have h1 : R = none := by rw [← HMT.out]; exact nums_none hi
                          rw [HPS.out, HF.out.1 (HSS.out.1 h1)])
                        obtain ⟨W, hW⟩ : ∃ W, W = (l.drop e).takeWhile digB := ⟨_, rfl⟩
                        rw [← hW] at QI hext
                        clear hi hW c0 c1
                        by_cases hkl : k < l.length
                        · obtain ⟨hkb, hkx⟩ := byte_at hkl
                          have hklI : (k : Int) < (l.length : Int) := by omega
                          have hnd : ¬ (48 ≤ (l.getD k 0).toNat ∧ (l.getD k 0).toNat ≤ 57) := fun h => HOUT.out ⟨hkl, h⟩
                          obtain ⟨x, hx⟩ : ∃ x, x = (l.getD k 0).toNat := ⟨_, rfl⟩
                          rw [← hx] at hnd hkx
                          rcases (show ¬ (48 : Int) ≤ (x : Int) ∨ ((48 : Int) ≤ (x : Int) ∧ ¬ (x : Int) ≤ 57) by omega) with h48 | ⟨h48, h57⟩
                          · clear hnd hx HOUT
                            go_wp2_with fail
                            refine QI.out.mono ?_
                            rintro er w5 ⟨rfl, rfl⟩
                            go_wp2_with fail
                            go_ret2
                            rw [HE.out]
                            exact parsePost_none rfl (HBR.out.trans (HBI.out.mono HBR.out.size))
                          · clear hnd hx HOUT
                            go_wp2_with fail
                            refine QI.out.mono ?_
                            rintro er w5 ⟨rfl, rfl⟩
                            go_wp2_with fail
                            go_ret2
                            rw [HE.out]
                            exact parsePost_none rfl (HBR.out.trans (HBI.out.mono HBR.out.size))
                        · have hklI : ¬ (k : Int) < (l.length : Int) := by omega
                          clear HOUT
                          go_wp2_with fail
                          refine QI.out.mono ?_
                          rintro er w5 ⟨rfl, rfl⟩
                          go_wp2_with fail
                          go_ret2
                          rw [HE.out]
                          exact parsePost_none rfl (HBR.out.trans (HBI.out.mono HBR.out.size))
                      | some n =>
                        have hlt9 := word_len hi
                        have hn := (intSpec_some hi).2
                        rw [hi] at QI
                        simp only [retInt, Option.getD_some, Option.isSome_some] at QI
                        have QI := Lib.hid QI
                        have HGT := Lib.hid (show e < k by rw [HGE.out]; exact hlt9)
                        have HZF2 := Lib.hid (show ∀ x ∈ z ++ [n], x < 4294967296 from fun x hx => by
                          rcases List.mem_append.1 hx with h | h
                          · exact HZF.out x h
                          · simp at h; omega)
                        by_cases hkl : k < l.length
                        · obtain ⟨hkb, hkx⟩ := byte_at hkl
                          have hklI : (k : Int) < (l.length : Int) := by omega
                          have hnd : ¬ (48 ≤ (l.getD k 0).toNat ∧ (l.getD k 0).toNat ≤ 57) := fun h => HOUT.out ⟨hkl, h⟩
                          have HRN := Lib.hid (show R = some (z ++ [n], l.drop k) by rw [← HMT.out, nums_end hi (fun h => by cases h), ← HGE.out])
                          obtain ⟨x, hx⟩ : ∃ x, x = (l.getD k 0).toNat := ⟨_, rfl⟩
                          rw [← hx] at hnd hkx
                          obtain ⟨W, hW⟩ : ∃ W, W = (l.drop e).takeWhile digB := ⟨_, rfl⟩
                          rw [← hW] at QI hext
                          rcases (show ¬ (48 : Int) ≤ (x : Int) ∨ ((48 : Int) ≤ (x : Int) ∧ ¬ (x : Int) ≤ 57) by omega) with h48 | ⟨h48, h57⟩
                          · clear hnd hi hW HOUT hlt9 hkl hx
                            go_wp2_with fail
                            refine QI.out.mono ?_
                            rintro er w5 ⟨rfl, rfl⟩
                            have hzl : z.length ≤ 1000 := by have h1 := HQZ.out; have h2 := HEL.out; omega
                            go_wp2_with (at_builtin; refine wpList_app_one' isU32 rfl (.tmp 68) (.tmp 71) rfl (wo.heap.size + 1) _ z.length (cells32 z) rfl wr [.int .u32 (n : Int)] rfl HO.out rfl rfl (by simp [Value.oneCell']) (by omega) HBL.out.lt ?_)
                            intro v6 w6 ho6 hg6
                            have hvb : some wo.heap.size ≠ (Value.slice A5 z.length d5).ownBlock := by
                              intro e9
                              have := (World.ownsRow.lt HO.out _ e9.symm).1
                              omega
                            have hk6 : Blk w6 wo.heap.size 53 [.int .i64 2, .slice A5 z.length d5] := (hg6.block _ HBL.out.lt hvb).trans HBL.out
                            have o6 : Own32 w6 (wo.heap.size + 1) v6 (z ++ [n]) := by
                              have e9 : (z ++ [n]).length = z.length + 1 := by simp
                              unfold Own32
                              rw [e9]
                              simpa [cells32] using ho6
                            obtain ⟨A6, d6, rfl, q1, q2'⟩ := o6.form
                            have el : (z ++ [n]).length = z.length + 1 := by simp
                            rw [el] at o6 q1
                            have c61 : w6.cell? ⟨wo.heap.size, 1, none⟩ = some (.slice A5 z.length d5) := hk6.cell 1
                            have f61 : w6.frozen? ⟨wo.heap.size, 1, none⟩ = false := hk6.free 1
                            have hk7 := hk6.set 1 (.slice A6 (z.length + 1) d6)
                            have c70 : (w6.setCell ⟨wo.heap.size, 1, none⟩ (.slice A6 (z.length + 1) d6)).cell? ⟨wo.heap.size, 0, none⟩ = some (.int .i64 2) := hk7.cell 0
                            have HK7 := Lib.hid hk7
                            have HB7 := Lib.hid (((HBI.out.grown hg6 (Nat.le_of_lt HBL.out.lt) (fun j hj => by have := (World.ownsRow.lt HO.out j hj).1; omega))).setCell (p := ⟨wo.heap.size, 1, none⟩) (Nat.le_refl _) (.slice A6 (z.length + 1) d6))
                            have HO7 := Lib.hid (own32_apart o6 (grown_setCell (grown_refl w6 (some wo.heap.size)) 1 (.slice A6 (z.length + 1) d6)) (Nat.lt_succ_self _))
                            clear c0 c1 ho6 hg6 hvb hk6 o6 el hk7
                            go_wp2_with fail
                            go_roundw
                            case rel => exact ⟨HB7.out, _, z ++ [n], k, false, by omega, by first | rfl | go_num | rfl, rfl, HK7.out, HO7.out, HZF2, by have h1 := HQZ.out; have h2 := HGT.out; rw [List.length_append]; simp only [List.length_cons, List.length_nil]; omega, Lib.hid (fun e9 => by cases e9), Lib.hid (fun _ => HRN.out)⟩
                            case measure =>
                              have h1 := HGT.out
                              have h2 := HGLE.out.2
                              simp [intOf]
                              omega
                          · clear hnd hi hW HOUT hlt9 hkl hx
                            go_wp2_with fail
                            refine QI.out.mono ?_
                            rintro er w5 ⟨rfl, rfl⟩
                            have hzl : z.length ≤ 1000 := by have h1 := HQZ.out; have h2 := HEL.out; omega
                            go_wp2_with (at_builtin; refine wpList_app_one' isU32 rfl (.tmp 68) (.tmp 71) rfl (wo.heap.size + 1) _ z.length (cells32 z) rfl wr [.int .u32 (n : Int)] rfl HO.out rfl rfl (by simp [Value.oneCell']) (by omega) HBL.out.lt ?_)
                            intro v6 w6 ho6 hg6
                            have hvb : some wo.heap.size ≠ (Value.slice A5 z.length d5).ownBlock := by
                              intro e9
                              have := (World.ownsRow.lt HO.out _ e9.symm).1
                              omega
                            have hk6 : Blk w6 wo.heap.size 53 [.int .i64 2, .slice A5 z.length d5] := (hg6.block _ HBL.out.lt hvb).trans HBL.out
                            have o6 : Own32 w6 (wo.heap.size + 1) v6 (z ++ [n]) := by
                              have e9 : (z ++ [n]).length = z.length + 1 := by simp
                              unfold Own32
                              rw [e9]
                              simpa [cells32] using ho6
                            obtain ⟨A6, d6, rfl, q1, q2'⟩ := o6.form
                            have el : (z ++ [n]).length = z.length + 1 := by simp
                            rw [el] at o6 q1
                            have c61 : w6.cell? ⟨wo.heap.size, 1, none⟩ = some (.slice A5 z.length d5) := hk6.cell 1
                            have f61 : w6.frozen? ⟨wo.heap.size, 1, none⟩ = false := hk6.free 1
                            have hk7 := hk6.set 1 (.slice A6 (z.length + 1) d6)
                            have c70 : (w6.setCell ⟨wo.heap.size, 1, none⟩ (.slice A6 (z.length + 1) d6)).cell? ⟨wo.heap.size, 0, none⟩ = some (.int .i64 2) := hk7.cell 0
                            have HK7 := Lib.hid hk7
                            have HB7 := Lib.hid (((HBI.out.grown hg6 (Nat.le_of_lt HBL.out.lt) (fun j hj => by have := (World.ownsRow.lt HO.out j hj).1; omega))).setCell (p := ⟨wo.heap.size, 1, none⟩) (Nat.le_refl _) (.slice A6 (z.length + 1) d6))
                            have HO7 := Lib.hid (own32_apart o6 (grown_setCell (grown_refl w6 (some wo.heap.size)) 1 (.slice A6 (z.length + 1) d6)) (Nat.lt_succ_self _))
                            clear c0 c1 ho6 hg6 hvb hk6 o6 el hk7
                            go_wp2_with fail
                            go_roundw
                            case rel => exact ⟨HB7.out, _, z ++ [n], k, false, by omega, by first | rfl | go_num | rfl, rfl, HK7.out, HO7.out, HZF2, by have h1 := HQZ.out; have h2 := HGT.out; rw [List.length_append]; simp only [List.length_cons, List.length_nil]; omega, Lib.hid (fun e9 => by cases e9), Lib.hid (fun _ => HRN.out)⟩
                            case measure =>
                              have h1 := HGT.out
                              have h2 := HGLE.out.2
                              simp [intOf]
                              omega
                        · have hklI : ¬ (k : Int) < (l.length : Int) := by omega
                          have HRN := Lib.hid (show R = some (z ++ [n], l.drop k) by rw [← HMT.out, nums_end hi (fun _ h => hkl (by rw [← HGE.out] at h; exact h.1)), ← HGE.out])
                          obtain ⟨W, hW⟩ : ∃ W, W = (l.drop e).takeWhile digB := ⟨_, rfl⟩
                          rw [← hW] at QI hext
                          clear hi hW HOUT hlt9
                          go_wp2_with fail
                          refine QI.out.mono ?_
                          rintro er w5 ⟨rfl, rfl⟩
                          have hzl : z.length ≤ 1000 := by have h1 := HQZ.out; have h2 := HEL.out; omega
                          go_wp2_with (at_builtin; refine wpList_app_one' isU32 rfl (.tmp 68) (.tmp 71) rfl (wo.heap.size + 1) _ z.length (cells32 z) rfl wr [.int .u32 (n : Int)] rfl HO.out rfl rfl (by simp [Value.oneCell']) (by omega) HBL.out.lt ?_)
                          intro v6 w6 ho6 hg6
                          have hvb : some wo.heap.size ≠ (Value.slice A5 z.length d5).ownBlock := by
                            intro e9
                            have := (World.ownsRow.lt HO.out _ e9.symm).1
                            omega
                          have hk6 : Blk w6 wo.heap.size 53 [.int .i64 2, .slice A5 z.length d5] := (hg6.block _ HBL.out.lt hvb).trans HBL.out
                          have o6 : Own32 w6 (wo.heap.size + 1) v6 (z ++ [n]) := by
                            have e9 : (z ++ [n]).length = z.length + 1 := by simp
                            unfold Own32
                            rw [e9]
                            simpa [cells32] using ho6
                          obtain ⟨A6, d6, rfl, q1, q2'⟩ := o6.form
                          have el : (z ++ [n]).length = z.length + 1 := by simp
                          rw [el] at o6 q1
                          have c61 : w6.cell? ⟨wo.heap.size, 1, none⟩ = some (.slice A5 z.length d5) := hk6.cell 1
                          have f61 : w6.frozen? ⟨wo.heap.size, 1, none⟩ = false := hk6.free 1
                          have hk7 := hk6.set 1 (.slice A6 (z.length + 1) d6)
                          have c70 : (w6.setCell ⟨wo.heap.size, 1, none⟩ (.slice A6 (z.length + 1) d6)).cell? ⟨wo.heap.size, 0, none⟩ = some (.int .i64 2) := hk7.cell 0
                          have HK7 := Lib.hid hk7
                          have HB7 := Lib.hid (((HBI.out.grown hg6 (Nat.le_of_lt HBL.out.lt) (fun j hj => by have := (World.ownsRow.lt HO.out j hj).1; omega))).setCell (p := ⟨wo.heap.size, 1, none⟩) (Nat.le_refl _) (.slice A6 (z.length + 1) d6))
                          have HO7 := Lib.hid (own32_apart o6 (grown_setCell (grown_refl w6 (some wo.heap.size)) 1 (.slice A6 (z.length + 1) d6)) (Nat.lt_succ_self _))
                          clear c0 c1 ho6 hg6 hvb hk6 o6 el hk7
                          go_wp2_with fail
                          go_roundw
                          case rel => exact ⟨HB7.out, _, z ++ [n], k, false, by omega, by first | rfl | go_num | rfl, rfl, HK7.out, HO7.out, HZF2, by have h1 := HQZ.out; have h2 := HGT.out; rw [List.length_append]; simp only [List.length_cons, List.length_nil]; omega, Lib.hid (fun e9 => by cases e9), Lib.hid (fun _ => HRN.out)⟩
                          case measure =>
                            have h1 := HGT.out
                            have h2 := HGLE.out.2
                            simp [intOf]
                            omega
                | false =>
                  have HMF := Lib.hid (hmf.out rfl)
                  clear hbi hblk hown hzf hqz hmt hmf
                  have Hq := Lib.hid (show q ≤ q by omega)
                  have HNXT := Lib.hid (HF.out.2 _ _ (HSS.out.2 z _ HMF.out))
                  have HENDP := Lib.hid (show p < e by
                    have h1 := HQZ.out
                    have h2 := HQP.out
                    have h3 : z ≠ [] := by
                      intro e9
                      have h4 := HMF.out
                      rw [← HRE.out] at h4
                      obtain ⟨z', g1, g2, _⟩ := scanN_some _ _ _ _ _ _ (Nat.le_refl _) h4
                      rw [e9, List.nil_append] at g1
                      exact g2 g1.symm
                    have h5 := List.length_pos_iff.2 h3
                    omega)
                  have hzl : z.length ≤ 1000 := by have h1 := HQZ.out; have h2 := HEL.out; omega
                  have HS7 := Lib.hid (HOW.out.below HBI.out)
                  have HO7 := Lib.hid (show Own32 wr (wo.heap.size + 1) (Sg.sl ⟨2, A5, d5, z⟩) z from HO.out)
                  have HBW := Lib.hid (HBR.out.trans (HBI.out.mono HBR.out.size))
                  go_wp2_with (at_builtin; refine wpList_app_one' isSeg rfl (.tmp 107) (.tmp 109) rfl w.heap.size _ _ _ rfl wr (Sg.two ⟨2, A5, d5, z⟩) rfl HS7.out.row rfl rfl (two_one _) (by have h1 := HML.out; have h2 := HPL.out; first | omega | (simp; done) | (simp at h1 ⊢; omega)) HBW.out.size ?_)
                  intro v8 w8 hown8 hg8
                  have HP := Lib.hid (OwnSegs.push (s := ⟨2, A5, d5, z⟩) HS7.out HO7.out (by have := HBR.out.size; omega) (fun x hx j hj => Nat.lt_succ_of_lt (HOW.out.blocks x hx j hj)) ⟨HZF.out, by show -9223372036854775808 ≤ (2 : Int) ∧ (2 : Int) ≤ 9223372036854775807; decide⟩ (by first | exact hown8 | (rw [List.length_append]; exact hown8)) hg8)
                  have HB9 := Lib.hid (HBW.out.grown hg8 HBW.out.size (fun j hj => (World.ownsRow.lt HS7.out.row j hj).1))
                  have HZ8 := Lib.hid (show wo.heap.size + 1 ≤ w8.heap.size from Nat.le_trans HBL.out.lt hg8.size)
                  clear c0 c1 hown8 hg8
                  go_wp2_with fail
                  go_roundw
                  case rel =>
                    refine ⟨HB9.out, _, wo.heap.size + 1, e, HEL.out, by first | rfl | go_num, HP.out, (by have := HBR.out.size; omega), HZ8.out, ?_, ?_, Lib.hid ?_, Lib.hid ?_⟩
                    · have h1 := HML.out
                      have h2 := HQZ.out
                      have h3 := HQP.out
                      have h4 := Hq.out
                      have h5 := HENDP.out
                      rw [List.length_append]
                      simp only [List.length_cons, List.length_nil] at h1 ⊢
                      omega
                    · rw [totN_snoc]
                      have h1 := HMT.out
                      have h2 := HQZ.out
                      have h3 := HQP.out
                      have h4 := Hq.out
                      show totN _ + z.length ≤ _
                      omega
                    · intro e9
                      have h2 := HENDP.out
                      omega
                    · have h2 := HENDP.out
                      unfold scanFrom
                      rw [if_neg (by omega), List.map_append]
                      exact HNXT.out.symm
                  case measure =>
                    have h2 := HENDP.out
                    have h3 := HPL.out
                    have h4 := HEL.out
                    simp [intOf]
                    omega
          · have hqlI : ¬ (q : Int) < (l.length : Int) := by omega
            have HQC := Lib.hid (show ¬ (q < l.length ∧ l.getD q 0 = 123) from fun e => hql e.1)
            clear hql
            have HB1 := HBK
            have HBB := HBA
            have HSS := Lib.hid (scanS_seq HQC.out)
            have HqL := Lib.hid (show q ≤ l.length by exact HQL.out)
            obtain ⟨R, hR⟩ : ∃ R, R = scanN false (l.drop q) [] := ⟨_, rfl⟩
            have HRE := Lib.hid hR.symm
            rw [← hR] at HSS
            clear hR
            go_wp2_with fail
            have HQI := Lib.hid hqI
            clear hqI
            go_loopw [5, 7] (fun i more wr' => NumsRel wo wo.heap.size l 2 false q R i more wr') (fun i _ _ => l.length - (intOf i).toNat)
            case atStart => exact ⟨HBB.out, _, [], q, true, HqL.out, by first | rfl | exact congrArg (Value.int .i64) HQI.out, rfl, HB1.out, Own32.nil _ _, Lib.hid (by simp), Nat.le_refl _, Lib.hid (fun _ => HRE.out), Lib.hid (fun e => by cases e)⟩
            case round =>
              obtain ⟨hbi, v, z, e, mb, hel, rfl, rfl, hblk, hown, hzf, hqz, hmt, hmf⟩ := hrel
              obtain ⟨A5, d5, rfl, e1, e2⟩ := hown.form
              have c0 : wr.cell? ⟨wo.heap.size, 0, none⟩ = some (.int .i64 2) := hblk.cell 0
              have c1 : wr.cell? ⟨wo.heap.size, 1, none⟩ = some (.slice A5 z.length d5) := hblk.cell 1
              have HBI := Lib.hid hbi; have HBL := Lib.hid hblk; have HO := Lib.hid hown; have HZF := Lib.hid hzf.out; have HQZ := Lib.hid hqz; have HEL := Lib.hid hel
              have heb : (e : Int) ≤ 1000 := by omega
              cases mb with
              | true =>
                have HMT := Lib.hid (hmt.out rfl)
                clear hbi hblk hown hzf hqz hmt hmf
                obtain ⟨g, hg⟩ : ∃ g, g = digEnd l e := ⟨_, rfl⟩
                have hgle := digEnd_le hel
                have HIN := Lib.hid (fun k (h1 : e ≤ k) (h2 : k < g) => digEnd_in h1 (by rw [← hg]; exact h2))
                have HOUT := digEnd_out hel
                rw [← hg] at hgle HOUT
                have HOUT := Lib.hid HOUT
                have HGLE := Lib.hid hgle
                have HGE := Lib.hid hg
                clear hg
                go_wp2_with fail
                go_loop [5] (fun i => ∃ k : Nat, e ≤ k ∧ k ≤ g ∧ i = .int .i64 (k : Int)) (fun i => l.length - (intOf i).toNat)
                case atStart => exact ⟨e, Nat.le_refl _, HGLE.out.1, rfl⟩
                case round =>
                  obtain ⟨k, hk1, hk2, rfl⟩ := hrel
                  by_cases hkg : k < g
                  · have hkl : k < l.length := by omega
                    obtain ⟨hkb, hkx⟩ := byte_at hkl
                    have hdig := HIN.out k hk1 hkg
                    unfold isDig at hdig
                    obtain ⟨x, hx⟩ : ∃ x, x = (l.getD k 0).toNat := ⟨_, rfl⟩
                    rw [← hx] at hkx hdig
                    have h48 : (48 : Int) ≤ (x : Int) := by omega
                    have h57 : (x : Int) ≤ 57 := by omega
                    have hklI : (k : Int) < (l.length : Int) := by omega
                    have hkbI : (k : Int) ≤ 1000 := by omega
                    have HKG := Lib.hid hkg; have HK1 := Lib.hid hk1
                    clear hx hdig hkg hk1 hk2
                    go_wp2_with fail
                    go_round
                    case rel => exact ⟨k + 1, by have := HK1.out; omega, HKG.out, by go_num⟩
                    case measure =>
                      simp [intOf]
                      omega
                  · obtain rfl : k = g := by omega
                    have hkbI : (k : Int) ≤ 1000 := by omega
                    have hke0 : (e : Int) ≤ (k : Int) := by omega
                    have hke1 : (k : Int) ≤ (l.length : Int) := by omega
                    have hext : (⟨l.toArray⟩ : ByteArray).extract e k = ⟨((l.drop e).takeWhile digB).toArray⟩ := by rw [ba_ext, HGE.out, word_cut]
                    have hwl : ((l.drop e).takeWhile digB).length ≤ maxLen := by
                      have := tw_le (l.drop e)
                      rw [List.length_drop] at this
                      unfold twN at this
                      unfold maxLen
                      omega
                    have QI := refInt_any ((l.drop e).takeWhile digB) wr hwl
                    have HWI := Lib.hid (fun (r : Option Nat) (h : intSpec ((l.drop e).takeWhile digB) = r) => h)
                    clear hwl
                    cases hi : intSpec ((l.drop e).takeWhile digB) with
                    | none =>
                      rw [hi] at QI
                      simp only [retInt, Option.getD_none, Option.isSome_none] at QI
                      have QI := Lib.hid QI
                      have HE := Lib.hid (show parseL l = none by
                        have h1 : R = none := by rw [← HMT.out]; exact nums_none hi
                        rw [HPS.out, HF.out.1 (HSS.out.1 h1)])
                      obtain ⟨W, hW⟩ : ∃ W, W = (l.drop e).takeWhile digB := ⟨_, rfl⟩
                      rw [← hW] at QI hext
                      clear hi hW c0 c1
                      by_cases hkl : k < l.length
                      · obtain ⟨hkb, hkx⟩ := byte_at hkl
                        have hklI : (k : Int) < (l.length : Int) := by omega
                        have hnd : ¬ (48 ≤ (l.getD k 0).toNat ∧ (l.getD k 0).toNat ≤ 57) := fun h => HOUT.out ⟨hkl, h⟩
                        obtain ⟨x, hx⟩ : ∃ x, x = (l.getD k 0).toNat := ⟨_, rfl⟩
                        rw [← hx] at hnd hkx
                        rcases (show ¬ (48 : Int) ≤ (x : Int) ∨ ((48 : Int) ≤ (x : Int) ∧ ¬ (x : Int) ≤ 57) by omega) with h48 | ⟨h48, h57⟩
                        · clear hnd hx HOUT
                          go_wp2_with fail
                          refine QI.out.mono ?_
                          rintro er w5 ⟨rfl, rfl⟩
                          go_wp2_with fail
                          go_ret2
                          rw [HE.out]
                          exact parsePost_none rfl (HBR.out.trans (HBI.out.mono HBR.out.size))
                        · clear hnd hx HOUT
                          go_wp2_with fail
                          refine QI.out.mono ?_
                          rintro er w5 ⟨rfl, rfl⟩
                          go_wp2_with fail
                          go_ret2
                          rw [HE.out]
                          exact parsePost_none rfl (HBR.out.trans (HBI.out.mono HBR.out.size))
                      · have hklI : ¬ (k : Int) < (l.length : Int) := by omega
                        clear HOUT
                        go_wp2_with fail
                        refine QI.out.mono ?_
                        rintro er w5 ⟨rfl, rfl⟩
                        go_wp2_with fail
                        go_ret2
                        rw [HE.out]
                        exact parsePost_none rfl (HBR.out.trans (HBI.out.mono HBR.out.size))
                    | some n =>
                      have hlt9 := word_len hi
                      have hn := (intSpec_some hi).2
                      rw [hi] at QI
                      simp only [retInt, Option.getD_some, Option.isSome_some] at QI
                      have QI := Lib.hid QI
                      have HGT := Lib.hid (show e < k by rw [HGE.out]; exact hlt9)
                      have HZF2 := Lib.hid (show ∀ x ∈ z ++ [n], x < 4294967296 from fun x hx => by
                        rcases List.mem_append.1 hx with h | h
                        · exact HZF.out x h
                        · simp at h; omega)
                      by_cases hkl : k < l.length
                      · obtain ⟨hkb, hkx⟩ := byte_at hkl
                        have hklI : (k : Int) < (l.length : Int) := by omega
                        have hnd : ¬ (48 ≤ (l.getD k 0).toNat ∧ (l.getD k 0).toNat ≤ 57) := fun h => HOUT.out ⟨hkl, h⟩
                        have HRN := Lib.hid (show R = some (z ++ [n], l.drop k) by rw [← HMT.out, nums_end hi (fun h => by cases h), ← HGE.out])
                        obtain ⟨x, hx⟩ : ∃ x, x = (l.getD k 0).toNat := ⟨_, rfl⟩
                        rw [← hx] at hnd hkx
                        obtain ⟨W, hW⟩ : ∃ W, W = (l.drop e).takeWhile digB := ⟨_, rfl⟩
                        rw [← hW] at QI hext
                        rcases (show ¬ (48 : Int) ≤ (x : Int) ∨ ((48 : Int) ≤ (x : Int) ∧ ¬ (x : Int) ≤ 57) by omega) with h48 | ⟨h48, h57⟩
                        · clear hnd hi hW HOUT hlt9 hkl hx
                          go_wp2_with fail
                          refine QI.out.mono ?_
                          rintro er w5 ⟨rfl, rfl⟩
                          have hzl : z.length ≤ 1000 := by have h1 := HQZ.out; have h2 := HEL.out; omega
                          go_wp2_with (at_builtin; refine wpList_app_one' isU32 rfl (.tmp 68) (.tmp 71) rfl (wo.heap.size + 1) _ z.length (cells32 z) rfl wr [.int .u32 (n : Int)] rfl HO.out rfl rfl (by simp [Value.oneCell']) (by omega) HBL.out.lt ?_)
                          intro v6 w6 ho6 hg6
                          have hvb : some wo.heap.size ≠ (Value.slice A5 z.length d5).ownBlock := by
                            intro e9
                            have := (World.ownsRow.lt HO.out _ e9.symm).1
                            omega
                          have hk6 : Blk w6 wo.heap.size 53 [.int .i64 2, .slice A5 z.length d5] := (hg6.block _ HBL.out.lt hvb).trans HBL.out
                          have o6 : Own32 w6 (wo.heap.size + 1) v6 (z ++ [n]) := by
                            have e9 : (z ++ [n]).length = z.length + 1 := by simp
                            unfold Own32
                            rw [e9]
                            simpa [cells32] using ho6
                          obtain ⟨A6, d6, rfl, q1, q2'⟩ := o6.form
                          have el : (z ++ [n]).length = z.length + 1 := by simp
                          rw [el] at o6 q1
                          have c61 : w6.cell? ⟨wo.heap.size, 1, none⟩ = some (.slice A5 z.length d5) := hk6.cell 1
                          have f61 : w6.frozen? ⟨wo.heap.size, 1, none⟩ = false := hk6.free 1
                          have hk7 := hk6.set 1 (.slice A6 (z.length + 1) d6)
                          have c70 : (w6.setCell ⟨wo.heap.size, 1, none⟩ (.slice A6 (z.length + 1) d6)).cell? ⟨wo.heap.size, 0, none⟩ = some (.int .i64 2) := hk7.cell 0
                          have HK7 := Lib.hid hk7
                          have HB7 := Lib.hid (((HBI.out.grown hg6 (Nat.le_of_lt HBL.out.lt) (fun j hj => by have := (World.ownsRow.lt HO.out j hj).1; omega))).setCell (p := ⟨wo.heap.size, 1, none⟩) (Nat.le_refl _) (.slice A6 (z.length + 1) d6))
                          have HO7 := Lib.hid (own32_apart o6 (grown_setCell (grown_refl w6 (some wo.heap.size)) 1 (.slice A6 (z.length + 1) d6)) (Nat.lt_succ_self _))
                          clear c0 c1 ho6 hg6 hvb hk6 o6 el hk7
                          go_wp2_with fail
                          go_roundw
                          case rel => exact ⟨HB7.out, _, z ++ [n], k, false, by omega, by first | rfl | go_num | rfl, rfl, HK7.out, HO7.out, HZF2, by have h1 := HQZ.out; have h2 := HGT.out; rw [List.length_append]; simp only [List.length_cons, List.length_nil]; omega, Lib.hid (fun e9 => by cases e9), Lib.hid (fun _ => HRN.out)⟩
                          case measure =>
                            have h1 := HGT.out
                            have h2 := HGLE.out.2
                            simp [intOf]
                            omega
                        · clear hnd hi hW HOUT hlt9 hkl hx
                          go_wp2_with fail
                          refine QI.out.mono ?_
                          rintro er w5 ⟨rfl, rfl⟩
                          have hzl : z.length ≤ 1000 := by have h1 := HQZ.out; have h2 := HEL.out; omega
                          go_wp2_with (at_builtin; refine wpList_app_one' isU32 rfl (.tmp 68) (.tmp 71) rfl (wo.heap.size + 1) _ z.length (cells32 z) rfl wr [.int .u32 (n : Int)] rfl HO.out rfl rfl (by simp [Value.oneCell']) (by omega) HBL.out.lt ?_)
                          intro v6 w6 ho6 hg6
                          have hvb : some wo.heap.size ≠ (Value.slice A5 z.length d5).ownBlock := by
                            intro e9
                            have := (World.ownsRow.lt HO.out _ e9.symm).1
                            omega
                          have hk6 : Blk w6 wo.heap.size 53 [.int .i64 2, .slice A5 z.length d5] := (hg6.block _ HBL.out.lt hvb).trans HBL.out
                          have o6 : Own32 w6 (wo.heap.size + 1) v6 (z ++ [n]) := by
                            have e9 : (z ++ [n]).length = z.length + 1 := by simp
                            unfold Own32
                            rw [e9]
                            simpa [cells32] using ho6
                          obtain ⟨A6, d6, rfl, q1, q2'⟩ := o6.form
                          have el : (z ++ [n]).length = z.length + 1 := by simp
                          rw [el] at o6 q1
                          have c61 : w6.cell? ⟨wo.heap.size, 1, none⟩ = some (.slice A5 z.length d5) := hk6.cell 1
                          have f61 : w6.frozen? ⟨wo.heap.size, 1, none⟩ = false := hk6.free 1
                          have hk7 := hk6.set 1 (.slice A6 (z.length + 1) d6)
                          have c70 : (w6.setCell ⟨wo.heap.size, 1, none⟩ (.slice A6 (z.length + 1) d6)).cell? ⟨wo.heap.size, 0, none⟩ = some (.int .i64 2) := hk7.cell 0
                          have HK7 := Lib.hid hk7
                          have HB7 := Lib.hid (((HBI.out.grown hg6 (Nat.le_of_lt HBL.out.lt) (fun j hj => by have := (World.ownsRow.lt HO.out j hj).1; omega))).setCell (p := ⟨wo.heap.size, 1, none⟩) (Nat.le_refl _) (.slice A6 (z.length + 1) d6))
                          have HO7 := Lib.hid (own32_apart o6 (grown_setCell (grown_refl w6 (some wo.heap.size)) 1 (.slice A6 (z.length + 1) d6)) (Nat.lt_succ_self _))
                          clear c0 c1 ho6 hg6 hvb hk6 o6 el hk7
                          go_wp2_with fail
                          go_roundw
                          case rel => exact ⟨HB7.out, _, z ++ [n], k, false, by omega, by first | rfl | go_num | rfl, rfl, HK7.out, HO7.out, HZF2, by have h1 := HQZ.out; have h2 := HGT.out; rw [List.length_append]; simp only [List.length_cons, List.length_nil]; omega, Lib.hid (fun e9 => by cases e9), Lib.hid (fun _ => HRN.out)⟩
                          case measure =>
                            have h1 := HGT.out
                            have h2 := HGLE.out.2
                            simp [intOf]
                            omega
                      · have hklI : ¬ (k : Int) < (l.length : Int) := by omega
                        have HRN := Lib.hid (show R = some (z ++ [n], l.drop k) by rw [← HMT.out, nums_end hi (fun _ h => hkl (by rw [← HGE.out] at h; exact h.1)), ← HGE.out])
                        obtain ⟨W, hW⟩ : ∃ W, W = (l.drop e).takeWhile digB := ⟨_, rfl⟩
                        rw [← hW] at QI hext
                        clear hi hW HOUT hlt9
                        go_wp2_with fail
                        refine QI.out.mono ?_
                        rintro er w5 ⟨rfl, rfl⟩
                        have hzl : z.length ≤ 1000 := by have h1 := HQZ.out; have h2 := HEL.out; omega
                        go_wp2_with (at_builtin; refine wpList_app_one' isU32 rfl (.tmp 68) (.tmp 71) rfl (wo.heap.size + 1) _ z.length (cells32 z) rfl wr [.int .u32 (n : Int)] rfl HO.out rfl rfl (by simp [Value.oneCell']) (by omega) HBL.out.lt ?_)
                        intro v6 w6 ho6 hg6
                        have hvb : some wo.heap.size ≠ (Value.slice A5 z.length d5).ownBlock := by
                          intro e9
                          have := (World.ownsRow.lt HO.out _ e9.symm).1
                          omega
                        have hk6 : Blk w6 wo.heap.size 53 [.int .i64 2, .slice A5 z.length d5] := (hg6.block _ HBL.out.lt hvb).trans HBL.out
                        have o6 : Own32 w6 (wo.heap.size + 1) v6 (z ++ [n]) := by
                          have e9 : (z ++ [n]).length = z.length + 1 := by simp
                          unfold Own32
                          rw [e9]
                          simpa [cells32] using ho6
                        obtain ⟨A6, d6, rfl, q1, q2'⟩ := o6.form
                        have el : (z ++ [n]).length = z.length + 1 := by simp
                        rw [el] at o6 q1
                        have c61 : w6.cell? ⟨wo.heap.size, 1, none⟩ = some (.slice A5 z.length d5) := hk6.cell 1
                        have f61 : w6.frozen? ⟨wo.heap.size, 1, none⟩ = false := hk6.free 1
                        have hk7 := hk6.set 1 (.slice A6 (z.length + 1) d6)
                        have c70 : (w6.setCell ⟨wo.heap.size, 1, none⟩ (.slice A6 (z.length + 1) d6)).cell? ⟨wo.heap.size, 0, none⟩ = some (.int .i64 2) := hk7.cell 0
                        have HK7 := Lib.hid hk7
                        have HB7 := Lib.hid (((HBI.out.grown hg6 (Nat.le_of_lt HBL.out.lt) (fun j hj => by have := (World.ownsRow.lt HO.out j hj).1; omega))).setCell (p := ⟨wo.heap.size, 1, none⟩) (Nat.le_refl _) (.slice A6 (z.length + 1) d6))
                        have HO7 := Lib.hid (own32_apart o6 (grown_setCell (grown_refl w6 (some wo.heap.size)) 1 (.slice A6 (z.length + 1) d6)) (Nat.lt_succ_self _))
                        clear c0 c1 ho6 hg6 hvb hk6 o6 el hk7
                        go_wp2_with fail
                        go_roundw
                        case rel => exact ⟨HB7.out, _, z ++ [n], k, false, by omega, by first | rfl | go_num | rfl, rfl, HK7.out, HO7.out, HZF2, by have h1 := HQZ.out; have h2 := HGT.out; rw [List.length_append]; simp only [List.length_cons, List.length_nil]; omega, Lib.hid (fun e9 => by cases e9), Lib.hid (fun _ => HRN.out)⟩
                        case measure =>
                          have h1 := HGT.out
                          have h2 := HGLE.out.2
                          simp [intOf]
                          omega
              | false =>
                have HMF := Lib.hid (hmf.out rfl)
                clear hbi hblk hown hzf hqz hmt hmf
                have Hq := Lib.hid (show q ≤ q by omega)
                have HNXT := Lib.hid (HF.out.2 _ _ (HSS.out.2 z _ HMF.out))
                have HENDP := Lib.hid (show p < e by
                  have h1 := HQZ.out
                  have h2 := HQP.out
                  have h3 : z ≠ [] := by
                    intro e9
                    have h4 := HMF.out
                    rw [← HRE.out] at h4
                    obtain ⟨z', g1, g2, _⟩ := scanN_some _ _ _ _ _ _ (Nat.le_refl _) h4
                    rw [e9, List.nil_append] at g1
                    exact g2 g1.symm
                  have h5 := List.length_pos_iff.2 h3
                  omega)
                have hzl : z.length ≤ 1000 := by have h1 := HQZ.out; have h2 := HEL.out; omega
                have HS7 := Lib.hid (HOW.out.below HBI.out)
                have HO7 := Lib.hid (show Own32 wr (wo.heap.size + 1) (Sg.sl ⟨2, A5, d5, z⟩) z from HO.out)
                have HBW := Lib.hid (HBR.out.trans (HBI.out.mono HBR.out.size))
                go_wp2_with (at_builtin; refine wpList_app_one' isSeg rfl (.tmp 107) (.tmp 109) rfl w.heap.size _ _ _ rfl wr (Sg.two ⟨2, A5, d5, z⟩) rfl HS7.out.row rfl rfl (two_one _) (by have h1 := HML.out; have h2 := HPL.out; first | omega | (simp; done) | (simp at h1 ⊢; omega)) HBW.out.size ?_)
                intro v8 w8 hown8 hg8
                have HP := Lib.hid (OwnSegs.push (s := ⟨2, A5, d5, z⟩) HS7.out HO7.out (by have := HBR.out.size; omega) (fun x hx j hj => Nat.lt_succ_of_lt (HOW.out.blocks x hx j hj)) ⟨HZF.out, by show -9223372036854775808 ≤ (2 : Int) ∧ (2 : Int) ≤ 9223372036854775807; decide⟩ (by first | exact hown8 | (rw [List.length_append]; exact hown8)) hg8)
                have HB9 := Lib.hid (HBW.out.grown hg8 HBW.out.size (fun j hj => (World.ownsRow.lt HS7.out.row j hj).1))
                have HZ8 := Lib.hid (show wo.heap.size + 1 ≤ w8.heap.size from Nat.le_trans HBL.out.lt hg8.size)
                clear c0 c1 hown8 hg8
                go_wp2_with fail
                go_roundw
                case rel =>
                  refine ⟨HB9.out, _, wo.heap.size + 1, e, HEL.out, by first | rfl | go_num, HP.out, (by have := HBR.out.size; omega), HZ8.out, ?_, ?_, Lib.hid ?_, Lib.hid ?_⟩
                  · have h1 := HML.out
                    have h2 := HQZ.out
                    have h3 := HQP.out
                    have h4 := Hq.out
                    have h5 := HENDP.out
                    rw [List.length_append]
                    simp only [List.length_cons, List.length_nil] at h1 ⊢
                    omega
                  · rw [totN_snoc]
                    have h1 := HMT.out
                    have h2 := HQZ.out
                    have h3 := HQP.out
                    have h4 := Hq.out
                    show totN _ + z.length ≤ _
                    omega
                  · intro e9
                    have h2 := HENDP.out
                    omega
                  · have h2 := HENDP.out
                    unfold scanFrom
                    rw [if_neg (by omega), List.map_append]
                    exact HNXT.out.symm
                case measure =>
                  have h2 := HENDP.out
                  have h3 := HPL.out
                  have h4 := HEL.out
                  simp [intOf]
                  omega
        · have hce : ((((⟨l.toArray⟩ : ByteArray)[p]'hpb).toNat : Int) != 32) = true := by
            rw [hpx]
            exact byte_bne h32
          have HE := Lib.hid (show parseL l = none by rw [HPS.out, ← hscp, scanR_stop hlt h32])
          clear hbr hown hMl hMt hm0 hsc hlt h32 hpx hscp
          go_wp2_with fail
          go_ret2
          rw [HE.out]
          exact parsePost_none rfl HBR.out
    · obtain rfl : p = l.length := by omega
      have hA := scanFrom_end (acc := M.map Sg.abs) (fun e => by rw [hm0.out e]; rfl) hsc.out
      obtain ⟨A0, c0, rfl, g1, g2⟩ := hown.form
      have QN := Lib.hid (RefNorm3_any A0 c0 M wo hown.segs (by omega) (by omega))
      have QN2 := Lib.hid (fun W (hb : Below wo.heap.size wo W) => RefNorm3_any A0 c0 M W ((hown.segs.below hb (Nat.le_refl _)).lift hb.size) (by omega) (by omega))
      have hnt := norm_tot (M.map Sg.abs)
      rw [← tot_abs, List.length_map] at hnt
      have HNT := Lib.hid hnt
      have HMT := Lib.hid hMt; have HML := Lib.hid hMl
      have HPA := Lib.hid (show parseL l = if rightA (normL (M.map Sg.abs)) = true then some (normL (M.map Sg.abs)) else none by rw [HPS.out, hA])
      have HBR := Lib.hid hbr
      have hplI : ¬ (l.length : Int) < (l.length : Int) := by omega
      clear hown hbr hA hsc hm0 hnt hMt hMl g1 g2
      go_wp2_with fail
      refine QN.out.mono ?_
      rintro e w2 ⟨M2, A2, c2, rfl, hM2, f1, f2, hs2, hb2⟩
      have htM2 : totN M2 ≤ 1000 := by rw [tot_abs, hM2]; have h1 := HNT.out; have h2 := HMT.out; omega
      have QR := RefRight_any A2 c2 M2 w2 hs2 f1 f2 (by omega)
      rw [right_abs, hM2] at QR
      have QR := Lib.hid QR
      have HB2 := Lib.hid hb2
      clear hs2 hM2 f1 f2 hb2 htM2
      cases hra : rightA (normL (M.map Sg.abs)) with
      | true =>
        rw [hra] at QR
        rw [hra, if_pos rfl] at HPA
        clear hra
        go_wp2_with fail
        refine QR.out.mono ?_
        rintro e w3 ⟨rfl, rfl⟩
        go_wp2_with fail
        refine (QN2.out _ HB2.out).mono ?_
        rintro e w3 ⟨M3, A3, c3, rfl, hM3, f1, f2, hs3, hb3⟩
        go_wp2_with fail
        go_ret2
        rw [HPA.out]
        exact parsePost_some ⟨M3, A3, c3, rfl, hM3, f1, f2, hs3, HBR.out.trans ((HB2.out.trans (hb3.mono HB2.out.size)).mono HBR.out.size)⟩
      | false =>
        rw [hra] at QR
        rw [hra, if_neg (by decide)] at HPA
        clear hra
        go_wp2_with fail
        refine QR.out.mono ?_
        rintro e w3 ⟨rfl, rfl⟩
        go_wp2_with fail
        go_ret2
        rw [HPA.out]
        exact parsePost_none rfl (HBR.out.trans (HB2.out.mono HBR.out.size))
end Go.Proofs.YtiegfellgnfiiaaDoor

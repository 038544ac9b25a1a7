/-
  P22.2: lines that are short enough come out one by one: the walk.
-/
import Derived.Test.YtgbialnnfadlgaaLinesF22
import Derived.Deep.QuietTactic
import Derived.BigQuiet
namespace Go.Proofs.Ytgbialnnfadlgaa.QueueLines
set_option linter.unusedVariables false
set_option linter.unusedSimpArgs false
open Go.RowKit

theorem ten_not {n : Nat} (h : n ≠ 10) : ((n : Int) == 10) = false := by
  have : ¬ (n : Int) = 10 := by omega
  simpa using this
set_option maxRecDepth 100000 in
set_option maxHeartbeats 12800000 in
theorem walk (A : Option Addr) (c : Nat) (L : List (List UInt8)) (lo : Nat) (w : World) (hc : L.length ≤ c) (hcm : c ≤ maxLen) (hin : StrsIn w A L) (hlo : lo < 256) (hsz : ∀ s ∈ L, s.length ≤ maxLen) :
    Calls Try.prog 5 #[.slice A L.length c, .int .u8 (lo : Int)] w fun e w' => e = .returned (.bool true) ∧ Below w.heap.size w w' := by
  by_cases hl : 10 < (L.length : Int)
  · go_enter Try.func5, Try.ntmps5
    go_wp2_with fail
    refine (awake22_any _).mono ?_
    rintro e w1 ⟨rfl, hb⟩
    go_wp2_with fail
    go_ret
    exact ⟨rfl, hb⟩
  have HIN := Lib.hid hin; have HSZ := Lib.hid hsz
  clear hin hsz hc hcm
  go_enter Try.func5, Try.ntmps5
  go_wp2_with fail
  go_loopw [5, 6, 7] (fun va vi _ wr => wr = w ∧ ∃ i : Nat, i ≤ L.length ∧ vi = .int .i64 (i : Int) ∧ va = .string ⟨(joinN (L.take i)).toArray⟩ ∧ ∀ s ∈ L.take i, LineOk s) (fun _ i _ _ => L.length - (intOf i).toNat)
  case atStart => exact ⟨rfl, 0, Nat.zero_le _, rfl, rfl, fun s hs => by simp at hs⟩
  case round =>
    obtain ⟨rfl, i, hi, rfl, rfl, hok⟩ := hrel
    have HOK := Lib.hid hok
    clear hok
    by_cases hlt : i < L.length
    · have hi1 : (i : Int) < (L.length : Int) := by omega
      obtain ⟨s, hs⟩ : ∃ s, s = L.getD i [] := ⟨_, rfl⟩
      obtain ⟨b, off, rfl, hblt, hcell⟩ := HIN.out.cell hlt
      rw [← hs] at hcell
      have hsm : s.length ≤ 9223372036854775807 := by
        have : s ∈ L := by rw [hs]; simp [List.getD, hlt]
        have := HSZ.out s this
        unfold maxLen at this; omega
      have HS := Lib.hid hs
      clear hs hblt
      by_cases h20 : 20 < (s.length : Int)
      · go_wp2_with fail
        refine (awake22_any _).mono ?_
        rintro e w1 ⟨rfl, hb⟩
        go_wp2_with fail
        go_ret
        exact ⟨rfl, hb⟩
      · go_wp2_with fail
        go_loopw [7] (fun vk wx => wx = wr ∧ ∃ k : Nat, k ≤ s.length ∧ vk = .int .i64 (k : Int) ∧ ∀ x ∈ s.take k, x ≠ 10) (fun k _ => s.length - (intOf k).toNat)
        case atStart => exact ⟨rfl, 0, Nat.zero_le _, rfl, fun x hx => by simp at hx⟩
        case round =>
          obtain ⟨rfl, k, hk, rfl, hno⟩ := hrel
          have HNO := Lib.hid hno
          clear hno
          by_cases hkl : k < s.length
          · have hk1 : (k : Int) < (s.length : Int) := by omega
            have hix := fun w => index_byte22 s k (k : Int) rfl hkl w
            obtain ⟨bk, hbk⟩ : ∃ n, n = byN22 s k := ⟨_, rfl⟩
            rw [← hbk] at hix
            have HBK := Lib.hid hbk
            clear hbk
            by_cases hten : bk = 10
            · subst hten
              go_wp2_with fail
              refine (awake22_any _).mono ?_
              rintro e w1 ⟨rfl, hb⟩
              go_wp2_with fail
              go_ret
              exact ⟨rfl, hb⟩
            · have ht := ten_not hten
              have hti : ¬ (bk : Int) = 10 := by omega
              go_wp2_with fail
              go_roundw
              case rel =>
                refine ⟨(by trivial), k + 1, hkl, by simp, fun x hx => ?_⟩
                rw [take_snoc22 s k hkl 0] at hx
                rcases List.mem_append.1 hx with h | h
                · exact HNO.out x h
                · rw [List.mem_singleton.1 h]
                  exact byN_mem hkl (by rw [← HBK.out]; exact hten)
              case measure => simp only [intOf]; omega
          · have hk1 : ¬ (k : Int) < (s.length : Int) := by omega
            have hokS : LineOk s := ⟨by omega, by have := HNO.out; rw [List.take_of_length_le (by omega)] at this; exact this⟩
            have HOKS := Lib.hid hokS
            have hjl : (joinN (L.take i)).length ≤ 21 * i := by
              have := joinN_len (L.take i) (fun s hs => (HOK.out s hs).1)
              rw [List.length_take, Nat.min_eq_left hi] at this
              exact this
            have hc1 := fun w => cat_bytes22 (joinN (L.take i)) s (by omega) w
            have hc2 := fun w => (show (Op.stringOp .add ⟨(joinN (L.take i) ++ s).toArray⟩ ⟨#[10]⟩).run Try.prog w = .ok (.string ⟨(joinN (L.take i) ++ s ++ [10]).toArray⟩) w from cat_bytes22 (joinN (L.take i) ++ s) [10] (by simp; omega) w)
            clear hokS hjl
            obtain ⟨J, hJ⟩ : ∃ J, J = joinN (L.take i) := ⟨_, rfl⟩
            rw [← hJ] at hc1 hc2
            simp only [← hJ]
            obtain ⟨J1, hJ1⟩ : ∃ J1, J1 = J ++ s := ⟨_, rfl⟩
            rw [← hJ1] at hc1 hc2
            obtain ⟨J2, hJ2⟩ : ∃ J2, J2 = J1 ++ [10] := ⟨_, rfl⟩
            rw [← hJ2] at hc2
            have HJ := Lib.hid (show J2 = joinN (L.take (i + 1)) by rw [hJ2, hJ1, hJ, take_snoc22 L i hlt [], joinN_snoc, HS.out])
            clear hJ hJ1 hJ2
            go_wp2_with fail
            go_roundw
            case rel =>
              refine ⟨(by trivial), i + 1, hlt, by simp, by rw [HJ.out], fun x hx => ?_⟩
              rw [take_snoc22 L i hlt []] at hx
              rcases List.mem_append.1 hx with h | h
              · exact HOK.out x h
              · rw [List.mem_singleton.1 h, ← HS.out]
                exact HOKS.out
            case measure => simp only [intOf]; omega
    · have hi1 : ¬ (i : Int) < (L.length : Int) := by omega
      have hokL : ∀ s ∈ L, LineOk s := by have := HOK.out; rw [List.take_of_length_le (by omega)] at this; exact this
      rw [List.take_of_length_le (by omega)]
      have hjl := joinN_len L (fun s hs => (hokL s hs).1)
      have HL := Lib.hid hokL; have HJL := Lib.hid hjl
      clear hokL hjl HOK
      obtain ⟨J, hJ⟩ : ∃ J, J = joinN L := ⟨_, rfl⟩
      rw [← hJ] at HJL
      simp only [← hJ]
      have HJ := Lib.hid hJ
      clear hJ
      have hN0 : 0 ≤ (lo : Int) := by omega
      have hN1 : (lo : Int) < 256 := by omega
      go_wp2_with fail
      go_loopw [8, 9] (fun vf vi wx => wx = wr ∧ ∃ i : Nat, i ≤ 21 + lo ∧ vi = .int .i64 (i : Int) ∧ vf = .string ⟨(List.replicate i 120).toArray⟩) (fun _ i _ => 21 + lo - (intOf i).toNat)
      case atStart => exact ⟨rfl, 0, Nat.zero_le _, rfl, rfl⟩
      case round =>
        obtain ⟨rfl, f, hf, rfl, rfl⟩ := hrel
        obtain ⟨wx, rfl⟩ : ∃ w0, w0 = wr := ⟨_, rfl⟩
        by_cases hfl : f < 21 + lo
        · have hf1 : (f : Int) < 21 + (lo : Int) := by omega
          have hc3 := fun w => (show (Op.stringOp .add ⟨(List.replicate f 120).toArray⟩ ⟨#[120]⟩).run Try.prog w = .ok (.string ⟨(List.replicate (f + 1) 120).toArray⟩) w from (cat_bytes22 (List.replicate f 120) [120] (by simp; omega) w).trans (by rw [List.replicate_succ']))
          obtain ⟨F, hF⟩ : ∃ F : List UInt8, F = List.replicate f 120 := ⟨_, rfl⟩
          rw [← hF] at hc3
          simp only [← hF]
          clear hF
          go_wp2_with fail
          go_roundw
          case rel => exact ⟨(by trivial), f + 1, hfl, by simp, rfl⟩
          case measure => simp only [intOf]; omega
        · have hf1 : ¬ (f : Int) < 21 + (lo : Int) := by omega
          obtain ⟨F, hF⟩ : ∃ F : List UInt8, F = List.replicate f 120 := ⟨_, rfl⟩
          have hFl : F.length = f := by rw [hF, List.length_replicate]
          have hFn : eolN F = -1 := by rw [hF]; exact eolN_none _ (fun x hx => by rw [(List.mem_replicate.1 hx).2]; decide)
          have hFx : ∀ x ∈ F, x ≠ 10 := by rw [hF]; exact (fun x hx => by rw [(List.mem_replicate.1 hx).2]; decide)
          rw [← hF]
          have hc4 := fun w => cat_bytes22 J F (by have := HJL.out; rw [hFl]; omega) w
          obtain ⟨Z, hZ⟩ : ∃ Z, Z = J ++ F := ⟨_, rfl⟩
          rw [← hZ] at hc4
          have hZl : Z.length ≤ 486 := by have := HJL.out; rw [hZ, List.length_append, hFl]; omega
          obtain ⟨W1, hW1⟩ : ∃ W, W = wx.alloc (.cells #[.int .i64 2000, .slice none 0 0, .bool false] 48) := ⟨_, rfl⟩
          have N := Lib.hid (New22_any 2000 wx)
          have hq0 := Que.new 2000 wx
          rw [show mostN 2000 = 2000 from by decide] at N hq0
          rw [← hW1] at N hq0
          have hb1 : Below wx.heap.size wx W1 := by rw [hW1]; exact (Below.refl _ _).alloc (Nat.le_refl _) _
          clear hW1
          obtain ⟨cz, W2, hcv, hz1, hz2, hz3, hz4⟩ := bytes_of22 W1 Z (by omega)
          have hq1 := hq0.below hz4
          have hb2 := hb1.trans (hz4.mono hb1.size)
          have P := Put22_k wx.heap.size 2000 _ [] _ cz Z.length Z W2 hq1 hz3 hz1 hz2 (by simp; omega)
          rw [List.take_length] at P
          have HP := Lib.hid P; have HQ1 := Lib.hid hq1; have HB2 := Lib.hid hb2; have HZ := Lib.hid hZ; have HFL := Lib.hid hFl; have HFN := Lib.hid hFn; have HFX := Lib.hid hFx; have HFF := Lib.hid hf; have HGE := Lib.hid hf1
          clear P hq0 hq1 hb1 hb2 hz1 hz2 hz3 hz4 hZ hFl hFn hFx hF hf hf1 hfl hZl
          go_wp2_with fail
          refine N.out.mono ?_
          rintro e w3 ⟨rfl, rfl⟩
          go_wp2_with fail
          refine HP.out.mono ?_
          rintro e w4 ⟨rfl, v4, hq4, hk4⟩
          have hb4 := HB2.out.trans (hk4.below (Nat.le_refl _) (fun i hi => by cases hi) HB2.out.size)
          rw [List.nil_append] at hq4
          have HQ4 := Lib.hid hq4; have HB4 := Lib.hid hb4
          clear hq4 hk4 hb4 HP N hcv hc4
          go_wp2_with fail
          go_loopw [11, 12, 13, 14] (fun vi _ _ _ wy => ∃ (i : Nat) (v : Value), i ≤ L.length ∧ vi = .int .i64 (i : Int) ∧ Que wy wx.heap.size 2000 v (joinN (L.drop i) ++ F) false ∧ Below wx.heap.size wx wy) (fun i _ _ _ _ => L.length - (intOf i).toNat)
          case atStart => exact ⟨0, v4, Nat.zero_le _, rfl, by have := HQ4.out; rw [HZ.out, HJ.out] at this; exact this, HB4.out⟩
          case round =>
            obtain ⟨n, v, hn, rfl, hq, hb⟩ := hrel
            have HQ := Lib.hid hq; have HB := Lib.hid hb
            clear hq hb
            by_cases hnl : n < L.length
            · have hn1 : (n : Int) < (L.length : Int) := by omega
              obtain ⟨s, hs⟩ : ∃ s, s = L.getD n [] := ⟨_, rfl⟩
              have hmem : s ∈ L := by rw [hs]; simp [List.getD, hnl]
              have hok := HL.out s hmem
              have hq := HQ.out
              have hdr : joinN (L.drop n) ++ F = s ++ 10 :: (joinN (L.drop (n + 1)) ++ F) := by
                rw [drop_cons22 L n hnl [], ← hs]
                simp [joinN]
              rw [hdr] at hq
              have P := Line_in_pos wx.heap.size 2000 v _ false 20 _ hq (by decide) s.length (eolN_mid _ s hok.2) (by have := hok.1; omega)
              have ht : (s ++ 10 :: (joinN (L.drop (n + 1)) ++ F)).take s.length = s := List.take_left
              have hd : (s ++ 10 :: (joinN (L.drop (n + 1)) ++ F)).drop (s.length + 1) = joinN (L.drop (n + 1)) ++ F := by
                rw [← List.drop_drop, List.drop_left]; rfl
              rw [ht, hd] at P
              have HP := Lib.hid P; have HS := Lib.hid hs
              clear P hq hdr ht hd hok hmem
              go_wp2_with fail
              refine HP.out.mono ?_
              rintro e w5 ⟨A1, n1, v1, rfl, p1, p2, ho, hq5, hk5⟩
              have hb5 := HB.out.trans (hk5.below (Nat.le_refl _) (fun i hi => Nat.le_of_lt (HQ.out.2.1.lt hi).1) HB.out.size)
              have hcb : ∀ w', Below w5.heap.size w5 w' → (convert 29 9 (.slice A1 s.length n1)).run Try.prog w' = .ok (.string ⟨s.toArray⟩) w' := fun w' h => conv_bytes isBytes (d := 9) (by kernel_rfl) ((Own.bytes ho).below h) n1
              obtain ⟨b, off, rfl, hblt, hcell⟩ := HIN.out.cell hnl
              have hcell5 : w5.cell? ⟨b, off + n, none⟩ = some (.string ⟨s.toArray⟩) := (hb5.cell (p := ⟨b, off + n, none⟩) hblt).trans (by rw [hcell, HS.out])
              have hcb0 := hcb w5 (Below.refl _ _)
              have hcbn : ∀ k : Nat, (convert 29 9 (.slice A1 s.length n1)).run Try.prog (w5.drewN k) = .ok (.string ⟨s.toArray⟩) (w5.drewN k) := fun k => hcb _ (below_drewN (Below.refl _ _) k)
              have HQ5 := Lib.hid hq5; have HB5 := Lib.hid hb5
              clear hq5 hb5 hk5 ho p1 p2 hcell hblt hs hcb
              go_wp2_with fail
              go_quiet (fail)
              go_wp2_with fail
              go_roundw
              case rel => exact ⟨n + 1, v1, hnl, by simp, HQ5.out.below (below_drewN (Below.refl _ _) _), below_drewN HB5.out _⟩
              case measure => simp only [intOf]; omega
            · have hn1 : ¬ (n : Int) < (L.length : Int) := by omega
              have hq := HQ.out
              rw [List.drop_eq_nil_of_le (by omega), show joinN [] = [] from rfl, List.nil_append] at hq
              have HP1 := Lib.hid (Line_many_pos wx.heap.size 2000 v F false 20 _ hq (by decide) HFN.out (by have := HFL.out; have := HGE.out; omega))
              clear hq
              go_wp2_with fail
              refine HP1.out.mono ?_
              rintro e w5 ⟨rfl, hq5, hk5⟩
              have hb5 := HB.out.trans (hk5.below (Nat.le_refl _) (fun i hi => Nat.le_of_lt (HQ.out.2.1.lt hi).1) HB.out.size)
              have HQ5 := Lib.hid hq5; have HB5 := Lib.hid hb5
              clear hq5 hb5 hk5 HP1
              have hcv := Lib.run_convert_bytes_const (P := Try.prog) w5 29 5 #[.int .u8 121, .int .u8 121, .int .u8 10, .int .u8 110, .int .u8 101, .int .u8 120, .int .u8 116, .int .u8 10] 8 8 Try.underlying29 Try.underlying5
              go_wp2_with fail
              have hq6 := HQ5.out.below ((Below.refl w5.heap.size w5).alloc (Nat.le_refl _) (.cells #[.int .u8 121, .int .u8 121, .int .u8 10, .int .u8 110, .int .u8 101, .int .u8 120, .int .u8 116, .int .u8 10] 5 (8, 9)))
              have HY := Lib.hid (bytes_mark w5 5 [121, 121, 10, 110, 101, 120, 116, 10] (8, 9))
              refine (Put22_s wx.heap.size 2000 _ [] true _ 8 8 [121, 121, 10, 110, 101, 120, 116, 10] _ hq6 HY.out (.inr ⟨_, _, rfl⟩) (by simp) (by unfold maxLen; omega) (by decide)).mono ?_
              rintro e w6 ⟨rfl, v6, hq7, hk6⟩
              have hb6 := HB5.out.alloc HB5.out.size (.cells #[.int .u8 121, .int .u8 121, .int .u8 10, .int .u8 110, .int .u8 101, .int .u8 120, .int .u8 116, .int .u8 10] 5 (8, 9))
              have hb7 := hb6.trans (hk6.below (Nat.le_refl _) (fun i hi => by cases hi) hb6.size)
              rw [show ([] ++ (List.take 8 ([121, 121, 10, 110, 101, 120, 116, 10] : List UInt8)).drop (passN true (List.take 8 [121, 121, 10, 110, 101, 120, 116, 10]))) = ([110, 101, 120, 116, 10] : List UInt8) by decide +kernel, show passS true (List.take 8 ([121, 121, 10, 110, 101, 120, 116, 10] : List UInt8)) = false by decide +kernel] at hq7
              have HP2 := Lib.hid (Line_in_pos wx.heap.size 2000 v6 [110, 101, 120, 116, 10] false 20 w6 hq7 (by decide) 4 (by decide +kernel) (by decide))
              have HQ7 := Lib.hid hq7; have HB7 := Lib.hid hb7
              clear hq6 hk6 hb6 hb7 hq7
              go_wp2_with fail
              refine HP2.out.mono ?_
              rintro e w8 ⟨A1, n1, v8, rfl, p1, p2, ho, hq8, hk8⟩
              have hb8 := HB7.out.trans (hk8.below (Nat.le_refl _) (fun i hi => Nat.le_of_lt (HQ7.out.2.1.lt hi).1) HB7.out.size)
              have hcb : (convert 29 9 (.slice A1 4 n1)).run Try.prog w8 = .ok (.string ⟨#[110, 101, 120, 116]⟩) w8 := conv_bytes isBytes (d := 9) (by kernel_rfl) (Own.bytes ho) n1
              have HQ8 := Lib.hid hq8; have HB8 := Lib.hid hb8
              clear hq8 hb8 hk8 ho p1 p2 HP2
              go_wp2_with fail
              refine (Len22_any _ _ _ _ _ _ HQ8.out).mono ?_
              rintro e w9 ⟨rfl, rfl⟩
              go_wp2_with fail
              refine (awake22_any _).mono ?_
              rintro e w9 ⟨rfl, hb9⟩
              have HB9 := Lib.hid (HB8.out.trans (hb9.mono HB8.out.size))
              clear hb9
              go_wp2_with fail
              go_ret
              exact ⟨rfl, HB9.out⟩
end Go.Proofs.Ytgbialnnfadlgaa.QueueLines

/-
  The prefix of a text, by the document.
-/
import Derived.Test.YtcjeifpdikojlaaDoorRefPA
import Derived.Test.YtcjeifpdikojlaaDoorRefPText
import Derived.Test.YtcjeifpdikojlaaDoorRefCommon
namespace Go.Proofs.YtcjeifpdikojlaaDoor
set_option linter.unusedVariables false
set_option linter.unusedSimpArgs false
open Go.RowKit

theorem parseP_sound {l : List UInt8} {a n : Nat} (h : parseP l = some (a, n)) : addrOf (cutL l 47).1 = some a ∧ n ≤ 32 ∧ textP (a : Int) (n : Int) = l := by
  unfold parseP at h
  split at h
  · rename_i a' n' h1 h2
    split at h
    · rename_i hok
      cases h
      have hr := okP_range hok
      refine ⟨h1, by omega, ?_⟩
      have e : textP (a : Int) (n : Int) = addrL a ++ 47 :: dec n := by unfold textP; rw [hok]; simp
      rw [e, addrOf_sound h1, (intSpec_some h2).1]
      rcases cut_join l 47 with h3 | h3
      · rw [h3, intSpec_none_len (.inl rfl)] at h2
        cases h2
      · exact h3.symm
    · cases h
  · cases h
theorem parseP_hit {l : List UInt8} {a k : Nat} (ha : a < 4294967296) (hl : 0 < l.length) (h : textP (a : Int) (k : Int) = l) : parseP l = some (a, k) := by
  have h2 := parseP_textP a (k : Int) ha
  cases hok : okP (a : Int) (k : Int) with
  | false =>
    have e : textP (a : Int) (k : Int) = [] := by unfold textP; rw [hok]; rfl
    rw [← h, e] at hl
    simp at hl
  | true =>
    rw [h, hok] at h2
    exact h2
theorem parseP_miss {l : List UInt8} {a : Nat} (ha : addrOf (cutL l 47).1 = some a) (h : ∀ k : Nat, k < 33 → textP (a : Int) (k : Int) ≠ l) : parseP l = none := by
  cases hp : parseP l with
  | none => rfl
  | some x =>
    obtain ⟨b, n⟩ := x
    obtain ⟨h1, h2, h3⟩ := parseP_sound hp
    rw [ha] at h1
    cases h1
    exact absurd h3 (h n (by omega))

theorem Blk.alloc {w : World} {g t : Nat} {cs : List Value} (h : Blk w g t cs) (o : Obj) : Blk (w.alloc o) g t cs := h.below ((Below.refl w.heap.size w).alloc (Nat.le_refl _) o) h.lt

/-- The loop over all lengths. -/
def ParseRel (w : World) (l : List UInt8) (a : Nat) (i : Value) (wr : World) : Prop :=
  Below w.heap.size w wr ∧ Blk wr w.heap.size 33 [.int .u32 0, .int .i64 0] ∧ Blk wr (w.heap.size + 1) 33 [.int .u32 0, .int .i64 0] ∧
    ∃ k : Nat, k ≤ 33 ∧ i = .int .i64 (k : Int) ∧ Hid (∀ n, n < k → textP (a : Int) (n : Int) ≠ l)

set_option maxHeartbeats 6400000 in
theorem RefParse_any (l : List UInt8) (w : World) (hm : l.length ≤ maxLen) :
    Calls Tryd.prog 52 #[.string ⟨l.toArray⟩] w fun e w' => e = .returned (retParse (parseP l)) ∧ Below w.heap.size w w' := by
  have QP := fun (r : List UInt8) (h : r.length ≤ maxLen) W => Lib.hid (RefPA_any r W h)
  have QT := fun (a k : Nat) (ha : a < 4294967296) W => Lib.hid (RefPText_any a (k : Int) W ha)
  unfold maxLen at hm
  have hb0 := below_two w (.cells #[.int .u32 0, .int .i64 0] 33) (.cells #[.int .u32 0, .int .i64 0] 33)
  have kA := (Blk.new w 33 [.int .u32 0, .int .i64 0]).below ((Below.refl _ _).alloc (Nat.le_refl _) (.cells #[.int .u32 0, .int .i64 0] 33)) (by simp)
  have kB := Blk.new (w.alloc (.cells #[.int .u32 0, .int .i64 0] 33)) 33 [.int .u32 0, .int .i64 0]
  have eB : (w.alloc (.cells #[.int .u32 0, .int .i64 0] 33)).heap.size = w.heap.size + 1 := by simp
  rw [eB] at kB
  clear eB
  have cA := cells2 kA
  have fA := free2 kA
  have cB := cells2 kB
  have KA := Lib.hid kA
  have KB := Lib.hid kB
  clear kA kB
  go_enter Tryd.func52, Tryd.ntmps52
  go_wp2_with fail
  go_loop [5] (fun i => ∃ j : Nat, j ≤ l.length ∧ i = .int .i64 (j : Int) ∧ Hid (NoSign l 47 j)) (fun i => l.length - (intOf i).toNat)
  case atStart => exact ⟨0, by omega, rfl, Lib.hid (fun k h => by omega)⟩
  case round =>
    obtain ⟨j, hj, rfl, hN⟩ := hrel
    by_cases hlt : j < l.length
    · have hb : j < (⟨l.toArray⟩ : ByteArray).size := by simpa [ByteArray.size] using hlt
      by_cases hc : l.getD j 0 = 47
      · have hce : (((⟨l.toArray⟩ : ByteArray)[j].toNat : Int) != 47) = false := by rw [ba_at l j hb, hc]; rfl
        have HC := Lib.hid (cut_at l 47 j hlt hN.out hc)
        have hne : ((j : Int) == (l.length : Int)) = false := by simpa using (show ¬ (j : Int) = (l.length : Int) by omega)
        have hs : (⟨l.toArray⟩ : ByteArray).extract 0 j = ⟨(l.take j).toArray⟩ := by rw [ba_ext]; simp
        have qP := QP (l.take j) (by unfold maxLen; simp; omega)
        clear hN hc QP
        cases hA : addrOf (l.take j) with
        | none =>
          rw [hA] at qP
          have HE := Lib.hid (show parseP l = none from parseP_none (by rw [HC.out]; exact hA))
          simp only [retAddr, Option.getD_none, Option.isSome_none] at qP
          clear hA HC QT
          go_wp2_with fail
          refine (qP _).out.mono ?_
          rintro e w1 ⟨rfl, rfl⟩
          go_wp2_with fail
          go_loop [8] (fun i => i = .int .i64 0) (fun _ => 0)
          case atStart => rfl
          case round =>
            obtain rfl := hrel
            go_wp2_with fail
            refine bodyPost_ret (v := .tuple #[.agg #[.int .u32 0, .int .i64 0], .bool false]) (by simp [results, Tryd.results52, go_sem, (res_cells (.int .u32 0) (.int .i64 0) KA.out).1, (res_cells (.int .u32 0) (.int .i64 0) KA.out).2]) rfl ⟨by rw [HE.out]; rfl, ?_⟩
            exact hb0
        | some a =>
          have ha := addrOf_lt hA
          rw [hA] at qP
          simp only [retAddr, Option.getD_some, Option.isSome_some] at qP
          have hAC : addrOf (cutL l 47).1 = some a := by rw [HC.out]; exact hA
          have HAC := Lib.hid hAC
          have hl0 : 0 < l.length := by omega
          have qT := fun (k : Nat) W => QT a k ha W
          clear hA HC QT hAC
          go_wp2_with fail
          refine (qP _).out.mono ?_
          rintro e w1 ⟨rfl, rfl⟩
          clear qP
          go_wp2_with fail
          go_loopw [8] (fun i wr => ParseRel w l a i wr) (fun i _ => 33 - (intOf i).toNat)
          case atStart => exact ⟨hb0, KA.out, KB.out, 0, by omega, rfl, Lib.hid (fun n h => by omega)⟩
          case round =>
            clear cA cB fA KA KB hb0
            obtain ⟨hbr, kA, kB, k, hk, rfl, hno⟩ := hrel
            by_cases h33 : k = 33
            · subst h33
              have HE := Lib.hid (parseP_miss HAC.out hno.out)
              have cA := cells2 kA
              have fA := free2 kA
              have cB := cells2 kB
              have KA := Lib.hid kA
              clear kA kB hno HAC qT
              go_wp2_with fail
              refine bodyPost_ret (v := .tuple #[.agg #[.int .u32 0, .int .i64 0], .bool false]) (by simp [results, Tryd.results52, go_sem, (res_cells (.int .u32 0) (.int .i64 0) KA.out).1, (res_cells (.int .u32 0) (.int .i64 0) KA.out).2]) rfl ⟨by rw [HE.out]; rfl, ?_⟩
              exact below_set3 hbr (Nat.le_refl _)
            · have hk32 : k ≤ 32 := by omega
              have hkI : (k : Int) ≤ 32 := by omega
              clear h33
              have hbA := (Below.refl wr.heap.size wr).alloc (Nat.le_refl _) (.cells #[.int .u32 (a : Int), .int .i64 (k : Int)] 33)
              have g1 := cells2 (Blk.new wr 33 [.int .u32 (a : Int), .int .i64 (k : Int)])
              have HA := Lib.hid kA; have HB := Lib.hid kB
              have q2 := fun W => qT k W
              clear qT kA kB
              obtain ⟨T, hT⟩ : ∃ T, T = textP (a : Int) (k : Int) := ⟨_, rfl⟩
              rw [← hT] at q2
              by_cases hit : T = l
              · have HE := Lib.hid (parseP_hit ha hl0 (by rw [← hT]; exact hit))
                rw [hit] at q2
                clear hT hit hno
                go_wp2_with fail
                refine (q2 _).out.mono ?_
                rintro e w2 ⟨rfl, hb2⟩
                have hbB := hbA.trans (hb2.mono hbA.size)
                have g2 := cells2 ((Blk.new wr 33 [.int .u32 (a : Int), .int .i64 (k : Int)]).below hb2 (by simp))
                have kA := HA.out.below hbB HA.out.lt
                have cA := cells2 kA
                have fA := free2 kA
                have KA := Lib.hid kA
                clear kA g1
                go_wp2_with fail
                refine bodyPost_ret (v := .tuple #[.agg #[.int .u32 (a : Int), .int .i64 (k : Int)], .bool true]) (by simp [results, Tryd.results52, go_sem, (res_cells (.int .u32 (a : Int)) (.int .i64 (k : Int)) KA.out).1, (res_cells (.int .u32 (a : Int)) (.int .i64 (k : Int)) KA.out).2]) rfl ⟨by rw [HE.out]; rfl, ?_⟩
                exact below_set3 (hbr.trans (hbB.mono hbr.size)) (Nat.le_refl _)
              · have hT2 : (T == l) = false := by simpa using hit
                have HN := Lib.hid (show ∀ n, n < k + 1 → textP (a : Int) (n : Int) ≠ l from fun n hn => by
                  rcases Nat.lt_or_ge n k with h | h
                  · exact hno.out n h
                  · obtain rfl : n = k := by omega
                    rw [← hT]; exact hit)
                clear hT hit hno
                go_wp2_with fail
                refine (q2 _).out.mono ?_
                rintro e w2 ⟨rfl, hb2⟩
                have hbB := hbA.trans (hb2.mono hbA.size)
                clear g1
                go_wp2_with fail
                go_roundw
                case rel => exact ⟨hbr.trans (hbB.mono hbr.size), HA.out.below hbB HA.out.lt, HB.out.below hbB HB.out.lt, k + 1, by omega, by go_num, HN⟩
                case measure => simp [intOf]; omega
      · have hce : (((⟨l.toArray⟩ : ByteArray)[j].toNat : Int) != 47) = true := by
          rw [ba_at l j hb]
          have : ¬ (l.getD j 0).toNat = 47 := fun e => hc (UInt8.toNat_inj.1 (by rw [e]; rfl))
          simpa using (show ¬ ((l.getD j 0).toNat : Int) = 47 by omega)
        have HN := Lib.hid (hN.out.more (wd := 1) hc (fun k h1 h2 => by omega))
        clear hc hN QP QT
        go_wp2_with fail
        go_round
        case rel => exact ⟨j + 1, by omega, by go_num, HN⟩
        case measure => simp [intOf]; omega
    · obtain rfl : j = l.length := by omega
      have HE := Lib.hid (show parseP l = none by unfold parseP; rw [cut_none l 47 hN.out, intSpec_none_len (.inl rfl)]; split <;> first | rfl | (rename_i h; cases h))
      have he : ((l.length : Int) == (l.length : Int)) = true := by simp
      clear hN QP QT
      go_wp2_with fail
      refine bodyPost_ret (v := .tuple #[.agg #[.int .u32 0, .int .i64 0], .bool false]) (by simp [results, Tryd.results52, go_sem, (res_cells (.int .u32 0) (.int .i64 0) KA.out).1, (res_cells (.int .u32 0) (.int .i64 0) KA.out).2]) rfl ⟨by rw [HE.out]; rfl, ?_⟩
      exact hb0
end Go.Proofs.YtcjeifpdikojlaaDoor

/-
  The number of a text.
-/
import Derived.Test.YtcjeifpdikojlaaDoorCutW
import Derived.Test.YtcjeifpdikojlaaDoorInt
namespace Go.Proofs.YtcjeifpdikojlaaDoor
set_option linter.unusedVariables false
set_option linter.unusedSimpArgs false
open Go.RowKit

theorem cutL_len (l : List UInt8) (c : UInt8) : (cutL l c).1.length ≤ l.length ∧ (cutL l c).2.length ≤ l.length := by
  unfold cutL
  refine ⟨(List.takeWhile_sublist _).length_le, ?_⟩
  have h : (l.dropWhile (· != c)).length ≤ l.length := (List.dropWhile_sublist _).length_le
  simp only [List.length_drop]
  omega

/-- A part of a number's text. -/
def part8 (l : List UInt8) : Option Nat := match intSpec l with
  | none => none
  | some n => if n ≤ 255 then some n else none
/-- The number of a text of k + 1 parts, behind the number a. -/
def pa : Nat → Nat → List UInt8 → Option Nat
  | 0, a, l => (part8 l).map (fun n => a * 256 + n)
  | k + 1, a, l => match part8 (cutL l 46).1 with
    | none => none
    | some n => pa k (a * 256 + n) (cutL l 46).2
/-- The number of a text. -/
def addrOf (l : List UInt8) : Option Nat := pa 3 0 l
def retAddr (r : Option Nat) : Value := .tuple #[.int .u32 ((r.getD 0 : Nat) : Int), .bool r.isSome]

theorem join8 {a n : Nat} (ha : a < 16777216) (hn : n ≤ 255) : bits .or .u32 ((a : Int) * 256) (n : Int) = ((a * 256 + n : Nat) : Int) := by
  have e1 : ((a : Int) * 256) = ((a * 256 : Nat) : Int) := by omega
  rw [e1, u32_or_nat _ _ (by omega) (by omega), nat_join 8 _ _ (by omega) (by omega)]

theorem pow256_le {j : Nat} (h : j ≤ 3) : 256 ^ j ≤ 16777216 := by
  have h1 : 256 ^ j ≤ 256 ^ 3 := Nat.pow_le_pow_right (by decide) h
  have h2 : (256 : Nat) ^ 3 = 16777216 := by decide
  omega

set_option maxHeartbeats 3200000 in
theorem ParseAddr_any (l : List UInt8) (w : World) (hm : l.length ≤ maxLen) (ht : Tab w) :
    Calls Tryd.prog 65 #[.string ⟨l.toArray⟩] w fun e w' => e = .returned (retAddr (addrOf l)) ∧ Below w.heap.size w w' := by
  have QC := fun (r : List UInt8) (h : r.length ≤ maxLen) w => Lib.hid (cut_any r 46 w (by decide) h)
  have QI := fun (r : List UInt8) (h : r.length ≤ maxLen) w ht => Lib.hid (Int_any r w h ht)
  have HT := Lib.hid ht; clear ht
  go_enter Tryd.func65, Tryd.ntmps65
  go_wp2_with fail
  go_loopw [4, 5, 6, 7, 8, 9, 13] (fun v r _ _ _ _ i wr => ∃ (j a : Nat) (rest : List UInt8), j ≤ 3 ∧ i = .int .i64 (j : Int) ∧ v = .int .u32 (a : Int) ∧ r = .string ⟨rest.toArray⟩ ∧ a < 256 ^ j ∧ rest.length ≤ maxLen ∧ Hid (addrOf l = pa (3 - j) a rest) ∧ Below w.heap.size w wr) (fun _ _ _ _ _ _ i _ => 3 - (intOf i).toNat)
  case atStart => exact ⟨0, 0, l, by omega, rfl, rfl, rfl, by decide, hm, Lib.hid rfl, Below.refl _ _⟩
  case round =>
    obtain ⟨j, a, rest, hj, rfl, rfl, rfl, ha, hlen, hR, hbr⟩ := hrel
    have ha3 := Nat.lt_of_lt_of_le ha (pow256_le hj)
    by_cases hz : j = 3
    · subst hz
      have q47 := QI rest hlen wr (HT.out.below hbr HT.out.lt)
      have hR0 : addrOf l = (part8 rest).map (fun n => a * 256 + n) := hR.out
      clear QC QI hR
      cases hs : intSpec rest with
      | none =>
        rw [hs] at q47
        have e1 := Lib.hid (show addrOf l = none by rw [hR0]; unfold part8; rw [hs]; rfl)
        clear hR0 hs
        go_wp2_with fail
        refine q47.out.mono ?_
        rintro e w1 ⟨rfl, rfl⟩
        simp only [retInt, Option.getD_none, Option.isSome_none]
        go_wp2_with fail
        exact bodyPost_ret (v := retAddr none) (by simp [results, Tryd.results65, go_sem, retAddr]) rfl ⟨by rw [e1.out], hbr⟩
      | some n =>
        rw [hs] at q47
        by_cases hn : n ≤ 255
        · have e1 := Lib.hid (show addrOf l = some (a * 256 + n) by rw [hR0]; unfold part8; rw [hs]; simp [hn])
          have hn2 : ¬ (255 : Int) < (n : Int) := by omega
          have hn3 : (n : Int) ≤ 255 := by omega
          have hj8 := join8 ha3 hn
          clear hR0 hs
          go_wp2_with fail
          refine q47.out.mono ?_
          rintro e w1 ⟨rfl, rfl⟩
          simp only [retInt, Option.getD_some, Option.isSome_some]
          go_wp2_with fail
          exact bodyPost_ret (v := retAddr (some (a * 256 + n))) (by simp [results, Tryd.results65, go_sem, retAddr, hj8]) rfl ⟨by rw [e1.out], hbr⟩
        · have e1 := Lib.hid (show addrOf l = none by rw [hR0]; unfold part8; rw [hs]; simp [hn])
          have hn2 : (255 : Int) < (n : Int) := by omega
          clear hR0 hs
          go_wp2_with fail
          refine q47.out.mono ?_
          rintro e w1 ⟨rfl, rfl⟩
          simp only [retInt, Option.getD_some, Option.isSome_some]
          go_wp2_with fail
          exact bodyPost_ret (v := retAddr none) (by simp [results, Tryd.results65, go_sem, retAddr]) rfl ⟨by rw [e1.out], hbr⟩
    · have hj3 : (j : Int) < 3 := by omega
      have q46 := QC rest hlen wr
      have hcl := cutL_len rest 46
      obtain ⟨p, hp⟩ : ∃ p, p = (cutL rest 46).1 := ⟨_, rfl⟩
      obtain ⟨b, hb⟩ : ∃ b, b = (cutL rest 46).2 := ⟨_, rfl⟩
      have hR0 : addrOf l = pa (3 - j) a rest := hR.out
      have ej : 3 - j = (3 - (j + 1)) + 1 := by omega
      rw [ej, pa, ← hp, ← hb] at hR0
      unfold retCut at q46
      rw [← hp, ← hb] at q46 hcl
      have HP := Lib.hid hp; have HB := Lib.hid hb
      clear QC hR hp hb
      have q47 := fun w ht => QI p (by omega) w ht
      clear QI
      have HTr := HT.out.below hbr HT.out.lt
      cases hs : intSpec p with
      | none =>
        rw [hs] at q47
        have e1 := Lib.hid (show addrOf l = none by rw [hR0]; unfold part8; rw [hs])
        clear hR0 hs
        go_wp2_with fail
        refine q46.out.mono ?_
        rintro e w1 ⟨rfl, hb1⟩
        have hb1r := hbr.trans (hb1.mono hbr.size)
        go_wp2_with fail
        refine (q47 _ (HT.out.below hb1r HT.out.lt)).out.mono ?_
        rintro e w2 ⟨rfl, rfl⟩
        simp only [retInt, Option.getD_none, Option.isSome_none]
        go_wp2_with fail
        exact bodyPost_ret (v := retAddr none) (by simp [results, Tryd.results65, go_sem, retAddr]) rfl ⟨by rw [e1.out], hb1r⟩
      | some n =>
        rw [hs] at q47
        by_cases hn : n ≤ 255
        · have e1 := Lib.hid (show addrOf l = pa (3 - (j + 1)) (a * 256 + n) b by rw [hR0]; unfold part8; rw [hs]; simp [hn])
          have hn2 : ¬ (255 : Int) < (n : Int) := by omega
          have hn3 : (n : Int) ≤ 255 := by omega
          have hj8 := join8 ha3 hn
          have hpw : a * 256 + n < 256 ^ (j + 1) := by rw [Nat.pow_succ]; omega
          clear hR0 hs
          go_wp2_with fail
          refine q46.out.mono ?_
          rintro e w1 ⟨rfl, hb1⟩
          have hb1r := hbr.trans (hb1.mono hbr.size)
          go_wp2_with fail
          refine (q47 _ (HT.out.below hb1r HT.out.lt)).out.mono ?_
          rintro e w2 ⟨rfl, rfl⟩
          simp only [retInt, Option.getD_some, Option.isSome_some]
          go_wp2_with fail
          go_roundw
          case rel => exact ⟨j + 1, a * 256 + n, b, by omega, by go_num, by go_num, rfl, hpw, by omega, e1, hb1r⟩
          case measure => simp [intOf]; omega
        · have e1 := Lib.hid (show addrOf l = none by rw [hR0]; unfold part8; rw [hs]; simp [hn])
          have hn2 : (255 : Int) < (n : Int) := by omega
          clear hR0 hs
          go_wp2_with fail
          refine q46.out.mono ?_
          rintro e w1 ⟨rfl, hb1⟩
          have hb1r := hbr.trans (hb1.mono hbr.size)
          go_wp2_with fail
          refine (q47 _ (HT.out.below hb1r HT.out.lt)).out.mono ?_
          rintro e w2 ⟨rfl, rfl⟩
          simp only [retInt, Option.getD_some, Option.isSome_some]
          go_wp2_with fail
          exact bodyPost_ret (v := retAddr none) (by simp [results, Tryd.results65, go_sem, retAddr]) rfl ⟨by rw [e1.out], hb1r⟩
end Go.Proofs.YtcjeifpdikojlaaDoor

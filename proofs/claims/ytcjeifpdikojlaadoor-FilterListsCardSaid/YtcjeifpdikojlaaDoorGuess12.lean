/-
  The community that a text may be: filter's cut, pair, guess.
-/
import Derived.Test.YtcjeifpdikojlaaDoorComm12
import Derived.Test.YtcjeifpdikojlaaDoorParse
import Derived.Test.YtcjeifpdikojlaaDoorCutW
namespace Go.Proofs.YtcjeifpdikojlaaDoor
set_option linter.unusedVariables false
set_option linter.unusedSimpArgs false
open Go.RowKit

/-- What stands ahead of the first sign, and behind it; nothing without it. -/
def fcutL (l : List UInt8) (c : UInt8) : List UInt8 × List UInt8 := if c ∈ l then cutL l c else ([], [])
theorem fcut_at {l : List UInt8} {c : UInt8} {n : Nat} (h : n < l.length) (hs : NoSign l c n) (hc : l.getD n 0 = c) : fcutL l c = (l.take n, l.drop (n + 1)) := by
  have hm : c ∈ l := by
    have e : l.getD n 0 = l[n] := by simp [List.getD, h]
    rw [← hc, e]
    exact List.getElem_mem h
  unfold fcutL
  rw [if_pos hm]
  exact cut_at l c n h hs hc
theorem fcut_none {l : List UInt8} {c : UInt8} (hs : NoSign l c l.length) : fcutL l c = ([], []) := by
  have hm : ¬ c ∈ l := by
    intro h
    obtain ⟨n, hn, e⟩ := List.mem_iff_getElem.1 h
    exact hs n hn (by simp [List.getD, hn, e])
  unfold fcutL
  rw [if_neg hm]
theorem fcutL_len (l : List UInt8) (c : UInt8) : (fcutL l c).1.length ≤ l.length ∧ (fcutL l c).2.length ≤ l.length := by
  unfold fcutL
  split
  · have := cutL_len l c
    omega
  · simp

set_option maxHeartbeats 1600000 in
theorem fcut_any (l : List UInt8) (c : UInt8) (w : World) (hc : c.toNat < 128) (hm : l.length ≤ maxLen) :
    Calls Tryd.prog 49 #[.string ⟨l.toArray⟩, .int .i32 (c.toNat : Int)] w fun e w' => e = .returned (retCut (fcutL l c)) ∧ Below w.heap.size w w' := by
  unfold maxLen at hm
  have hit0 := World.iter_heap w ⟨l.toArray⟩ 0
  have hb0 : Below w.heap.size w (w.iter ⟨l.toArray⟩ 0) := (Below.refl _ _).alloc (Nat.le_refl _) _
  have hsz : (⟨l.toArray⟩ : ByteArray).size = l.length := rfl
  go_enter Tryd.func49, Tryd.ntmps49
  go_wp2_with fail
  go_loopw [6, 7] (fun _ _ wr => ∃ pos : Nat, pos ≤ l.length ∧ wr.heap[w.heap.size]? = some (.stringIter ⟨l.toArray⟩ pos) ∧ Below w.heap.size w wr ∧ Hid (NoSign l c pos)) (fun _ _ wr => l.length - wr.iterPos w.heap.size)
  case atStart => exact ⟨0, by omega, hit0, hb0, Lib.hid fun k hk => absurd hk (Nat.not_lt_zero k)⟩
  case round =>
    obtain ⟨pos, hps, hit, hbw, hns⟩ := hrel
    clear hit0 hb0
    have hszw : w.heap.size < wr.heap.size := (Array.getElem?_eq_some_iff.1 hit).1
    by_cases hp : pos < l.length
    · have hnx := fun ty => Lib.run_next_any_at (P := Tryd.prog) wr w.heap.size ⟨l.toArray⟩ pos ty hit hp
      obtain ⟨r, wd, hd, hr, hwd, hcase⟩ := next_sign l c hc pos hp hns.out
      rw [hd] at hnx
      have hit2 := Lib.iterAt_heap wr w.heap.size ⟨l.toArray⟩ pos (pos + wd) hit
      have hbw2 := Lib.below_iterAt hbw (k := w.heap.size) (by omega) ⟨l.toArray⟩ (pos + wd)
      have hmu : wr.iterPos w.heap.size = pos := by simp [World.iterPos, hit]
      rcases hcase with ⟨hrc, hat⟩ | ⟨hrc, hle, hns2⟩
      · have e1 := Lib.hid (fcut_at hp hns.out hat)
        have HD := Lib.hid hd; have HA := Lib.hid hat
        obtain rfl := hrc
        have x1 := ba_ext l 0 pos
        have x2 := ba_ext l (pos + 1) l.length
        rw [List.drop_zero] at x1
        rw [List.take_length] at x2
        have hle1 : ((pos : Int) + 1) ≤ (l.length : Int) := by omega
        clear hd hat hns
        go_wp2
        go_quiet (fail)
        go_wp2
        exact bodyPost_ret (v := retCut (l.take pos, l.drop (pos + 1))) (by simp [results, Tryd.results49, go_sem, retCut]) rfl ⟨by rw [e1.out], below_drewN hbw2 _⟩
      · have HN := Lib.hid hns2
        have hne : ¬ (r : Int) = (c.toNat : Int) := by omega
        clear hd hns2 hns
        go_wp2
        go_roundw
        case rel => exact ⟨pos + wd, hle, hit2, hbw2, HN⟩
        case measure =>
          rw [hmu]
          simp only [World.iterPos, hit2]
          omega
    · have hnx := fun ty => Lib.run_next_end_at (P := Tryd.prog) wr w.heap.size ⟨l.toArray⟩ pos ty hit hp
      obtain rfl : pos = l.length := by omega
      have e1 := Lib.hid (fcut_none hns.out)
      clear hns
      go_wp2
      exact bodyPost_ret (v := retCut ([], [])) (by simp [results, Tryd.results49, go_sem, retCut]) rfl ⟨by rw [e1.out], hbw⟩

/-- Two numbers with a sign between. -/
def retPair (x y : Option Nat) : Value := .tuple #[.int .i64 ((x.getD 0 : Nat) : Int), .int .i64 ((y.getD 0 : Nat) : Int), .bool (x.isSome && y.isSome)]

set_option maxHeartbeats 1600000 in
theorem pair_any (l : List UInt8) (c : UInt8) (w : World) (hc : c.toNat < 128) (hm : l.length ≤ maxLen) (ht : Tab w) :
    Calls Tryd.prog 51 #[.string ⟨l.toArray⟩, .int .i32 (c.toNat : Int)] w fun e w' => e = .returned (retPair (intSpec (fcutL l c).1) (intSpec (fcutL l c).2)) ∧ Below w.heap.size w w' := by
  have q := Lib.hid (fcut_any l c w hc hm)
  have hcl := fcutL_len l c
  obtain ⟨p, hp⟩ : ∃ p, p = (fcutL l c).1 := ⟨_, rfl⟩
  obtain ⟨b, hb⟩ : ∃ b, b = (fcutL l c).2 := ⟨_, rfl⟩
  unfold retCut at q
  rw [← hp, ← hb] at q hcl ⊢
  have QA := fun w ht => Lib.hid (Int_any p w (by omega) ht)
  have QI := fun w ht => Lib.hid (Int_any b w (by omega) ht)
  obtain ⟨x, hx⟩ : ∃ x, x = intSpec p := ⟨_, rfl⟩
  obtain ⟨y, hy⟩ : ∃ y, y = intSpec b := ⟨_, rfl⟩
  rw [← hx] at QA ⊢
  rw [← hy] at QI ⊢
  have HT := Lib.hid (fun (w' : World) (hb : Below w.heap.size w w') => ht.below hb ht.lt)
  clear ht hx hy hp hb hcl
  cases x with
  | none =>
    go_enter Tryd.func51, Tryd.ntmps51
    go_wp2_with fail
    refine q.out.mono ?_
    rintro e w1 ⟨rfl, hb1⟩
    go_wp2_with fail
    refine (QA _ (HT.out _ hb1)).out.mono ?_
    rintro e w2 ⟨rfl, rfl⟩
    simp only [retInt, Option.getD_none, Option.isSome_none, Option.getD_some, Option.isSome_some]
    go_wp2_with fail
    refine (QI _ (HT.out _ hb1)).out.mono ?_
    rintro e w2 ⟨rfl, rfl⟩
    simp only [retInt]
    go_wp2_with fail
    exact bodyPost_ret (v := retPair none y) (by simp [results, Tryd.results51, go_sem, retPair]) rfl ⟨rfl, hb1⟩
  | some x =>
    go_enter Tryd.func51, Tryd.ntmps51
    go_wp2_with fail
    refine q.out.mono ?_
    rintro e w1 ⟨rfl, hb1⟩
    go_wp2_with fail
    refine (QA _ (HT.out _ hb1)).out.mono ?_
    rintro e w2 ⟨rfl, rfl⟩
    simp only [retInt, Option.getD_none, Option.isSome_none, Option.getD_some, Option.isSome_some]
    go_wp2_with fail
    refine (QI _ (HT.out _ hb1)).out.mono ?_
    rintro e w2 ⟨rfl, rfl⟩
    simp only [retInt]
    go_wp2_with fail
    exact bodyPost_ret (v := retPair (some x) y) (by simp [results, Tryd.results51, go_sem, retPair]) rfl ⟨rfl, hb1⟩

/-- The community that a text may be. -/
def guessC (l : List UInt8) : Nat := if l = nmA then 4294967041 else if l = nmB then 4294967042 else if l = nmC then 4294967043 else
  ((intSpec (fcutL l 58).1).getD 0 * 65536 % 4294967296) ||| (intSpec (fcutL l 58).2).getD 0

theorem str_eq (l m : List UInt8) : ((⟨l.toArray⟩ : ByteArray) = ⟨m.toArray⟩) ↔ l = m := by
  constructor
  · intro h
    have := congrArg (fun b : ByteArray => b.data.toList) h
    simpa using this
  · rintro rfl; rfl

set_option maxHeartbeats 1600000 in
theorem guess_any (l : List UInt8) (w : World) (hm : l.length ≤ maxLen) (ht : Tab w) :
    Calls Tryd.prog 32 #[.string ⟨l.toArray⟩] w fun e w' => e = .returned (.int .u32 (guessC l : Nat)) ∧ Below w.heap.size w w' := by
  have qC := fun (c : Nat) (h : c < 4294967296) w ht => Lib.hid (Comm_any c w h ht)
  have qP := fun w ht => Lib.hid (pair_any l 58 w (by decide) hm ht)
  have hk0 := Blk.new w 22 [.int .u32 4294967041, .int .u32 4294967042, .int .u32 4294967043]
  have HT := Lib.hid (fun (w' : World) (hb : Below w.heap.size w w') => ht.below hb ht.lt)
  clear ht
  go_enter Tryd.func32, Tryd.ntmps32
  go_wp2_with fail
  go_loopw [10] (fun i wr => ∃ j : Nat, j ≤ 3 ∧ i = .int .i64 (j : Int) ∧ Below (w.heap.size + 1) (w.alloc (.cells #[.int .u32 4294967041, .int .u32 4294967042, .int .u32 4294967043] 22)) wr ∧ Hid ((0 < j → ¬ l = nmA) ∧ (1 < j → ¬ l = nmB) ∧ (2 < j → ¬ l = nmC))) (fun i _ => 3 - (intOf i).toNat)
  case atStart => exact ⟨0, by omega, rfl, Below.refl _ _, Lib.hid ⟨by omega, by omega, by omega⟩⟩
  case round =>
    obtain ⟨j, hj, rfl, hbr, hno⟩ := hrel
    have hbw : Below w.heap.size w wr := ((Below.refl _ _).alloc (Nat.le_refl _) _).trans (hbr.mono (by simp))
    have hkr := hk0.below hbr (by simp)
    have k0 : wr.cell? ⟨w.heap.size, 0, none⟩ = some (.int .u32 4294967041) := hkr.cell 0
    have k1 : wr.cell? ⟨w.heap.size, 1, none⟩ = some (.int .u32 4294967042) := hkr.cell 1
    have k2 : wr.cell? ⟨w.heap.size, 2, none⟩ = some (.int .u32 4294967043) := hkr.cell 2
    have HB := Lib.hid hbr
    clear hkr hbr
    rcases (show j = 0 ∨ j = 1 ∨ j = 2 ∨ j = 3 by omega) with rfl | rfl | rfl | rfl
    · have qA := qC 4294967041 (by decide) wr (HT.out _ hbw)
      rw [commL_A] at qA
      clear qC
      by_cases hA : l = nmA
      · have c1 : (l == nmA) = true := by simp [hA]
        have e1 := Lib.hid (show guessC l = 4294967041 by unfold guessC; rw [if_pos hA])
        clear hno hA
        go_wp2_with fail
        refine qA.out.mono ?_
        rintro e w1 ⟨rfl, hb1⟩
        go_wp2_with fail
        go_ret
        exact ⟨by rw [e1.out]; rfl, hbw.trans (hb1.mono hbw.size)⟩
      · have c1 : (l == nmA) = false := by simpa using hA
        have HN := Lib.hid (show (0 < 0 + 1 → ¬ l = nmA) ∧ (1 < 0 + 1 → ¬ l = nmB) ∧ (2 < 0 + 1 → ¬ l = nmC) from ⟨fun _ => hA, fun h => absurd h (by omega), fun h => absurd h (by omega)⟩)
        clear hno hA
        go_wp2_with fail
        refine qA.out.mono ?_
        rintro e w1 ⟨rfl, hb1⟩
        have HB1 := Lib.hid (HB.out.trans (hb1.mono (by have := HB.out.size; simpa using this)))
        go_wp2_with fail
        go_roundw
        case rel => exact ⟨1, by omega, by go_num, HB1.out, HN⟩
        case measure => simp [intOf]
    · have qA := qC 4294967042 (by decide) wr (HT.out _ hbw)
      rw [commL_B] at qA
      clear qC
      by_cases hA : l = nmB
      · have c1 : (l == nmB) = true := by simp [hA]
        have e1 := Lib.hid (show guessC l = 4294967042 by unfold guessC; rw [if_neg (hno.out.1 (by omega)), if_pos hA])
        clear hno hA
        go_wp2_with fail
        refine qA.out.mono ?_
        rintro e w1 ⟨rfl, hb1⟩
        go_wp2_with fail
        go_ret
        exact ⟨by rw [e1.out]; rfl, hbw.trans (hb1.mono hbw.size)⟩
      · have c1 : (l == nmB) = false := by simpa using hA
        have HN := Lib.hid (show (0 < 1 + 1 → ¬ l = nmA) ∧ (1 < 1 + 1 → ¬ l = nmB) ∧ (2 < 1 + 1 → ¬ l = nmC) from ⟨fun _ => hno.out.1 (by omega), fun _ => hA, fun h => absurd h (by omega)⟩)
        clear hno hA
        go_wp2_with fail
        refine qA.out.mono ?_
        rintro e w1 ⟨rfl, hb1⟩
        have HB1 := Lib.hid (HB.out.trans (hb1.mono (by have := HB.out.size; simpa using this)))
        go_wp2_with fail
        go_roundw
        case rel => exact ⟨2, by omega, by go_num, HB1.out, HN⟩
        case measure => simp [intOf]
    · have qA := qC 4294967043 (by decide) wr (HT.out _ hbw)
      rw [commL_C] at qA
      clear qC
      by_cases hA : l = nmC
      · have c1 : (l == nmC) = true := by simp [hA]
        have e1 := Lib.hid (show guessC l = 4294967043 by unfold guessC; rw [if_neg (hno.out.1 (by omega)), if_neg (hno.out.2.1 (by omega)), if_pos hA])
        clear hno hA
        go_wp2_with fail
        refine qA.out.mono ?_
        rintro e w1 ⟨rfl, hb1⟩
        go_wp2_with fail
        go_ret
        exact ⟨by rw [e1.out]; rfl, hbw.trans (hb1.mono hbw.size)⟩
      · have c1 : (l == nmC) = false := by simpa using hA
        have HN := Lib.hid (show (0 < 2 + 1 → ¬ l = nmA) ∧ (1 < 2 + 1 → ¬ l = nmB) ∧ (2 < 2 + 1 → ¬ l = nmC) from ⟨fun _ => hno.out.1 (by omega), fun _ => hno.out.2.1 (by omega), fun _ => hA⟩)
        clear hno hA
        go_wp2_with fail
        refine qA.out.mono ?_
        rintro e w1 ⟨rfl, hb1⟩
        have HB1 := Lib.hid (HB.out.trans (hb1.mono (by have := HB.out.size; simpa using this)))
        go_wp2_with fail
        go_roundw
        case rel => exact ⟨3, by omega, by go_num, HB1.out, HN⟩
        case measure => simp [intOf]
    · have e1 := Lib.hid (show guessC l = ((intSpec (fcutL l 58).1).getD 0 * 65536 % 4294967296) ||| (intSpec (fcutL l 58).2).getD 0 by unfold guessC; rw [if_neg (hno.out.1 (by omega)), if_neg (hno.out.2.1 (by omega)), if_neg (hno.out.2.2 (by omega))])
      have q1 := qP wr (HT.out _ hbw)
      have hx : (intSpec (fcutL l 58).1).getD 0 ≤ 4294967295 := by
        cases h : intSpec (fcutL l 58).1 with
        | none => simp
        | some n => exact (intSpec_some h).2
      have hy : (intSpec (fcutL l 58).2).getD 0 ≤ 4294967295 := by
        cases h : intSpec (fcutL l 58).2 with
        | none => simp
        | some n => exact (intSpec_some h).2
      unfold retPair at q1
      obtain ⟨x, hX⟩ : ∃ x, x = (intSpec (fcutL l 58).1).getD 0 := ⟨_, rfl⟩
      obtain ⟨y, hY⟩ : ∃ y, y = (intSpec (fcutL l 58).2).getD 0 := ⟨_, rfl⟩
      rw [← hX] at hx e1 q1
      rw [← hY] at hy e1 q1
      clear hno qC qP hX hY
      go_wp2_with fail
      refine q1.out.mono ?_
      rintro e w1 ⟨rfl, hb1⟩
      go_wp2_with fail
      go_ret
      refine ⟨?_, hbw.trans (hb1.mono hbw.size)⟩
      have e2 : bits .or .u32 ((x : Int) * 65536 % 4294967296) (y : Int) = ((x * 65536 % 4294967296 ||| y : Nat) : Int) := by
        have e3 : ((x : Int) * 65536 % 4294967296) = ((x * 65536 % 4294967296 : Nat) : Int) := by omega
        rw [e3, u32_or_nat _ _ (by omega) (by omega)]
      rw [e1.out, ← e2]
      rfl

/-- The community of a text, if it has one. -/
def parseC (l : List UInt8) : Option Nat := if commL (guessC l) = l then some (guessC l) else none
def retPC (r : Option Nat) : Value := .tuple #[.int .u32 ((r.getD 0 : Nat) : Int), .bool r.isSome]
theorem guessC_lt (l : List UInt8) : guessC l < 4294967296 := by
  unfold guessC
  repeat' split
  · decide
  · decide
  · decide
  · have h1 : ∀ m, (intSpec m).getD 0 ≤ 4294967295 := by
      intro m
      cases h : intSpec m with
      | none => simp
      | some n => exact (intSpec_some h).2
    have h2 := h1 (fcutL l 58).2
    exact Nat.or_lt_two_pow (n := 32) (Nat.mod_lt _ (by decide)) (by omega)

set_option maxHeartbeats 1600000 in
theorem PComm_any (l : List UInt8) (w : World) (hm : l.length ≤ maxLen) (ht : Tab w) :
    Calls Tryd.prog 10 #[.string ⟨l.toArray⟩] w fun e w' => e = .returned (retPC (parseC l)) ∧ Below w.heap.size w w' := by
  have q := Lib.hid (guess_any l w hm ht)
  have hg := guessC_lt l
  have HP : parseC l = if commL (guessC l) = l then some (guessC l) else none := rfl
  obtain ⟨g, hG⟩ : ∃ g, g = guessC l := ⟨_, rfl⟩
  rw [← hG] at q hg HP
  have qC := fun w ht => Lib.hid (Comm_any g w hg ht)
  have HT := Lib.hid (fun (w' : World) (hb : Below w.heap.size w w') => ht.below hb ht.lt)
  obtain ⟨r, hR⟩ : ∃ r, r = parseC l := ⟨_, rfl⟩
  rw [← hR] at HP ⊢
  obtain ⟨T, hT⟩ : ∃ T, T = commL g := ⟨_, rfl⟩
  rw [← hT] at qC HP
  clear ht hG hR hT
  by_cases hc : T = l
  · rw [if_pos hc] at HP
    have c1 : (T == l) = true := by simp [hc]
    have c2 : (T != l) = false := by simp [hc]
    have e1 := Lib.hid HP
    clear hc HP
    go_enter Tryd.func10, Tryd.ntmps10
    go_wp2_with fail
    refine q.out.mono ?_
    rintro e w1 ⟨rfl, hb1⟩
    go_wp2_with fail
    refine (qC _ (HT.out _ hb1)).out.mono ?_
    rintro e w2 ⟨rfl, hb2⟩
    go_wp2_with fail
    exact bodyPost_ret (v := retPC (some g)) (by simp [results, Tryd.results10, go_sem, retPC]) rfl ⟨by rw [e1.out], hb1.trans (hb2.mono hb1.size)⟩
  · rw [if_neg hc] at HP
    have c1 : (T == l) = false := by simpa using hc
    have c2 : (T != l) = true := by simpa using hc
    have e1 := Lib.hid HP
    clear hc HP
    go_enter Tryd.func10, Tryd.ntmps10
    go_wp2_with fail
    refine q.out.mono ?_
    rintro e w1 ⟨rfl, hb1⟩
    go_wp2_with fail
    refine (qC _ (HT.out _ hb1)).out.mono ?_
    rintro e w2 ⟨rfl, hb2⟩
    go_wp2_with fail
    exact bodyPost_ret (v := retPC none) (by simp [results, Tryd.results10, go_sem, retPC]) rfl ⟨by rw [e1.out], hb1.trans (hb2.mono hb1.size)⟩
end Go.Proofs.YtcjeifpdikojlaaDoor

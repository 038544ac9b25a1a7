/-
  The path of a text.
-/
import Derived.Test.YtlgfollajodpaaaDoorNorm
namespace Go.Proofs.YtlgfollajodpaaaDoor
set_option linter.unusedVariables false
set_option linter.unusedSimpArgs false
open Go.RowKit

/-- The parts that some words say, if all say one. -/
def segsL (ps : List (List UInt8)) : Option (List (Int × List Nat)) := if ps.all (fun p => (segL p).isSome) then some (ps.map fun p => (segL p).getD (0, [])) else none
theorem segsL_bad {ps : List (List UInt8)} {j : Nat} {p : List UInt8} (h : ps[j]? = some p) (hp : segL p = none) : segsL ps = none := by
  unfold segsL
  rw [if_neg]
  intro ha
  have := List.all_eq_true.1 ha p (List.mem_of_getElem? h)
  rw [hp] at this
  cases this
theorem segsL_end {ps : List (List UInt8)} (h : (ps.take ps.length).all (fun p => (segL p).isSome) = true) : segsL ps = some ((ps.take ps.length).map fun p => (segL p).getD (0, [])) := by
  rw [List.take_length] at h ⊢
  unfold segsL
  rw [if_pos h]
theorem segs_step {ps : List (List UInt8)} {j : Nat} {p : List UInt8} {r : Int × List Nat} (h : ps[j]? = some p) (hp : segL p = some r) (ha : (ps.take j).all (fun p => (segL p).isSome) = true) :
    (ps.take (j + 1)).all (fun p => (segL p).isSome) = true ∧ (ps.take (j + 1)).map (fun p => (segL p).getD (0, [])) = (ps.take j).map (fun p => (segL p).getD (0, [])) ++ [r] := by
  have hj := (List.getElem?_eq_some_iff.1 h).1
  have e : ps[j] = p := (List.getElem?_eq_some_iff.1 h).2
  rw [List.take_succ_eq_append_getElem hj, e]
  simp [List.all_append, ha, hp]
theorem numsL_fit {ps : List (List UInt8)} {z : List Nat} (h : numsL ps = some z) : z.length = ps.length ∧ ∀ x ∈ z, x < 4294967296 := by
  unfold numsL at h
  split at h
  · rename_i ha
    cases h
    refine ⟨by simp, fun x hx => ?_⟩
    obtain ⟨p, hp, rfl⟩ := List.mem_map.1 hx
    have h2 := List.all_eq_true.1 ha p hp
    cases hi : intSpec p with
    | none => rw [hi] at h2; cases h2
    | some n =>
      have := (intSpec_some hi).2
      simp
      omega
  · cases h
theorem segL_fit {l : List UInt8} {k : Int} {z : List Nat} (h : segL l = some (k, z)) : z.length ≤ l.length + 1 ∧ (∀ x ∈ z, x < 4294967296) ∧ (k = 1 ∨ k = 2) := by
  unfold segL at h
  split at h
  · rename_i hpre
    split at h
    · rename_i hsuf
      cases hn : numsL (splitL (Lib.trimSuffix (Lib.trimPrefix l [123]) [125]) 44) with
      | none => rw [hn] at h; cases h
      | some z2 =>
        rw [hn] at h
        simp only [Option.map_some, Option.some.injEq, Prod.mk.injEq] at h
        obtain ⟨rfl, rfl⟩ := h
        have h2 := numsL_fit hn
        have h3 := (split_len 44 (Lib.trimSuffix (Lib.trimPrefix l [123]) [125]) []).1
        have h4 : (Lib.trimSuffix (Lib.trimPrefix l [123]) [125]).length ≤ l.length := by
          unfold Lib.trimSuffix
          rw [if_pos hsuf, List.length_take]
          unfold Lib.trimPrefix
          rw [if_pos hpre, List.length_drop]
          omega
        refine ⟨?_, h2.2, .inl rfl⟩
        have h5 : z2.length = (splitGo 44 [] (Lib.trimSuffix (Lib.trimPrefix l [123]) [125])).length := h2.1
        omega
    · cases h
  · cases hn : numsL [l] with
    | none => rw [hn] at h; cases h
    | some z2 =>
      rw [hn] at h
      simp only [Option.map_some, Option.some.injEq, Prod.mk.injEq] at h
      obtain ⟨rfl, rfl⟩ := h
      have h2 := numsL_fit hn
      refine ⟨?_, h2.2, .inr rfl⟩
      have h5 := h2.1
      simp only [List.length_cons, List.length_nil] at h5
      omega
/-- May a path be, by its kinds and numbers alone? -/
def okA (s : Int × List Nat) : Bool := (s.1 == 1 || s.1 == 2) && (s.2.length != 0)
def totA (r : List (Int × List Nat)) : Nat := (r.map fun s => s.2.length).sum
def rightA (r : List (Int × List Nat)) : Bool := decide (r.length ≤ 8) && (r.all okA && decide (totA r ≤ 64))
theorem right_abs (M : List Sg) : rightB M = rightA (M.map Sg.abs) := by
  unfold rightB rightA totA totN
  rw [List.length_map, List.all_map, List.map_map]
  rfl
theorem tot_abs (M : List Sg) : totN M = totA (M.map Sg.abs) := by
  unfold totA totN
  rw [List.map_map]
  rfl
/-- The path of a text. -/
def parseL (l : List UInt8) : Option (List (Int × List Nat)) := if l = [] then some [] else match segsL (splitL l 32) with
  | none => none
  | some r => if rightA (normL r) then some (normL r) else none
/-- What a call leaves that returns a path of its own, or none. -/
def ParsePost (w : World) (r : Option (List (Int × List Nat))) (e : Ending) (w' : World) : Prop := match r with
  | none => e = .returned (.tuple #[.slice none 0 0, .bool false]) ∧ Below w.heap.size w w'
  | some r => ∃ (M : List Sg) (A : Option Addr) (c : Nat), e = .returned (.tuple #[.slice A M.length c, .bool true]) ∧ M.map Sg.abs = r ∧ M.length ≤ c ∧ c ≤ maxLen ∧ Segs w' w'.heap.size A M ∧ Below w.heap.size w w'
theorem parsePost_none {w w' : World} {e : Ending} (h1 : e = .returned (.tuple #[.slice none 0 0, .bool false])) (h2 : Below w.heap.size w w') : ParsePost w none e w' := ⟨h1, h2⟩
theorem parsePost_some {w w' : World} {e : Ending} {r : List (Int × List Nat)} (h : ∃ (M : List Sg) (A : Option Addr) (c : Nat), e = .returned (.tuple #[.slice A M.length c, .bool true]) ∧ M.map Sg.abs = r ∧ M.length ≤ c ∧ c ≤ maxLen ∧ Segs w' w'.heap.size A M ∧ Below w.heap.size w w') : ParsePost w (some r) e w' := h
/-- Norm makes no more parts, and no other numbers. -/
theorem norm_tot (r : List (Int × List Nat)) : totA (normL r) = totA r ∧ (normL r).length ≤ r.length := by
  have step : ∀ (acc : List (Int × List Nat)) (s : Int × List Nat), totA (normStep acc s) = totA acc + s.2.length ∧ (normStep acc s).length ≤ acc.length + 1 := by
    intro acc s
    rcases List.eq_nil_or_concat acc with rfl | ⟨a0, t, rfl⟩
    · simp [step_nil, totA]
    · rw [List.concat_eq_append]
      by_cases h : t.1 = 2 ∧ s.1 = 2
      · rw [step_more _ _ _ h.1 h.2]
        simp [totA]
        omega
      · rw [step_push _ _ _ h]
        simp [totA]
        omega
  have fold : ∀ (r acc : List (Int × List Nat)), totA (r.foldl normStep acc) = totA acc + totA r ∧ (r.foldl normStep acc).length ≤ acc.length + r.length := by
    intro r
    induction r with
    | nil => intro acc; simp [totA]
    | cons s r ih =>
      intro acc
      have h1 := ih (normStep acc s)
      have h2 := step acc s
      simp only [List.foldl_cons, List.length_cons]
      have e : totA (s :: r) = s.2.length + totA r := by simp [totA]
      omega
  have h := fold r []
  simp only [List.length_nil, Nat.zero_add] at h
  have e : totA [] = 0 := rfl
  rw [e] at h
  rw [Nat.zero_add] at h
  exact h

/-- What the loop over the words holds. -/
def WordRel (w1 : World) (ps : List (List UInt8)) (v i : Value) (wr : World) : Prop :=
  Below w1.heap.size w1 wr ∧ ∃ (M : List Sg) (H j : Nat), j ≤ ps.length ∧ i = .int .i64 (j : Int) ∧ OwnSegs wr w1.heap.size H v M ∧ M.length ≤ j ∧ totN M ≤ 1001 * j ∧ Hid ((ps.take j).all (fun p => (segL p).isSome) = true) ∧ Hid (M.map Sg.abs = (ps.take j).map fun p => (segL p).getD (0, []))

set_option maxHeartbeats 12800000 in
theorem Parse3_any (l : List UInt8) (w : World) (hl : l.length ≤ 1000) (ht : Tab w) :
    Calls Tryd.prog 14 #[.string ⟨l.toArray⟩] w (ParsePost w (parseL l)) := by
  by_cases h0 : l = []
  · subst h0
    go_enter Tryd.func14, Tryd.ntmps14
    go_wp2_with fail
    exact bodyPost_ret (v := .tuple #[.slice none 0 0, .bool true]) (by simp [results, Tryd.results14, go_sem]) rfl (parsePost_some ⟨[], none, 0, rfl, rfl, by simp, by simp, Segs.nil _ _ _, Below.refl _ _⟩)
  · have HPL := Lib.hid (show parseL l = (match segsL (splitL l 32) with | none => none | some r => if rightA (normL r) then some (normL r) else none) by unfold parseL; rw [if_neg h0])
    have he : l.isEmpty = false := by cases l with | nil => exact absurd rfl h0 | cons x l => rfl
    have hpn := split_len 32 l []
    have hpm : ∀ p ∈ splitL l 32, p.length ≤ 1000 := fun p hp => by have := split_mem l [] p hp; simp at this; omega
    change (splitL l 32).length ≤ l.length + 1 ∧ 0 < (splitL l 32).length at hpn
    have q1 := Lib.hid (show Calls Tryd.prog 26 #[.string ⟨l.toArray⟩, .int .i32 32] w (RetS w (splitL l 32)) from cut3_any l 32 w (by decide) (by omega))
    obtain ⟨R, hR⟩ : ∃ R, R = splitL l 32 := ⟨_, rfl⟩
    rw [← hR] at q1 hpn hpm HPL
    have HT := Lib.hid ht
    clear hR h0 ht
    go_enter Tryd.func14, Tryd.ntmps14
    go_wp2_with fail
    refine q1.out.mono ?_
    rintro e w1 ⟨A1, c1, rfl, f1, f2, hat, hb1⟩
    obtain ⟨b, off, rfl, hbb, hcell⟩ := hat (by intro e; rw [e] at hpn; simp at hpn)
    have HC := Lib.hid (And.intro hbb hcell)
    have HB1 := Lib.hid hb1
    have HPM := Lib.hid hpm
    have hRl : R.length ≤ 1001 := by omega
    clear hbb hcell hb1 hpm hpn q1
    go_wp2_with fail
    go_loopw [4, 14] (fun v i wr => WordRel w1 R v i wr) (fun _ i _ => R.length - (intOf i).toNat)
    case atStart => exact ⟨Below.refl _ _, [], w1.heap.size, 0, by omega, rfl, OwnSegs.nil _ _ _, by simp, by simp [totN], Lib.hid (by simp), Lib.hid rfl⟩
    case round =>
      obtain ⟨hbr, M, H, j, hj, rfl, hown, hMl, hMt, hall, hab⟩ := hrel
      have HBW := Lib.hid (HB1.out.trans (hbr.mono HB1.out.size))
      have htr := HT.out.below HBW.out HT.out.lt
      by_cases hlt : j < R.length
      · obtain ⟨p, hp⟩ : ∃ p, R[j]? = some p := ⟨_, List.getElem?_eq_getElem hlt⟩
        have k1 : wr.cell? ⟨b, off + j, none⟩ = some (.string ⟨p.toArray⟩) := (hbr.cell (p := ⟨b, off + j, none⟩) HC.out.1).trans (HC.out.2 j p hp)
        have hpl := HPM.out p (List.mem_of_getElem? hp)
        have HLT := Lib.hid hlt
        have hjb : (j : Int) ≤ 1001 := by omega
        have qs := segment_any p wr (by omega) htr
        cases hi : segL p with
        | none =>
          rw [hi] at qs
          have QS := Lib.hid (show Calls Tryd.prog 27 #[.string ⟨p.toArray⟩] wr (fun e w' => e = .returned (.tuple #[.agg #[.int .i64 0, .slice none 0 0], .bool false]) ∧ Below wr.heap.size wr w') from qs)
          have HE := Lib.hid (show parseL l = none from by rw [HPL.out, segsL_bad hp hi])
          clear qs hi hp hall hab hown
          go_wp2_with fail
          refine QS.out.mono ?_
          rintro e w2 ⟨rfl, hb2⟩
          have HB2 := Lib.hid hb2; clear hb2
          go_wp2_with fail
          exact bodyPost_ret (v := .tuple #[.slice none 0 0, .bool false]) (by simp [results, Tryd.results14, go_sem]) rfl (by rw [HE.out]; exact parsePost_none rfl ((HBW.out.trans (HB2.out.mono HBW.out.size)).alloc (Nat.le_trans HBW.out.size HB2.out.size) _))
        | some r =>
          obtain ⟨k, z⟩ := r
          rw [hi] at qs
          have QS := Lib.hid (show Calls Tryd.prog 27 #[.string ⟨p.toArray⟩] wr (fun e w' => ∃ A c, e = .returned (.tuple #[.agg #[.int .i64 k, .slice A z.length c], .bool true]) ∧ z.length ≤ c ∧ c ≤ maxLen ∧ Own32 w' wr.heap.size (.slice A z.length c) z ∧ Below wr.heap.size wr w') from qs)
          have hfit := segL_fit hi
          have HST := Lib.hid (segs_step hp hi hall.out)
          have HZL := Lib.hid (show z.length ≤ 1001 by omega)
          have HFIT := Lib.hid (show (∀ x ∈ z, x < 4294967296) ∧ (-9223372036854775808 ≤ k ∧ k ≤ 9223372036854775807) from ⟨hfit.2.1, by rcases hfit.2.2 with h | h <;> omega⟩)
          have HOW := Lib.hid hown; have HAB := Lib.hid hab.out
          have HML := Lib.hid hMl; have HMT := Lib.hid hMt
          have HBR := Lib.hid hbr
          obtain ⟨A0, c0, rfl, g1, g2⟩ := hown.form
          clear qs hi hp hall hab hown hfit hpl htr g1 g2
          go_wp2_with fail
          refine QS.out.mono ?_
          rintro e w2 ⟨A2, c2, rfl, f3, f4, ho2, hb2⟩
          have bA := hb2.alloc hb2.size (.cells #[.int .i64 k, .slice A2 z.length c2] 39)
          have HS2 := Lib.hid (HOW.out.below bA)
          have HO2 := Lib.hid (show Own32 (w2.alloc (.cells #[.int .i64 k, .slice A2 z.length c2] 39)) wr.heap.size (Sg.sl ⟨k, A2, c2, z⟩) z from ho2.alloc _)
          have HB2 := Lib.hid (HBR.out.trans (bA.mono HBR.out.size))
          have c7 := cells2 (Blk.new w2 39 [.int .i64 k, .slice A2 z.length c2])
          clear ho2 hb2 bA k1
          go_wp2_with (at_builtin; go_loud (refine wpList_app_one' isSeg rfl (.tmp 25) (.tmp 27) rfl w1.heap.size _ _ _ rfl (w2.alloc (.cells #[.int .i64 k, .slice A2 z.length c2] 39)) (Sg.two ⟨k, A2, c2, z⟩) rfl HS2.out.row (by change Value.slice (some ⟨w2.heap.size + 1, 0, none⟩) 1 1 = _; simp) rfl (two_one _) ?sz HB2.out.size ?_))
          case sz => have := HML.out; omega
          intro v3 w3 hown3 hg3
          have HP := Lib.hid (OwnSegs.push (s := ⟨k, A2, c2, z⟩) HS2.out HO2.out HBR.out.size (fun x hx q hq => HOW.out.blocks x hx q hq) HFIT.out hown3 hg3)
          have HB3 := Lib.hid (HB2.out.grown hg3 HB2.out.size (fun q hq => (World.ownsRow.lt HS2.out.row q hq).1))
          clear hown3 hg3 c7
          go_wp2_with fail
          go_roundw
          case rel => exact ⟨HB3.out, _, _, j + 1, HLT.out, by go_num, HP.out, (by have := HML.out; simp; omega), (by rw [totN_snoc]; have h1 := HMT.out; have h2 := HZL.out; show totN M + z.length ≤ _; omega), Lib.hid HST.out.1, Lib.hid (by rw [HST.out.2, List.map_append, HAB.out]; rfl)⟩
          case measure => have hm := HLT.out; simp [intOf] at hm ⊢; omega
      · obtain rfl : j = R.length := by omega
        obtain ⟨A0, c0, rfl, g1, g2⟩ := hown.form
        have hr2 : M.map Sg.abs = (R.take R.length).map fun p => (segL p).getD (0, []) := hab.out
        have hseg := segsL_end hall.out
        rw [← hr2] at hseg
        have HPS := Lib.hid (show parseL l = if rightA (normL (M.map Sg.abs)) then some (normL (M.map Sg.abs)) else none from by rw [HPL.out, hseg])
        have qn := Lib.hid (Norm_any A0 c0 M wr hown.segs g1 g2 (by have : 1001 * R.length ≤ 1001 * 1001 := Nat.mul_le_mul_left _ hRl; omega) (by omega))
        have HBR := Lib.hid hbr
        have HNT := Lib.hid (norm_tot (M.map Sg.abs))
        have HTN := Lib.hid (show totN M ≤ 2000000 from by have : 1001 * R.length ≤ 1001 * 1001 := Nat.mul_le_mul_left _ hRl; omega)
        clear hown hall hab hr2 hseg htr g1 g2 hMt
        go_wp2_with fail
        refine qn.out.mono ?_
        rintro e w2 ⟨M2, A2, c2, rfl, habs, g3, g4, hsg, hb2⟩
        have hrt := Right_any A2 c2 M2 w2 hsg g3 g4 (by rw [tot_abs, habs, HNT.out.1, ← tot_abs]; have := HTN.out; omega)
        rw [right_abs, habs] at hrt
        have HSG := Lib.hid hsg
        have HB2 := Lib.hid (HBW.out.trans (hb2.mono HBW.out.size))
        have HABS := Lib.hid habs
        have HG := Lib.hid (And.intro g3 g4)
        cases hra : rightA (normL (M.map Sg.abs)) with
        | false =>
          rw [hra] at hrt
          have HRT := Lib.hid hrt
          have HE := Lib.hid (show parseL l = none from by rw [HPS.out, hra]; rfl)
          clear hrt hsg hb2 habs hra g3 g4
          go_wp2_with fail
          refine HRT.out.mono ?_
          rintro e w3 ⟨rfl, hb3⟩
          have HB3 := Lib.hid (HB2.out.trans (hb3.mono HB2.out.size)); clear hb3
          go_wp2_with fail
          exact bodyPost_ret (v := .tuple #[.slice none 0 0, .bool false]) (by simp [results, Tryd.results14, go_sem]) rfl (by rw [HE.out]; exact parsePost_none rfl HB3.out)
        | true =>
          rw [hra] at hrt
          have HRT := Lib.hid hrt
          have HE := Lib.hid (show parseL l = some (normL (M.map Sg.abs)) from by rw [HPS.out, hra]; rfl)
          clear hrt hsg hb2 habs hra g3 g4
          go_wp2_with fail
          refine HRT.out.mono ?_
          rintro e w3 ⟨rfl, hb3⟩
          have HS3 := Lib.hid ((HSG.out.below hb3 (Nat.le_refl _)).lift hb3.size)
          have HB3 := Lib.hid (HB2.out.trans (hb3.mono HB2.out.size)); clear hb3
          go_wp2_with fail
          exact bodyPost_ret (v := .tuple #[.slice A2 M2.length c2, .bool true]) (by simp [results, Tryd.results14, go_sem]) rfl (by rw [HE.out]; exact parsePost_some ⟨M2, A2, c2, rfl, HABS.out, HG.out.1, HG.out.2, HS3.out, HB3.out⟩)
end Go.Proofs.YtlgfollajodpaaaDoor

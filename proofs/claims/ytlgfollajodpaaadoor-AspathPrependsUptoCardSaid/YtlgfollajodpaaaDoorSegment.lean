/-
  What a word between blanks says: a set, or a number of a sequence (written by gen03.py).
-/
import Derived.Test.YtlgfollajodpaaaDoorCut3
import Derived.Test.YtlgfollajodpaaaDoorAffix
import Derived.Test.YtlgfollajodpaaaDoorInt
import Derived.Test.YtlgfollajodpaaaDoorOwnSeg
namespace Go.Proofs.YtlgfollajodpaaaDoor
set_option linter.unusedVariables false
set_option linter.unusedSimpArgs false
open Go.RowKit

/-- The numbers of some texts, if all are numbers. -/
def numsL (ps : List (List UInt8)) : Option (List Nat) := if ps.all (fun p => (intSpec p).isSome) then some (ps.map fun p => (intSpec p).getD 0) else none
theorem numsL_bad {ps : List (List UInt8)} {j : Nat} {p : List UInt8} (h : ps[j]? = some p) (hp : intSpec p = none) : numsL ps = none := by
  unfold numsL
  rw [if_neg]
  intro ha
  have := List.all_eq_true.1 ha p (List.mem_of_getElem? h)
  rw [hp] at this
  cases this
theorem numsL_end {ps : List (List UInt8)} (h : (ps.take ps.length).all (fun p => (intSpec p).isSome) = true) : numsL ps = some ((ps.take ps.length).map fun p => (intSpec p).getD 0) := by
  rw [List.take_length] at h ⊢
  unfold numsL
  rw [if_pos h]
theorem nums_step {ps : List (List UInt8)} {j n : Nat} {p : List UInt8} (h : ps[j]? = some p) (hp : intSpec p = some n) (ha : (ps.take j).all (fun p => (intSpec p).isSome) = true) :
    (ps.take (j + 1)).all (fun p => (intSpec p).isSome) = true ∧ (ps.take (j + 1)).map (fun p => (intSpec p).getD 0) = (ps.take j).map (fun p => (intSpec p).getD 0) ++ [n] := by
  have hj := (List.getElem?_eq_some_iff.1 h).1
  have e : ps[j] = p := (List.getElem?_eq_some_iff.1 h).2
  rw [List.take_succ_eq_append_getElem hj, e]
  simp [List.all_append, ha, hp]
/-- What a word says: its kind and its numbers. -/
def segL (l : List UInt8) : Option (Int × List Nat) :=
  if Lib.hasPrefix l [123] then (if Lib.hasSuffix (Lib.trimPrefix l [123]) [125] then (numsL (splitL (Lib.trimSuffix (Lib.trimPrefix l [123]) [125]) 44)).map (fun z => (1, z)) else none)
  else (numsL [l]).map (fun z => (2, z))
/-- What a call leaves that returns a segment with numbers of its own, or none. -/
def SegPost (w : World) (r : Option (Int × List Nat)) (e : Ending) (w' : World) : Prop := match r with
  | none => e = .returned (.tuple #[.agg #[.int .i64 0, .slice none 0 0], .bool false]) ∧ Below w.heap.size w w'
  | some (k, z) => ∃ A c, e = .returned (.tuple #[.agg #[.int .i64 k, .slice A z.length c], .bool true]) ∧ z.length ≤ c ∧ c ≤ maxLen ∧ Own32 w' w.heap.size (.slice A z.length c) z ∧ Below w.heap.size w w'
theorem split_mem {c : UInt8} : ∀ (l cur : List UInt8) (p : List UInt8), p ∈ splitGo c cur l → p.length ≤ cur.length + l.length := by
  intro l
  induction l with
  | nil => intro cur p h; simp [splitGo] at h; subst h; simp
  | cons x l ih =>
    intro cur p h
    rw [splitGo] at h
    split at h
    · rcases List.mem_cons.1 h with rfl | h2
      · omega
      · have := ih [] p h2
        simp only [List.length_nil, List.length_cons] at this ⊢
        omega
    · have := ih (cur ++ [x]) p h
      simp only [List.length_append, List.length_cons, List.length_nil] at this ⊢
      omega

/-- 'out = append(out, x)' where only the head of the call's own is told. -/
theorem wpList_app_one' {P : Program} {w : World} {ops : Array Oper} {rest : List Oper} {o : Oper} {a : Act} {Q : Exit → Act → World → Prop} {t e : TypeId} {z : Value} {size bytes : Nat} (T : IsRow P t e z size bytes) (hgd : o.guard = none) (s x : Operand) (ho : o.op = .call { callee := .builtin .append, args := #[s, x], argTypes := #[t, t] })
    (base : Nat) (v : Value) (n : Nat) (xs : List Value) (hs : a.eval s = v) (wr : World) (cs : List Value) (hw : w = wr.alloc (.cells cs.toArray e)) (hown : wr.ownsRow base e size v n xs) (hx : a.eval x = .slice (some ⟨wr.heap.size, 0, none⟩) 1 1)
    (hl : cs.length = size) (h1 : ∀ u ∈ cs, u.oneCell' = true) (hsz : (n + 1) * bytes ≤ 140737488355328) (hb : base ≤ wr.heap.size)
    (h : ∀ v' w', w'.ownsRow base e size v' (n + 1) (xs ++ cs) → wr.grownBy w' v.ownBlock → wpList P ops Q rest (a.put o.dst v') w') : wpList P ops Q (o :: rest) a w := by
  subst hw
  obtain ⟨i, hi, hz0, hz1, hz2⟩ := info_parts T.info
  have h47 : n + 1 ≤ 140737488355328 := Nat.le_trans (Nat.le_mul_of_pos_right _ T.some') hsz
  refine wpList_append_own _ hgd s x t ho base e i z size bytes T.ht hi hz0 hz1 hz2 T.hzs T.pos v n xs hs (hown.alloc _) ⟨wr.heap.size, 0, none⟩ 1 1 cs hx (by simpa using hl) (fun j u hu => ?_) h1 (by unfold maxLen; omega) hsz (by simp; omega) fun v' w' ho' hg _ => h v' w' ho' (grown_of_alloc hg)
  rw [Addr.add_lit, (Blk.new wr e cs).cell]
  simpa using hu

theorem below_set3 {w w1 : World} {h : Nat} {u v : Value} (hb : Below w.heap.size w w1) (hg : w.heap.size ≤ h) : Below w.heap.size w ((w1.setCell ⟨h, 0, none⟩ u).setCell ⟨h, 1, none⟩ v) :=
  (hb.setCell (p := ⟨h, 0, none⟩) (by simpa using hg) _).setCell (p := ⟨h, 1, none⟩) (by simpa using hg) _
theorem segPost_none {w w' : World} {e : Ending} (h1 : e = .returned (.tuple #[.agg #[.int .i64 0, .slice none 0 0], .bool false])) (h2 : Below w.heap.size w w') : SegPost w none e w' := ⟨h1, h2⟩
theorem segPost_some {w w' : World} {e : Ending} {k : Int} {z : List Nat} (h : ∃ A c, e = .returned (.tuple #[.agg #[.int .i64 k, .slice A z.length c], .bool true]) ∧ z.length ≤ c ∧ c ≤ maxLen ∧ Own32 w' w.heap.size (.slice A z.length c) z ∧ Below w.heap.size w w') : SegPost w (some (k, z)) e w' := h
/-- What the loop over the numbers holds: the segment that is made lies in block g, behind W1. -/
def SegRel (W1 : World) (g : Nat) (K : Int) (ps : List (List UInt8)) (i : Value) (wr : World) : Prop :=
  Below g W1 wr ∧ ∃ (v : Value) (j : Nat) (z : List Nat), j ≤ ps.length ∧ i = .int .i64 (j : Int) ∧ Blk wr g 39 [.int .i64 K, v] ∧ Hid (z = (ps.take j).map fun p => (intSpec p).getD 0) ∧ Own32 wr (g + 1) v z ∧ Hid ((ps.take j).all (fun p => (intSpec p).isSome) = true)
theorem segRel_start (W1 : World) (g : Nat) (K : Int) (ps : List (List UInt8)) (hg : g = W1.heap.size) : SegRel W1 g K ps (.int .i64 0) (W1.alloc (.cells #[.int .i64 K, .slice none 0 0] 39)) := by
  subst hg
  exact ⟨(Below.refl _ _).alloc (Nat.le_refl _) _, .slice none 0 0, 0, [], by omega, rfl, Blk.new W1 39 [.int .i64 K, .slice none 0 0], Lib.hid (by simp), Own32.nil _ _, Lib.hid (by simp)⟩

set_option maxHeartbeats 6400000 in
theorem segment_any (l : List UInt8) (w : World) (hl : l.length ≤ 1000000) (ht : Tab w) :
    Calls Tryd.prog 27 #[.string ⟨l.toArray⟩] w (SegPost w (segL l)) := by
  have HT := Lib.hid ht; clear ht
  have q1 := fun W => Lib.hid (CutPrefix_any l 123 W)
  have hbA : Below w.heap.size w ((w.alloc (.cells #[.int .i64 0, .slice none 0 0] 39)).alloc (.cells #[.string ⟨l.toArray⟩] 9)) := ((Below.refl _ _).alloc (Nat.le_refl _) _).alloc (by simp) _
  have kA := (Blk.new w 39 [.int .i64 0, .slice none 0 0]).below ((Below.refl _ _).alloc (Nat.le_refl _) (.cells #[.string ⟨l.toArray⟩] 9)) (by simp)
  have HKA := Lib.hid kA
  clear kA
  cases hpre : Lib.hasPrefix l [123] with
  | false =>
    rw [hpre] at q1
    have HSL := Lib.hid (show segL l = (numsL [l]).map (fun z => (2, z)) by unfold segL; rw [hpre]; rfl)
    clear hpre
    go_enter Tryd.func27, Tryd.ntmps27
    go_wp2_with fail
    refine (q1 _).out.mono ?_
    rintro e w1 ⟨rfl, rfl⟩
    go_wp2_with fail
    have HBW := Lib.hid hbA
    have HGL := Lib.hid (show w.heap.size ≤ w.heap.size + 1 + 1 by omega)
    have HGT := Lib.hid (show w.heap.size < w.heap.size + 1 + 1 by omega)
    have HKH := HKA
    have HC := Lib.hid (show w.heap.size + 1 < w.heap.size + 1 + 1 ∧ ∀ (j : Nat) (p : List UInt8), [l][j]? = some p → ((w.alloc (.cells #[.int .i64 0, .slice none 0 0] 39)).alloc (.cells #[.string ⟨l.toArray⟩] 9)).cell? ⟨w.heap.size + 1, j, none⟩ = some (.string ⟨p.toArray⟩) from by
      refine ⟨by omega, fun j p hp => ?_⟩
      have h2 := Blk.new (w.alloc (.cells #[.int .i64 0, .slice none 0 0] 39)) 9 [.string ⟨l.toArray⟩]
      have e2 : (w.alloc (.cells #[.int .i64 0, .slice none 0 0] 39)).heap.size = w.heap.size + 1 := by simp
      rw [e2] at h2
      refine (h2.cell j).trans ?_
      rcases j with _ | j
      · simp at hp
        rw [← hp]
        rfl
      · simp at hp)
    have HPL := Lib.hid (show [l].length ≤ 1000001 ∧ ∀ p ∈ [l], p.length ≤ 1000000 from ⟨by simp, fun p hp => by simp at hp; rw [hp]; exact hl⟩)
    clear hbA HKA
    go_loopw [37] (fun i wr => SegRel ((w.alloc (.cells #[.int .i64 0, .slice none 0 0] 39)).alloc (.cells #[.string ⟨l.toArray⟩] 9)) (w.heap.size + 1 + 1) 2 ([l]) i wr) (fun i _ => ([l]).length - (intOf i).toNat)
    case atStart => exact segRel_start _ _ _ _ (by simp)
    case round =>
      obtain ⟨hbr, v, j, z, hj, rfl, hk10, hz, hown, hall⟩ := hrel
      have hbw := HBW.out.trans (hbr.mono HGL.out)
      have htr := HT.out.below hbw HT.out.lt
      have hkh := HKH.out.below hbr HGT.out
      have c10 := cells2 hk10
      have f10 := free2 hk10
      have ch := cells2 hkh
      have fh := free2 hkh
      have HKh := Lib.hid hkh
      have HK10 := Lib.hid hk10
      have HO := Lib.hid hown
      have hzl : z.length ≤ 1000001 := by rw [hz.out]; simp; have := HPL.out.1; omega
      by_cases hlt : j < ([l]).length
      · obtain ⟨p, hp⟩ : ∃ p, ([l])[j]? = some p := ⟨_, List.getElem?_eq_getElem hlt⟩
        have k1 : wr.cell? ⟨w.heap.size + 1, j, none⟩ = some (.string ⟨p.toArray⟩) := (hbr.cell (p := ⟨w.heap.size + 1, j, none⟩) HC.out.1).trans (HC.out.2 j p hp)
        have hpl : p.length ≤ maxLen := by have := HPL.out.2 p (List.mem_of_getElem? hp); unfold maxLen; omega
        have HLT := Lib.hid hlt
        have hjb : (j : Int) ≤ 1000001 := by have := HPL.out.1; omega
        have hltI : (j : Int) < 1 := by first | omega | (simp at hlt; omega)
        cases hi : intSpec p with
        | none =>
          have qI := Int_any p wr hpl htr
          rw [hi] at qI
          simp only [retInt, Option.getD_none, Option.isSome_none] at qI
          have QI := Lib.hid qI
          have HE := Lib.hid (show segL l = none from by rw [HSL.out, numsL_bad hp hi]; rfl)
          clear qI hi hp hpl hall hk10 hkh hown hz htr
          go_wp2_with fail
          refine QI.out.mono ?_
          rintro e w3 ⟨rfl, rfl⟩
          go_wp2_with fail
          refine bodyPost_ret (v := .tuple #[.agg #[.int .i64 0, .slice none 0 0], .bool false]) (by simp [results, Tryd.results27, go_sem, (res_cells (.int .i64 0) (.slice none 0 0) HKh.out).1, (res_cells (.int .i64 0) (.slice none 0 0) HKh.out).2]) rfl ?_
          rw [HE.out]
          exact segPost_none rfl (below_set3 hbw (Nat.le_refl _))
        | some n =>
          have qI := Int_any p wr hpl htr
          rw [hi] at qI
          simp only [retInt, Option.getD_some, Option.isSome_some] at qI
          have QI := Lib.hid qI
          have hn := (intSpec_some hi).2
          have hst := nums_step hp hi hall.out
          rw [← hz.out] at hst
          have HST := Lib.hid hst
          clear qI hi hp hpl hall hk10 hkh hown hst htr
          go_wp2_with fail
          refine QI.out.mono ?_
          rintro e w3 ⟨rfl, rfl⟩
          go_wp2_with (at_builtin; refine wpList_app_one' isU32 rfl (.tmp 50) (.tmp 53) rfl (w.heap.size + 1 + 1 + 1) v z.length (cells32 z) rfl wr [.int .u32 (n : Int)] rfl HO.out rfl rfl (by simp [Value.oneCell']) (by omega) HK10.out.lt ?_)
          intro v1 w1 hown1 hg1
          have o1 : Own32 w1 (w.heap.size + 1 + 1 + 1) v1 (z ++ [n]) := by
            have e : (z ++ [n]).length = z.length + 1 := by simp
            unfold Own32
            rw [e]
            simpa [cells32] using hown1
          have hne : some (w.heap.size + 1 + 1) ≠ v.ownBlock := by
            intro e
            have := (World.ownsRow.lt HO.out _ e.symm).1
            omega
          have k2 : Blk w1 (w.heap.size + 1 + 1) 39 [.int .i64 2, v] := (hg1.block _ HK10.out.lt hne).trans HK10.out
          have b2 : Below (w.heap.size + 1 + 1) ((w.alloc (.cells #[.int .i64 0, .slice none 0 0] 39)).alloc (.cells #[.string ⟨l.toArray⟩] 9)) w1 := hbr.trans ⟨hg1.os, hg1.tape, hg1.output, hg1.size, fun i hi => hg1.block i (Nat.lt_of_lt_of_le hi (Nat.le_of_lt HK10.out.lt)) (fun e => by have := (World.ownsRow.lt HO.out _ e.symm).1; omega)⟩
          have c2 := cells2 k2
          have f2 := free2 k2
          have K2 := Lib.hid k2
          obtain ⟨A1, d1, rfl, g1, g2⟩ := o1.form
          have el : (z ++ [n]).length = z.length + 1 := by simp
          rw [el] at o1 g1
          clear el
          have O1 := Lib.hid o1
          clear hown1 hg1 o1 hne k2 c10 f10
          go_wp2_with fail
          go_roundw
          case rel => exact ⟨b2.setCell (by simp) _, .slice A1 (z.length + 1) d1, j + 1, z ++ [n], (by have := HLT.out; omega), by go_num, K2.out.set 1 _, Lib.hid HST.out.2.symm, own32_apart O1.out (grown_setCell (grown_refl _ _) _ _) (Nat.lt_succ_self _), Lib.hid HST.out.1⟩
          case measure =>
            have hm := HLT.out
            simp [intOf] at hm ⊢
            omega
      · obtain rfl : j = ([l]).length := by omega
        have hltI : ¬ ((([l]).length : Nat) : Int) < 1 := by first | omega | simp
        have HE := Lib.hid (show segL l = some (2, z) from by rw [HSL.out, numsL_end hall.out, ← hz.out]; rfl)
        obtain ⟨A', c', rfl, f1, f2⟩ := hown.form
        have F1 := Lib.hid f1; have F2 := Lib.hid f2
        clear hall hk10 hkh hown hz htr f1 f2
        go_wp2_with fail
        refine bodyPost_ret (v := .tuple #[.agg #[.int .i64 2, .slice A' z.length c'], .bool true]) (by simp [results, Tryd.results27, go_sem, (res_cells (.int .i64 2) (.slice A' z.length c') HKh.out).1, (res_cells (.int .i64 2) (.slice A' z.length c') HKh.out).2]) rfl ?_
        rw [HE.out]
        exact segPost_some ⟨A', c', rfl, F1.out, F2.out, Own32.lower (own32_apart HO.out (grown_setCell (grown_setCell (grown_refl _ (some w.heap.size)) _ _) _ _) (Nat.lt_succ_of_lt HGT.out)) (Nat.le_succ_of_le HGL.out), below_set3 hbw (Nat.le_refl _)⟩
  | true =>
    rw [hpre] at q1
    have hIl : (Lib.trimPrefix l [123]).length ≤ 1000000 := by
      unfold Lib.trimPrefix
      rw [if_pos hpre, List.length_drop]
      omega
    obtain ⟨I, hI⟩ : ∃ I, I = Lib.trimPrefix l [123] := ⟨_, rfl⟩
    rw [← hI] at q1 hIl
    have q2 := fun W => Lib.hid (CutSuffix_any I 125 W (by omega))
    cases hsuf : Lib.hasSuffix I [125] with
    | false =>
      rw [hsuf] at q2
      have HE := Lib.hid (show segL l = none by unfold segL; rw [hpre, ← hI, hsuf]; rfl)
      clear hpre hsuf hI
      have kh := HKA.out
      have ch := cells2 kh
      have fh := free2 kh
      clear kh
      go_enter Tryd.func27, Tryd.ntmps27
      go_wp2_with fail
      refine (q1 _).out.mono ?_
      rintro e w1 ⟨rfl, rfl⟩
      go_wp2_with fail
      refine (q2 _).out.mono ?_
      rintro e w1 ⟨rfl, rfl⟩
      go_wp2_with fail
      refine bodyPost_ret (v := .tuple #[.agg #[.int .i64 0, .slice none 0 0], .bool false]) (by simp [results, Tryd.results27, go_sem, (res_cells (.int .i64 0) (.slice none 0 0) HKA.out).1, (res_cells (.int .i64 0) (.slice none 0 0) HKA.out).2]) rfl ?_
      rw [HE.out]
      exact segPost_none rfl hbA
    | true =>
      rw [hsuf] at q2
      have hWl : (Lib.trimSuffix I [125]).length ≤ 1000000 := by
        unfold Lib.trimSuffix
        rw [if_pos hsuf, List.length_take]
        omega
      have HSL0 := Lib.hid (show segL l = (numsL (splitL (Lib.trimSuffix I [125]) 44)).map (fun z => (1, z)) by unfold segL; rw [hpre, ← hI, hsuf]; rfl)
      obtain ⟨V, hV⟩ : ∃ V, V = Lib.trimSuffix I [125] := ⟨_, rfl⟩
      rw [← hV] at q2 hWl HSL0
      have q3 := fun W => Lib.hid (show Calls Tryd.prog 26 #[.string ⟨V.toArray⟩, .int .i32 44] W (RetS W (splitL V 44)) from cut3_any V 44 W (by decide) hWl)
      have hpn := split_len 44 V []
      have hpm : ∀ p ∈ splitL V 44, p.length ≤ 1000000 := fun p hp => by have := split_mem V [] p hp; simp at this; omega
      change (splitL V 44).length ≤ V.length + 1 ∧ 0 < (splitL V 44).length at hpn
      obtain ⟨R, hR⟩ : ∃ R, R = splitL V 44 := ⟨_, rfl⟩
      rw [← hR] at q3 hpn hpm HSL0
      have HSL := HSL0
      clear hpre hsuf hI hV hR HSL0
      go_enter Tryd.func27, Tryd.ntmps27
      go_wp2_with fail
      refine (q1 _).out.mono ?_
      rintro e w1 ⟨rfl, rfl⟩
      go_wp2_with fail
      refine (q2 _).out.mono ?_
      rintro e w1 ⟨rfl, rfl⟩
      go_wp2_with fail
      refine (q3 _).out.mono ?_
      rintro e w2 ⟨A2, c2, rfl, f1, f2, hat, hb2⟩
      obtain ⟨b, off, rfl, hbb, hcell⟩ := hat (by intro e; rw [e] at hpn; simp at hpn)
      have HBW := Lib.hid (hbA.trans (hb2.mono hbA.size))
      have HGL := Lib.hid HBW.out.size
      have HGT := Lib.hid (Nat.lt_of_lt_of_le (show w.heap.size < ((w.alloc (.cells #[.int .i64 0, .slice none 0 0] 39)).alloc (.cells #[.string ⟨l.toArray⟩] 9)).heap.size by simp; omega) hb2.size)
      have HKH := Lib.hid (HKA.out.below hb2 HKA.out.lt)
      have HC := Lib.hid (And.intro hbb hcell)
      have HPL := Lib.hid (show R.length ≤ 1000001 ∧ ∀ p ∈ R, p.length ≤ 1000000 from ⟨by omega, hpm⟩)
      clear hbA HKA hb2 hbb hcell hpm hpn q1 q2 q3
      go_wp2_with fail
      go_loopw [37] (fun i wr => SegRel (w2) (w2.heap.size) 1 (R) i wr) (fun i _ => (R).length - (intOf i).toNat)
      case atStart => exact segRel_start _ _ _ _ rfl
      case round =>
        obtain ⟨hbr, v, j, z, hj, rfl, hk10, hz, hown, hall⟩ := hrel
        have hbw := HBW.out.trans (hbr.mono HGL.out)
        have htr := HT.out.below hbw HT.out.lt
        have hkh := HKH.out.below hbr HGT.out
        have c10 := cells2 hk10
        have f10 := free2 hk10
        have ch := cells2 hkh
        have fh := free2 hkh
        have HKh := Lib.hid hkh
        have HK10 := Lib.hid hk10
        have HO := Lib.hid hown
        have hzl : z.length ≤ 1000001 := by rw [hz.out]; simp; have := HPL.out.1; omega
        by_cases hlt : j < (R).length
        · obtain ⟨p, hp⟩ : ∃ p, (R)[j]? = some p := ⟨_, List.getElem?_eq_getElem hlt⟩
          have k1 : wr.cell? ⟨b, off + j, none⟩ = some (.string ⟨p.toArray⟩) := (hbr.cell (p := ⟨b, off + j, none⟩) HC.out.1).trans (HC.out.2 j p hp)
          have hpl : p.length ≤ maxLen := by have := HPL.out.2 p (List.mem_of_getElem? hp); unfold maxLen; omega
          have HLT := Lib.hid hlt
          have hjb : (j : Int) ≤ 1000001 := by have := HPL.out.1; omega
          have hltI : (j : Int) < (R.length : Int) := by first | omega | (simp at hlt; omega)
          cases hi : intSpec p with
          | none =>
            have qI := Int_any p wr hpl htr
            rw [hi] at qI
            simp only [retInt, Option.getD_none, Option.isSome_none] at qI
            have QI := Lib.hid qI
            have HE := Lib.hid (show segL l = none from by rw [HSL.out, numsL_bad hp hi]; rfl)
            clear qI hi hp hpl hall hk10 hkh hown hz htr
            go_wp2_with fail
            refine QI.out.mono ?_
            rintro e w3 ⟨rfl, rfl⟩
            go_wp2_with fail
            refine bodyPost_ret (v := .tuple #[.agg #[.int .i64 0, .slice none 0 0], .bool false]) (by simp [results, Tryd.results27, go_sem, (res_cells (.int .i64 0) (.slice none 0 0) HKh.out).1, (res_cells (.int .i64 0) (.slice none 0 0) HKh.out).2]) rfl ?_
            rw [HE.out]
            exact segPost_none rfl (below_set3 hbw (Nat.le_refl _))
          | some n =>
            have qI := Int_any p wr hpl htr
            rw [hi] at qI
            simp only [retInt, Option.getD_some, Option.isSome_some] at qI
            have QI := Lib.hid qI
            have hn := (intSpec_some hi).2
            have hst := nums_step hp hi hall.out
            rw [← hz.out] at hst
            have HST := Lib.hid hst
            clear qI hi hp hpl hall hk10 hkh hown hst htr
            go_wp2_with fail
            refine QI.out.mono ?_
            rintro e w3 ⟨rfl, rfl⟩
            go_wp2_with (at_builtin; refine wpList_app_one' isU32 rfl (.tmp 50) (.tmp 53) rfl (w2.heap.size + 1) v z.length (cells32 z) rfl wr [.int .u32 (n : Int)] rfl HO.out rfl rfl (by simp [Value.oneCell']) (by omega) HK10.out.lt ?_)
            intro v1 w1 hown1 hg1
            have o1 : Own32 w1 (w2.heap.size + 1) v1 (z ++ [n]) := by
              have e : (z ++ [n]).length = z.length + 1 := by simp
              unfold Own32
              rw [e]
              simpa [cells32] using hown1
            have hne : some (w2.heap.size) ≠ v.ownBlock := by
              intro e
              have := (World.ownsRow.lt HO.out _ e.symm).1
              omega
            have k2 : Blk w1 (w2.heap.size) 39 [.int .i64 1, v] := (hg1.block _ HK10.out.lt hne).trans HK10.out
            have b2 : Below (w2.heap.size) (w2) w1 := hbr.trans ⟨hg1.os, hg1.tape, hg1.output, hg1.size, fun i hi => hg1.block i (Nat.lt_of_lt_of_le hi (Nat.le_of_lt HK10.out.lt)) (fun e => by have := (World.ownsRow.lt HO.out _ e.symm).1; omega)⟩
            have c2 := cells2 k2
            have f2 := free2 k2
            have K2 := Lib.hid k2
            obtain ⟨A1, d1, rfl, g1, g2⟩ := o1.form
            have el : (z ++ [n]).length = z.length + 1 := by simp
            rw [el] at o1 g1
            clear el
            have O1 := Lib.hid o1
            clear hown1 hg1 o1 hne k2 c10 f10
            go_wp2_with fail
            go_roundw
            case rel => exact ⟨b2.setCell (by simp) _, .slice A1 (z.length + 1) d1, j + 1, z ++ [n], (by have := HLT.out; omega), by go_num, K2.out.set 1 _, Lib.hid HST.out.2.symm, own32_apart O1.out (grown_setCell (grown_refl _ _) _ _) (Nat.lt_succ_self _), Lib.hid HST.out.1⟩
            case measure =>
              have hm := HLT.out
              simp [intOf] at hm ⊢
              omega
        · obtain rfl : j = (R).length := by omega
          have hltI : ¬ (((R).length : Nat) : Int) < (R.length : Int) := by first | omega | simp
          have HE := Lib.hid (show segL l = some (1, z) from by rw [HSL.out, numsL_end hall.out, ← hz.out]; rfl)
          obtain ⟨A', c', rfl, f1, f2⟩ := hown.form
          have F1 := Lib.hid f1; have F2 := Lib.hid f2
          clear hall hk10 hkh hown hz htr f1 f2
          go_wp2_with fail
          refine bodyPost_ret (v := .tuple #[.agg #[.int .i64 1, .slice A' z.length c'], .bool true]) (by simp [results, Tryd.results27, go_sem, (res_cells (.int .i64 1) (.slice A' z.length c') HKh.out).1, (res_cells (.int .i64 1) (.slice A' z.length c') HKh.out).2]) rfl ?_
          rw [HE.out]
          exact segPost_some ⟨A', c', rfl, F1.out, F2.out, Own32.lower (own32_apart HO.out (grown_setCell (grown_setCell (grown_refl _ (some w.heap.size)) _ _) _ _) (Nat.lt_succ_of_lt HGT.out)) (Nat.le_succ_of_le HGL.out), below_set3 hbw (Nat.le_refl _)⟩
end Go.Proofs.YtlgfollajodpaaaDoor

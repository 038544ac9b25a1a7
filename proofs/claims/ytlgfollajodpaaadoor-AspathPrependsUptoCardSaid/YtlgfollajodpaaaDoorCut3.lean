/-
  The pieces of a text between all signs of one kind.
-/
import Derived.Test.YtlgfollajodpaaaDoorCut
import Derived.Test.YtlgfollajodpaaaDoorOwn3
import Derived.WalkLawsBesides
import Derived.Lib.OthersKept
import Derived.BigQuiet
namespace Go.Proofs.YtlgfollajodpaaaDoor
set_option linter.unusedVariables false
set_option linter.unusedSimpArgs false
open Go.RowKit

/-- The pieces of a text between all signs c, cur standing ahead of the first. -/
def splitGo (c : UInt8) : List UInt8 → List UInt8 → List (List UInt8)
  | cur, [] => [cur]
  | cur, x :: r => if x = c then cur :: splitGo c [] r else splitGo c (cur ++ [x]) r
def splitL (l : List UInt8) (c : UInt8) : List (List UInt8) := splitGo c [] l
theorem splitGo_skip (c : UInt8) : ∀ (n : Nat) (cur l : List UInt8), n ≤ l.length → (∀ k, k < n → l.getD k 0 ≠ c) → splitGo c cur l = splitGo c (cur ++ l.take n) (l.drop n) := by
  intro n
  induction n with
  | zero => intro cur l _ _; simp
  | succ n ih =>
    intro cur l hl h
    rcases l with _ | ⟨x, l⟩
    · simp at hl
    · have hx : x ≠ c := by simpa using h 0 (by omega)
      have h2 := ih (cur ++ [x]) l (by simpa using hl) (fun k hk => by simpa using h (k + 1) (by omega))
      rw [splitGo, if_neg hx, h2]
      simp
theorem splitGo_hit {c : UInt8} {cur l : List UInt8} (hl : 0 < l.length) (h : l.getD 0 0 = c) : splitGo c cur l = cur :: splitGo c [] (l.drop 1) := by
  rcases l with _ | ⟨x, l⟩
  · simp at hl
  · have hx : x = c := by simpa using h
    rw [splitGo, if_pos hx]
    rfl
theorem split_len (c : UInt8) : ∀ (l cur : List UInt8), (splitGo c cur l).length ≤ l.length + 1 ∧ 0 < (splitGo c cur l).length := by
  intro l
  induction l with
  | nil => intro cur; simp [splitGo]
  | cons x l ih =>
    intro cur
    rw [splitGo]
    split
    · have := ih []
      simp only [List.length_cons]
      omega
    · have := ih (cur ++ [x])
      simp only [List.length_cons]
      omega
/-- One sign of a range over a string, against a sign of one byte, wherever it stands. -/
theorem next_sign2 (l : List UInt8) (c : UInt8) (hc : c.toNat < 128) (pos : Nat) (h : pos < l.length) :
    ∃ r wd : Nat, Utf8.decode ⟨l.toArray⟩ pos = (r, wd) ∧ r ≤ 2147483647 ∧ 0 < wd ∧ ((r = c.toNat ∧ l.getD pos 0 = c ∧ wd = 1) ∨ (r ≠ c.toNat ∧ pos + wd ≤ l.length ∧ ∀ k, k < wd → (l.drop pos).getD k 0 ≠ c)) := by
  have hp : pos < (⟨l.toArray⟩ : ByteArray).size := h
  have eg : (⟨l.toArray⟩ : ByteArray)[pos]'hp = l.getD pos 0 := by rw [← ba_get]; show _ = l.toArray[pos]!; rw [getElem!_pos l.toArray pos (by simpa using h)]; rfl
  have hd0 : ∀ k, (l.drop pos).getD k 0 = l.getD (pos + k) 0 := fun k => by simp [List.getD, List.getElem?_drop]
  refine ⟨(Utf8.decode ⟨l.toArray⟩ pos).1, (Utf8.decode ⟨l.toArray⟩ pos).2, rfl, decode_le _ _, ?_, ?_⟩
  all_goals by_cases ha : (l.getD pos 0).toNat < 128
  · rw [decode_ascii _ pos hp (by rw [eg]; exact ha)]; exact Nat.one_pos
  · exact (decode_high _ pos hp (by rw [eg]; omega)).2
  · rw [decode_ascii _ pos hp (by rw [eg]; exact ha)]
    by_cases he : l.getD pos 0 = c
    · exact .inl ⟨by rw [eg, he], he, rfl⟩
    · refine .inr ⟨fun e => he (UInt8.toNat_inj.1 (by rw [← eg]; exact e)), h, fun k hk => ?_⟩
      have hk1 : k < 1 := hk
      obtain rfl : k = 0 := by omega
      rw [hd0]
      exact he
  · have h1 := (decode_high _ pos hp (by rw [eg]; omega)).1
    have h2 := decode_skip ⟨l.toArray⟩ pos hp (by rw [ba_get]; omega)
    refine .inr ⟨by omega, h2.1, fun k hk e => ?_⟩
    rw [hd0] at e
    by_cases hk0 : k = 0
    · subst hk0
      rw [Nat.add_zero] at e
      rw [e] at ha; omega
    · have h3 := h2.2 k (by omega) hk
      rw [ba_get, e] at h3
      omega

def cellsS (ps : List (List UInt8)) : List Value := ps.map fun p => Value.string ⟨p.toArray⟩
/-- The value v is a slice of the call's own (its block is B or later) that holds the texts ps. -/
def OwnS (w : World) (B : Nat) (v : Value) (ps : List (List UInt8)) : Prop := w.ownsRow B 9 1 v ps.length (cellsS ps)
theorem OwnS.form {w : World} {B : Nat} {v : Value} {ps : List (List UInt8)} (h : OwnS w B v ps) : ∃ A c, v = .slice A ps.length c ∧ ps.length ≤ c ∧ c ≤ maxLen := by
  rcases h.2 with ⟨rfl, hn⟩ | ⟨g, cap, cur, rfl, hbg, hg, hnc, hcm, hcs, htake⟩
  · exact ⟨none, 0, by rw [hn], by omega, Nat.zero_le _⟩
  · exact ⟨_, cap, rfl, hnc, hcm⟩
/-- The slice's address A leads to the texts ps, in a block below B. -/
def AtS (w : World) (B : Nat) (A : Option Addr) (ps : List (List UInt8)) : Prop :=
  ps ≠ [] → ∃ b off, A = some ⟨b, off, none⟩ ∧ b < B ∧ ∀ j p, ps[j]? = some p → w.cell? ⟨b, off + j, none⟩ = some (.string ⟨p.toArray⟩)
theorem AtS.below {w w' : World} {A : Option Addr} {ps : List (List UInt8)} {B B' : Nat} (h : AtS w B A ps) (hb : Below B' w w') (hB : B ≤ B') : AtS w' B A ps := by
  intro hl
  obtain ⟨b, off, rfl, hlt, hc⟩ := h hl
  exact ⟨b, off, rfl, hlt, fun j p hj => (hb.cell (p := ⟨b, off + j, none⟩) (Nat.lt_of_lt_of_le hlt hB)).trans (hc j p hj)⟩
theorem AtS.lift {w : World} {A : Option Addr} {ps : List (List UInt8)} {B B' : Nat} (h : AtS w B A ps) (hB : B ≤ B') : AtS w B' A ps := fun hl => by
  obtain ⟨b, off, rfl, hlt, hc⟩ := h hl
  exact ⟨b, off, rfl, Nat.lt_of_lt_of_le hlt hB, hc⟩
theorem OwnS.at {w : World} {B n c : Nat} {A : Option Addr} {ps : List (List UInt8)} (h : OwnS w B (.slice A n c) ps) : AtS w w.heap.size A ps := by
  intro hl
  rcases h.2 with ⟨hv, hn⟩ | ⟨g, cap, cur, hv, hbg, hg, hnc, hcm, hcs, htake⟩
  · exact absurd (List.eq_nil_of_length_eq_zero hn) hl
  · have hA : A = some ⟨g, 0, none⟩ := by injection hv
    refine ⟨g, 0, hA, (Array.getElem?_eq_some_iff.1 hg).1, fun j p hj => ?_⟩
    have hj2 := World.ownsRow.cells h (g := g) (by subst hA; rfl) j (.string ⟨p.toArray⟩) (by simp [cellsS, hj])
    rw [Addr.add_lit] at hj2
    exact hj2
/-- What a call leaves that returns texts in a slice of its own making. -/
def RetS (w : World) (ps : List (List UInt8)) (e : Ending) (w' : World) : Prop :=
  ∃ A c, e = .returned (.slice A ps.length c) ∧ ps.length ≤ c ∧ c ≤ maxLen ∧ AtS w' w'.heap.size A ps ∧ Below w.heap.size w w'

theorem own_ne_iter {w : World} {B n size k pos : Nat} {e : TypeId} {v : Value} {xs : List Value} {s : ByteArray} (h : w.ownsRow B e size v n xs) (hk : w.heap[k]? = some (.stringIter s pos)) : some k ≠ v.ownBlock := by
  rcases h.2 with ⟨rfl, _⟩ | ⟨g, cap, cur, rfl, _, hg, _⟩
  · simp [Value.ownBlock]
  · intro e1
    have e2 : k = g := by simpa [Value.ownBlock] using e1
    subst e2
    rw [hk] at hg
    cases hg
theorem own_iterAt {w : World} {B n size k pos : Nat} {e : TypeId} {v : Value} {xs : List Value} {s : ByteArray} (h : w.ownsRow B e size v n xs) (hk : w.heap[k]? = some (.stringIter s pos)) (pos' : Nat) : (w.iterAt k s pos').ownsRow B e size v n xs := by
  refine World.ownsRow.kept h (row := some k) ⟨rfl, rfl, rfl, by rw [Lib.iterAt_size]; exact Nat.le_refl _, fun j hj hne => Lib.iterAt_other w k j s pos' (by simpa using hne)⟩ (.inr (fun e => own_ne_iter h hk e.symm))

/-- What the loop holds at the place pos. -/
def CutRel (w : World) (l : List UInt8) (c : UInt8) (v f : Value) (wr : World) : Prop :=
  ∃ (pos frm : Nat) (ps : List (List UInt8)), pos ≤ l.length ∧ frm ≤ pos ∧ f = .int .i64 (frm : Int) ∧ wr.heap[w.heap.size]? = some (.stringIter ⟨l.toArray⟩ pos) ∧ Below w.heap.size w wr ∧ ps.length ≤ pos ∧ OwnS wr w.heap.size v ps ∧
    Hid (splitL l c = ps ++ splitGo c ((l.take pos).drop frm) (l.drop pos))

set_option maxHeartbeats 3200000 in
theorem cut3_any (l : List UInt8) (c : UInt8) (w : World) (hc : c.toNat < 128) (hm : l.length ≤ 1000000) :
    Calls Tryd.prog 26 #[.string ⟨l.toArray⟩, .int .i32 (c.toNat : Int)] w (RetS w (splitL l c)) := by
  have hit0 := World.iter_heap w ⟨l.toArray⟩ 0
  have hb0 : Below w.heap.size w (w.iter ⟨l.toArray⟩ 0) := (Below.refl _ _).alloc (Nat.le_refl _) _
  have hsz : (⟨l.toArray⟩ : ByteArray).size = l.length := rfl
  go_enter Tryd.func26, Tryd.ntmps26
  go_wp2_with fail
  go_loopw [5, 6] (fun v f wr => CutRel w l c v f wr) (fun _ _ wr => l.length - wr.iterPos w.heap.size)
  case atStart => exact ⟨0, 0, [], by omega, by omega, rfl, hit0, hb0, by simp, World.ownsRow_nil _ _ _ 1, Lib.hid (by simp [splitL])⟩
  case round =>
    obtain ⟨pos, frm, ps, hps, hfp, rfl, hit, hbw, hpl, hown, hsp⟩ := hrel
    clear hit0 hb0
    have hszw : w.heap.size < wr.heap.size := (Array.getElem?_eq_some_iff.1 hit).1
    by_cases hp : pos < l.length
    · have hnx := fun ty => Lib.run_next_any_at (P := Tryd.prog) wr w.heap.size ⟨l.toArray⟩ pos ty hit hp
      obtain ⟨r, wd, hd, hr, hwd, hcase⟩ := next_sign2 l c hc pos hp
      rw [hd] at hnx
      have hit2 := Lib.iterAt_heap wr w.heap.size ⟨l.toArray⟩ pos (pos + wd) hit
      have hbw2 := Lib.below_iterAt hbw (k := w.heap.size) (by omega) ⟨l.toArray⟩ (pos + wd)
      have hmu : wr.iterPos w.heap.size = pos := by simp [World.iterPos, hit]
      have hown2 := own_iterAt hown hit (pos + wd)
      have HIT := Lib.hid hit2
      have HOW := Lib.hid hown2
      have hl1 : (l.take pos).length = pos := by rw [List.length_take]; omega
      rcases hcase with ⟨hrc, hat, hw1⟩ | ⟨hrc, hle, hns2⟩
      · subst hw1
        have hsp2 : splitL l c = (ps ++ [(l.take pos).drop frm]) ++ splitGo c ((l.take (pos + 1)).drop (pos + 1)) (l.drop (pos + 1)) := by
          rw [hsp.out, splitGo_hit (by simp; omega) (by simpa [List.getD, List.getElem?_drop] using hat), List.append_assoc]
          simp only [List.drop_drop, List.cons_append, List.nil_append]
          have ed : (l.take (pos + 1)).drop (pos + 1) = [] := List.drop_eq_nil_of_le (by rw [List.length_take]; omega)
          rw [ed]
        have HSP := Lib.hid hsp2
        have HD := Lib.hid hd; have HA := Lib.hid hat
        obtain rfl := hrc
        have x1 := ba_ext l frm pos
        have hfpI : (frm : Int) ≤ (pos : Int) := by omega
        have hpsI : (pos : Int) ≤ (l.length : Int) := by omega
        clear hd hat hsp hown hown2 hit2 hsp2 hl1
        go_wp2_with (at_builtin; refine wpList_app_one isStr rfl (.tmp 18) (.tmp 23) rfl w _ ps.length (cellsS ps) rfl (wr.iterAt w.heap.size ⟨l.toArray⟩ (pos + 1)) [.string ⟨((l.take pos).drop frm).toArray⟩] rfl HOW.out rfl rfl (by simp [Value.oneCell']) (by omega) hbw2 ?_)
        intro v1 w1 hown1 hg1 hb1
        have o1 : OwnS w1 w.heap.size v1 (ps ++ [(l.take pos).drop frm]) := by
          have e : (ps ++ [(l.take pos).drop frm]).length = ps.length + 1 := by simp
          unfold OwnS
          rw [e]
          simpa [cellsS] using hown1
        have O1 := Lib.hid o1
        have i1 : w1.heap[w.heap.size]? = some (.stringIter ⟨l.toArray⟩ (pos + 1)) := (hg1.block _ (by rw [Lib.iterAt_size]; exact hszw) (own_ne_iter HOW.out HIT.out)).trans HIT.out
        have I1 := Lib.hid i1
        clear hown1 o1 hg1 i1 hit
        go_wp2_with fail
        go_roundw
        case rel => exact ⟨pos + 1, pos + 1, ps ++ [(l.take pos).drop frm], by omega, by omega, by go_num, I1.out, hb1, by simp; omega, O1.out, HSP⟩
        case measure =>
          rw [hmu]
          simp only [World.iterPos, I1.out]
          omega
      · have hsp2 : splitL l c = ps ++ splitGo c ((l.take (pos + wd)).drop frm) (l.drop (pos + wd)) := by
          rw [hsp.out, splitGo_skip c wd _ (l.drop pos) (by rw [List.length_drop]; omega) hns2, List.drop_drop]
          have ed : (l.take pos).drop frm ++ (l.drop pos).take wd = (l.take (pos + wd)).drop frm := by
            rw [List.take_add, List.drop_append, hl1]
            have e0 : frm - pos = 0 := by omega
            rw [e0, List.drop_zero]
          rw [ed]
        have HSP := Lib.hid hsp2
        have hne : ¬ (r : Int) = (c.toNat : Int) := by omega
        clear hd hns2 hsp hsp2 hown hown2 hit hit2 hl1
        go_wp2
        go_roundw
        case rel => exact ⟨pos + wd, frm, ps, hle, by omega, rfl, HIT.out, hbw2, by omega, HOW.out, HSP⟩
        case measure =>
          rw [hmu]
          simp only [World.iterPos, HIT.out]
          omega
    · have hnx := fun ty => Lib.run_next_end_at (P := Tryd.prog) wr w.heap.size ⟨l.toArray⟩ pos ty hit hp
      obtain rfl : pos = l.length := by omega
      have hsp2 : splitL l c = ps ++ [l.drop frm] := by rw [hsp.out, List.take_length, List.drop_length]; rfl
      have HSP := Lib.hid hsp2
      have HOW := Lib.hid hown
      have x1 := ba_ext l frm l.length
      rw [List.take_length] at x1
      have hfpI : (frm : Int) ≤ (l.length : Int) := by omega
      clear hsp hsp2 hown
      go_wp2_with (at_builtin; refine wpList_app_one isStr rfl (.tmp 27) (.tmp 31) rfl w _ ps.length (cellsS ps) rfl wr [.string ⟨(l.drop frm).toArray⟩] rfl HOW.out rfl rfl (by simp [Value.oneCell']) (by omega) hbw ?_)
      intro v1 w1 hown1 hg1 hb1
      have o1 : OwnS w1 w.heap.size v1 (splitL l c) := by
        have e : (splitL l c).length = ps.length + 1 := by rw [HSP.out]; simp
        unfold OwnS
        rw [e, HSP.out]
        simpa [cellsS] using hown1
      obtain ⟨A', c', rfl, f1, f2⟩ := o1.form
      have O1 := Lib.hid o1.at
      have F1 := Lib.hid f1
      clear hown1 o1 hg1 f1
      go_wp2_with fail
      go_ret
      exact ⟨A', c', rfl, F1.out, f2, O1.out, hb1⟩
end Go.Proofs.YtlgfollajodpaaaDoor

/-
  The queue and the document's beside one another; Line of both, in one way; few.
-/
import Derived.Test.YtgbialnnfadlgaaPutS22
import Derived.Test.YtgbialnnfadlgaaRefP22
import Derived.Test.YtgbialnnfadlgaaActs22
import Derived.Test.YtgbialnnfadlgaaSame
namespace Go.Proofs.Ytgbialnnfadlgaa
set_option linter.unusedVariables false
set_option linter.unusedSimpArgs false
open Go.RowKit

/-- The queue in block g, the document's in block h, with the same bytes, and nothing shared. -/
structure Both (w : World) (g h : Nat) (M : Int) (R : List UInt8) (s : Bool) (v u : Value) : Prop where
  q : Que w g M v R s
  r : RQ w h M u R s
  lt : g < h
  sep : ∀ i, v.ownBlock = some i → u.ownBlock ≠ some i
  go : s = true → R = []
theorem Tl.noblk {w : World} {B h t : Nat} {v : Value} {l : List UInt8} {cs : List Value} (ht : Tl w B v l) (hk : Blk w h t cs) (hne : t ≠ 5) : v.ownBlock ≠ some h := by
  intro e
  rcases ht with ⟨rfl, rfl⟩ | ⟨g, off, c, rfl, hB, hg, h1, h2, ⟨cur, fr, hty⟩, hs, hc⟩
  · cases e
  · have e' : g = h := Option.some.inj e
    subst e'
    unfold Blk at hk
    rw [hk] at hty
    injection hty with hty
    injection hty with _ h3 _
    exact hne h3
theorem tyQ : 40 ≠ 5 := by decide
/-- What the queue does leaves the document's as it was. -/
theorem Both.mine {w w' : World} {g h : Nat} {M : Int} {R R' : List UInt8} {s s' : Bool} {v u v' : Value} (b : Both w g h M R s v u) (q' : Que w' g M v' R' s') (k : Keep w w' g v v') : RQ w' h M u R s ∧ ∀ i, v'.ownBlock = some i → u.ownBlock ≠ some i := by
  have hv := Tl.noblk b.q.2.1 b.r.1 tyQ
  refine ⟨⟨(k.block h b.r.lt (by have := b.lt; omega) hv).trans b.r.1, b.r.2.1.same k.size fun i hi => k.block i (b.r.2.1.lt hi).2 (by have := (b.r.2.1.lt hi).1; have := b.lt; omega) (fun e => b.sep i e hi), b.r.2.2⟩, fun i hi ho => ?_⟩
  rcases k.own with e | e
  · exact b.sep i (e ▸ hi) ho
  · have := e i hi; have := (b.r.2.1.lt ho).2; omega
/-- What the document's does leaves the queue as it was. -/
theorem both_of {w w' : World} {g h : Nat} {M : Int} {R R' : List UInt8} {s s' : Bool} {v u u' : Value} (q : Que w g M v R' s') (r : RQ w h M u R s) (sep : ∀ i, v.ownBlock = some i → u.ownBlock ≠ some i) (lt : g < h) (go : s' = true → R' = []) (r' : RQ w' h M u' R' s') (k : Keep w w' h u u') : Both w' g h M R' s' v u' := by
  have hv := Tl.noblk q.2.1 r.1 tyQ
  have hu : u.ownBlock ≠ some g := fun e => by have := (r.2.1.lt e).1; omega
  refine ⟨⟨(k.block g q.lt (by omega) hu).trans q.1, q.2.1.same k.size fun i hi => k.block i (q.2.1.lt hi).2 (fun e => hv (e ▸ hi)) (fun e => sep i hi e), q.2.2⟩, r', lt, fun i hi ho => ?_, go⟩
  rcases k.own with e | e
  · exact sep i hi (e ▸ ho)
  · have := e i ho; have := (q.2.1.lt hi).2; omega
theorem Both.below {w w' : World} {g h : Nat} {M : Int} {R : List UInt8} {s : Bool} {v u : Value} (b : Both w g h M R s v u) (hb : Below w.heap.size w w') : Both w' g h M R s v u := ⟨b.q.below hb, b.r.below hb, b.lt, b.sep, b.go⟩

def mxN (m : Int) : Int := if m < 0 then 0 else m
theorem mxN_or (m : Int) : m < 0 ∧ mxN m = 0 ∨ ¬ m < 0 ∧ mxN m = m := by unfold mxN; split <;> omega
/-- What Line tells, and what it leaves. -/
def lineA (R : List UInt8) (m : Int) : List UInt8 := if eolN R = -1 then [] else if mxN m < eolN R then [] else R.take (eolN R).toNat
def lineI (R : List UInt8) (m : Int) : Bool := if eolN R = -1 then decide (mxN m < (R.length : Int)) else true
def lineL (R : List UInt8) (m : Int) : Bool := if eolN R = -1 then decide (mxN m < (R.length : Int)) else decide (mxN m < eolN R)
def lineR (R : List UInt8) (m : Int) : List UInt8 := if eolN R = -1 then (if mxN m < (R.length : Int) then [] else R) else R.drop ((eolN R).toNat + 1)
def lineS (R : List UInt8) (s : Bool) (m : Int) : Bool := if eolN R = -1 then (if mxN m < (R.length : Int) then true else s) else s
theorem lineS_go {R : List UInt8} {s : Bool} {m : Int} (h : s = true → R = []) : lineS R s m = true → lineR R m = [] := by
  unfold lineS lineR
  by_cases he : eolN R = -1
  · rw [if_pos he, if_pos he]
    split
    · exact fun _ => rfl
    · exact h
  · rw [if_neg he, if_neg he]
    intro e
    rw [h e]
    simp
theorem passS_go {R m : List UInt8} {s : Bool} (h : s = true → R = []) : passS s m = true → R ++ m.drop (passN s m) = [] := by
  unfold passS passN
  cases s with
  | false => simp
  | true =>
    rw [h rfl]
    by_cases he : eolN m = -1
    · simp [he]
    · simp [he]
theorem Line22_all (g : Nat) (M : Int) (v : Value) (R : List UInt8) (s : Bool) (m : Int) (w : World) (h : Que w g M v R s) :
    Calls Try.prog 16 #[.pointer (some ⟨g, 0, none⟩), .int .i64 m] w fun e w' => ∃ A1 n1 v', e = .returned (.tuple #[.slice A1 (lineA R m).length n1, .bool (lineI R m), .bool (lineL R m)]) ∧ Own w' w.heap.size 5 (.slice A1 (lineA R m).length n1) (lineA R m) ∧ Que w' g M v' (lineR R m) (lineS R s m) ∧ Keep w w' g v v' := by
  have hge := eolN_ge R
  have hmx := mxN_or m
  by_cases he : eolN R = -1
  · by_cases hk : mxN m < (R.length : Int)
    · have eA : lineA R m = [] := by unfold lineA; rw [if_pos he]
      have eI : lineI R m = true := by unfold lineI; rw [if_pos he, decide_eq_true hk]
      have eL : lineL R m = true := by unfold lineL; rw [if_pos he, decide_eq_true hk]
      have eR : lineR R m = [] := by unfold lineR; rw [if_pos he, if_pos hk]
      have eS : lineS R s m = true := by unfold lineS; rw [if_pos he, if_pos hk]
      rw [eA, eI, eL, eR, eS]
      rcases hmx with ⟨h1, h2⟩ | ⟨h1, h2⟩
      · refine (Line_many_neg g M v R s m w h h1 he (by omega)).mono ?_
        rintro e w' ⟨rfl, hq, hk⟩
        exact ⟨none, 0, _, rfl, Own.nil _ _ _, hq, hk⟩
      · refine (Line_many_pos g M v R s m w h h1 he (by omega)).mono ?_
        rintro e w' ⟨rfl, hq, hk⟩
        exact ⟨none, 0, _, rfl, Own.nil _ _ _, hq, hk⟩
    · have eA : lineA R m = [] := by unfold lineA; rw [if_pos he]
      have eI : lineI R m = false := by unfold lineI; rw [if_pos he, decide_eq_false hk]
      have eL : lineL R m = false := by unfold lineL; rw [if_pos he, decide_eq_false hk]
      have eR : lineR R m = R := by unfold lineR; rw [if_pos he, if_neg hk]
      have eS : lineS R s m = s := by unfold lineS; rw [if_pos he, if_neg hk]
      rw [eA, eI, eL, eR, eS]
      rcases hmx with ⟨h1, h2⟩ | ⟨h1, h2⟩
      · refine (Line_none_neg g M v R s m w h h1 he (by omega)).mono ?_
        rintro e w' ⟨rfl, rfl⟩
        exact ⟨none, 0, _, rfl, Own.nil _ _ _, h, Keep.refl _ _ _⟩
      · refine (Line_none_pos g M v R s m w h h1 he (by omega)).mono ?_
        rintro e w' ⟨rfl, rfl⟩
        exact ⟨none, 0, _, rfl, Own.nil _ _ _, h, Keep.refl _ _ _⟩
  · obtain ⟨k, hk⟩ : ∃ k : Nat, eolN R = (k : Int) := ⟨(eolN R).toNat, by omega⟩
    have hkn : ¬ (k : Int) = -1 := by omega
    by_cases hl : mxN m < (k : Int)
    · have eA : lineA R m = [] := by unfold lineA; rw [hk, if_neg hkn, if_pos hl]
      have eI : lineI R m = true := by unfold lineI; rw [hk, if_neg hkn]
      have eL : lineL R m = true := by unfold lineL; rw [hk, if_neg hkn, decide_eq_true hl]
      have eR : lineR R m = R.drop (k + 1) := by unfold lineR; rw [hk, if_neg hkn, Int.toNat_natCast]
      have eS : lineS R s m = s := by unfold lineS; rw [hk, if_neg hkn]
      rw [eA, eI, eL, eR, eS]
      rcases hmx with ⟨h1, h2⟩ | ⟨h1, h2⟩
      · refine (Line_far_neg g M v R s m w h h1 k hk (by omega)).mono ?_
        rintro e w' ⟨v', rfl, hq, hk⟩
        exact ⟨none, 0, _, rfl, Own.nil _ _ _, hq, hk⟩
      · refine (Line_far_pos g M v R s m w h h1 k hk (by omega)).mono ?_
        rintro e w' ⟨v', rfl, hq, hk⟩
        exact ⟨none, 0, _, rfl, Own.nil _ _ _, hq, hk⟩
    · have eA : lineA R m = R.take k := by unfold lineA; rw [hk, if_neg hkn, if_neg hl, Int.toNat_natCast]
      have eI : lineI R m = true := by unfold lineI; rw [hk, if_neg hkn]
      have eL : lineL R m = false := by unfold lineL; rw [hk, if_neg hkn, decide_eq_false hl]
      have eR : lineR R m = R.drop (k + 1) := by unfold lineR; rw [hk, if_neg hkn, Int.toNat_natCast]
      have eS : lineS R s m = s := by unfold lineS; rw [hk, if_neg hkn]
      rw [eA, eI, eL, eR, eS]
      rcases hmx with ⟨h1, h2⟩ | ⟨h1, h2⟩
      · refine (Line_in_neg g M v R s m w h h1 k hk (by omega)).mono ?_
        rintro e w' ⟨A1, n1, v', rfl, _, _, ho, hq, hk⟩
        exact ⟨A1, n1, v', rfl, ho, hq, hk⟩
      · refine (Line_in_pos g M v R s m w h h1 k hk (by omega)).mono ?_
        rintro e w' ⟨A1, n1, v', rfl, _, _, ho, hq, hk⟩
        exact ⟨A1, n1, v', rfl, ho, hq, hk⟩
theorem RefLine22_all (h : Nat) (M : Int) (v : Value) (R : List UInt8) (s : Bool) (m : Int) (w : World) (q : RQ w h M v R s) (hgo : s = true → R = []) :
    Calls Try.prog 17 #[.pointer (some ⟨h, 0, none⟩), .int .i64 m] w fun e w' => ∃ A1 n1 v', e = .returned (.tuple #[.slice A1 (lineA R m).length n1, .bool (lineI R m), .bool (lineL R m)]) ∧ Own w' w.heap.size 5 (.slice A1 (lineA R m).length n1) (lineA R m) ∧ RQ w' h M v' (lineR R m) (lineS R s m) ∧ Keep w w' h v v' := by
  have hge := eolN_ge R
  have hmx := mxN_or m
  by_cases he : eolN R = -1
  · by_cases hk : mxN m < (R.length : Int)
    · have eA : lineA R m = [] := by unfold lineA; rw [if_pos he]
      have eI : lineI R m = true := by unfold lineI; rw [if_pos he, decide_eq_true hk]
      have eL : lineL R m = true := by unfold lineL; rw [if_pos he, decide_eq_true hk]
      have eR : lineR R m = [] := by unfold lineR; rw [if_pos he, if_pos hk]
      have eS : lineS R s m = true := by unfold lineS; rw [if_pos he, if_pos hk]
      rw [eA, eI, eL, eR, eS]
      refine (RefLine_many h M v R s m _ w q hmx he hk).mono ?_
      rintro e w' ⟨v', rfl, hq, hk⟩
      exact ⟨none, 0, _, rfl, Own.nil _ _ _, hq, hk⟩
    · have eA : lineA R m = [] := by unfold lineA; rw [if_pos he]
      have eI : lineI R m = false := by unfold lineI; rw [if_pos he, decide_eq_false hk]
      have eL : lineL R m = false := by unfold lineL; rw [if_pos he, decide_eq_false hk]
      have eR : lineR R m = R := by unfold lineR; rw [if_pos he, if_neg hk]
      have eS : lineS R s m = s := by unfold lineS; rw [if_pos he, if_neg hk]
      rw [eA, eI, eL, eR, eS]
      refine (RefLine_none h M v R s m _ w q hmx he hk).mono ?_
      rintro e w' ⟨rfl, rfl⟩
      exact ⟨none, 0, _, rfl, Own.nil _ _ _, q, Keep.refl _ _ _⟩
  · obtain ⟨k, hk⟩ : ∃ k : Nat, eolN R = (k : Int) := ⟨(eolN R).toNat, by omega⟩
    have hkn : ¬ (k : Int) = -1 := by omega
    have hsf : s = false := by
      cases s with
      | false => rfl
      | true => exact absurd (hgo rfl) (fun e => by rw [e] at hk; have : eolN [] = -1 := by decide +kernel
                                                    omega)
    by_cases hl : mxN m < (k : Int)
    · have eA : lineA R m = [] := by unfold lineA; rw [hk, if_neg hkn, if_pos hl]
      have eI : lineI R m = true := by unfold lineI; rw [hk, if_neg hkn]
      have eL : lineL R m = true := by unfold lineL; rw [hk, if_neg hkn, decide_eq_true hl]
      have eR : lineR R m = R.drop (k + 1) := by unfold lineR; rw [hk, if_neg hkn, Int.toNat_natCast]
      have eS : lineS R s m = false := by unfold lineS; rw [hk, if_neg hkn, hsf]
      rw [eA, eI, eL, eR, eS]
      refine (RefLine_far h M v R s m _ w q hmx k hk hl).mono ?_
      rintro e w' ⟨v', rfl, hq, hk⟩
      exact ⟨none, 0, _, rfl, Own.nil _ _ _, hq, hk⟩
    · have eA : lineA R m = R.take k := by unfold lineA; rw [hk, if_neg hkn, if_neg hl, Int.toNat_natCast]
      have eI : lineI R m = true := by unfold lineI; rw [hk, if_neg hkn]
      have eL : lineL R m = false := by unfold lineL; rw [hk, if_neg hkn, decide_eq_false hl]
      have eR : lineR R m = R.drop (k + 1) := by unfold lineR; rw [hk, if_neg hkn, Int.toNat_natCast]
      have eS : lineS R s m = s := by unfold lineS; rw [hk, if_neg hkn]
      rw [eA, eI, eL, eR, eS]
      refine (RefLine_in h M v R s m _ w q hmx k hk hl).mono ?_
      rintro e w' ⟨A1, n1, v', rfl, ho, hq, hk⟩
      exact ⟨A1, n1, v', rfl, ho, hq, hk⟩
def fewB22 (L : List A22) : Bool := decide (L.length ≤ 40) && L.all fun s => decide (s.b.length ≤ 300)
set_option maxHeartbeats 1600000 in
theorem few22_any (A : Option Addr) (c : Nat) (L : List A22) (w : World) (hin : ActsIn22 w A L) :
    Calls Try.prog 7 #[.slice A L.length c] w fun e w' => e = .returned (.bool (fewB22 L)) ∧ w = w' := by
  by_cases hl : 40 < (L.length : Int)
  · have e : fewB22 L = false := by unfold fewB22; rw [decide_eq_false (by omega)]; rfl
    rw [e]
    go_enter Try.func7, Try.ntmps7
    go_wp2_with fail
    go_ret
    exact ⟨rfl, rfl⟩
  have HIN := Lib.hid hin
  have hl2 : decide (L.length ≤ 40) = true := decide_eq_true (by omega)
  have HL2 := Lib.hid hl2
  clear hin hl2
  go_enter Try.func7, Try.ntmps7
  go_wp2_with fail
  go_loopw [3] (fun vi wr => wr = w ∧ ∃ k : Nat, k ≤ L.length ∧ vi = .int .i64 (k : Int) ∧ ∀ s ∈ L.take k, s.b.length ≤ 300) (fun i _ => L.length - (intOf i).toNat)
  case atStart => exact ⟨rfl, 0, Nat.zero_le _, rfl, fun s hs => by simp at hs⟩
  case round =>
    obtain ⟨rfl, k, hk, rfl, hok⟩ := hrel
    have HOK := Lib.hid hok
    clear hok
    by_cases hlt : k < L.length
    · have hi1 : (k : Int) < (L.length : Int) := by omega
      obtain ⟨y, hy⟩ : ∃ y, L[k]? = some y := ⟨_, List.getElem?_eq_getElem hlt⟩
      obtain ⟨b, off, rfl, hblt, hcell⟩ := HIN.out.cell hy
      have h1 := hcell.2.1
      obtain ⟨yk, ya, yc, yb, yn⟩ := y
      dsimp only at h1
      have HY := Lib.hid hy
      clear hcell hy hblt
      by_cases h300 : 300 < (yb.length : Int)
      · have e : fewB22 L = false := by
          unfold fewB22
          rw [show (L.all fun s => decide (s.b.length ≤ 300)) = false from List.all_eq_false.2 ⟨_, List.mem_of_getElem? HY.out, by simp; omega⟩, Bool.and_false]
        have HE := Lib.hid e
        clear e
        go_wp2_with fail
        go_ret
        rw [HE.out]
        exact ⟨rfl, rfl⟩
      · go_wp2_with fail
        go_roundw
        case rel =>
          refine ⟨(by trivial), k + 1, hlt, by simp, fun s hs => ?_⟩
          rw [List.take_add_one, HY.out] at hs
          rcases List.mem_append.1 hs with h | h
          · exact HOK.out s h
          · obtain rfl : s = _ := by simpa using h
            show yb.length ≤ 300
            omega
        case measure => simp only [intOf]; omega
    · have hi1 : ¬ (k : Int) < (L.length : Int) := by omega
      have e : fewB22 L = true := by
        unfold fewB22
        rw [HL2.out, Bool.true_and, List.all_eq_true]
        intro s hs
        have := HOK.out
        rw [List.take_of_length_le (by omega)] at this
        simpa using this s hs
      have HE := Lib.hid e
      clear e
      go_wp2_with fail
      go_ret
      rw [HE.out]
      exact ⟨rfl, rfl⟩
theorem New22_ex (m : Int) (w : World) :
    Calls Try.prog 9 #[.int .i64 m] w fun e w' => ∃ g, e = .returned (.pointer (some ⟨g, 0, none⟩)) ∧ w.heap.size ≤ g ∧ Que w' g (mostN m) (.slice none 0 0) [] false ∧ Below w.heap.size w w' := by
  refine (New22_any m w).mono ?_
  rintro e w' ⟨rfl, rfl⟩
  exact ⟨_, rfl, Nat.le_refl _, Que.new m w, (Below.refl _ _).alloc (Nat.le_refl _) _⟩
theorem RefNew22_ex (m : Int) (w : World) :
    Calls Try.prog 10 #[.int .i64 m] w fun e w' => ∃ g, e = .returned (.pointer (some ⟨g, 0, none⟩)) ∧ w.heap.size ≤ g ∧ RQ w' g (mostN m) (.slice none 0 0) [] false ∧ Below w.heap.size w w' := by
  refine (RefNew22 m w).mono ?_
  rintro e w' ⟨rfl, hq, hb⟩
  exact ⟨_, rfl, Nat.le_refl _, hq, hb⟩
theorem Same_refl (A A' : Option Addr) (c c' : Nat) (l : List UInt8) (w : World) (h : Bytes w A l) (h' : Bytes w A' l) :
    Calls Try.prog 13 #[.slice A l.length c, .slice A' l.length c'] w fun e w' => e = .returned (.bool true) ∧ w' = w := by
  refine (Same_any A A' l.length l.length c c' l l rfl rfl w h h').mono ?_
  rintro e w' ⟨rfl, rfl⟩
  exact ⟨by simp, rfl⟩
/-- A row that a call of the queue's told, behind what the document's did. -/
theorem own_past {w wx wy : World} {h : Nat} {M : Int} {u u' x : Value} {R l : List UInt8} {s : Bool} (ho : Own wx w.heap.size 5 x l) (r : RQ w h M u R s) (k : Keep wx wy h u u') : Own wy w.heap.size 5 x l :=
  Own.keep' ho k r.lt (fun i hi e => by have h1 := (r.2.1.lt hi).2; have h2 := ho.blk e; omega)
end Go.Proofs.Ytgbialnnfadlgaa

/-
  One feed, one look, one message more: what becomes of what holds.
-/
import Derived.Test.YtjhmkapafhgofaaDoorStr7W
import Derived.Test.YtjhmkapafhgofaaDoorFault7
namespace Go.Proofs.YtjhmkapafhgofaaDoor
set_option linter.unusedVariables false
open Go.RowKit

/-- What holds between looks: p bytes were fed, k messages at least were taken; dr: the last look found none. -/
def SInv (w : World) (l : List UInt8) (p k : Nat) (dr : Bool) (vg : Value) (wr : World) : Prop :=
  Below w.heap.size w wr ∧ ∃ M : List Ms, k ≤ M.length ∧ OwnM wr (w.heap.size + 1) vg M ∧
   ((∃ vs R, StOk wr w.heap.size vs R ∧ InvOk l p (M.map Ms.abs) R ∧ (∀ s ∈ M, BX wr w.heap.size vs s) ∧ (dr = true → (nextF R).size = 0 ∧ (nextF R).code = 0)) ∨
    (∃ U D, StBad wr w.heap.size U D ∧ D.length ≤ 2 ∧ InvBad l (M.map Ms.abs) U D ∧ ∀ s ∈ M, BX wr w.heap.size (.slice none 0 0) s))
/-- What holds behind a look that found the message s, ahead of its being put behind the others. -/
def NInv (w : World) (l : List UInt8) (p k : Nat) (vg : Value) (s : Ms) (wr : World) : Prop :=
  Below w.heap.size w wr ∧ ∃ M : List Ms, k ≤ M.length ∧ OwnM wr (w.heap.size + 1) vg M ∧ ∃ vs R, StOk wr w.heap.size vs R ∧ InvOk l p ((M ++ [s]).map Ms.abs) R ∧ ∀ x ∈ M ++ [s], BX wr w.heap.size vs x
theorem SInv.start (w : World) (l : List UInt8) : SInv w l 0 0 false (.slice none 0 0) (w.alloc (.cells #[.slice none 0 0, .int .i64 0, .int .i64 0, .slice none 0 0] 55)) :=
  ⟨(Below.refl _ _).alloc (Nat.le_refl _) _, [], Nat.le_refl _, OwnM.nil _ _, .inl ⟨.slice none 0 0, [], ⟨Blk.new w _ _, Tl.nil _ _⟩, inv_start l, (fun s hs => by cases hs), fun h => by cases h⟩⟩
theorem feed_step {w wr : World} {l X : List UInt8} {p k n c : Nat} {dr : Bool} {vg : Value} {Ar : Option Addr} (h : SInv w l p k dr vg wr) (hp : p ≤ l.length) (hX : X = (l.drop p).take n) (hn : n ≤ l.length - p) (hl : l.length ≤ 1000000) (hb : Bytes wr Ar X) :
    Calls Tryd.prog 18 #[.pointer (some ⟨w.heap.size, 0, none⟩), .slice Ar X.length c] wr fun e w' => e = .returned (.tuple #[]) ∧ SInv w l (p + n) 0 false vg w' := by
  obtain ⟨hbw, M, hk, ho, ⟨vs, R, hs, hi, hx, hd⟩ | ⟨U, D, hs, hD, hi, hx⟩⟩ := h
  · refine (Feed_any w.heap.size vs R Ar c X wr hs hb (by have := hi.1; have := hi.2.1; subst hX; simp; omega)).mono fun e w' h => ?_
    obtain ⟨he, vs', hs', hke⟩ := h
    refine ⟨he, hbw.trans (hke.below (Nat.le_refl _) (fun i hi => Nat.le_of_lt (hs.own hi).1) hbw.size), M, Nat.zero_le _, ho.keep (fun i hi => hs.2.type hi) hke, .inl ⟨vs', R ++ X, hs', ?_, fun s hs => (hx s hs).keep hke, fun h => by cases h⟩⟩
    subst hX
    exact inv_feed hi hn
  · refine (FeedBad_any w.heap.size U D Ar X.length c wr hs).mono fun e w' h => ?_
    obtain ⟨he, rfl⟩ := h
    exact ⟨he, hbw, M, Nat.zero_le _, ho, .inr ⟨U, D, hs, hD, hi, hx⟩⟩
/-- What a look tells. -/
def LookPost (w : World) (l : List UInt8) (p k : Nat) (vg : Value) (e : Ending) (w' : World) : Prop :=
  (∃ s : Ms, e = .returned (.tuple #[.int .i64 s.kind, .slice s.adr s.body.length s.cap, .bool true]) ∧ NInv w l p k vg s w') ∨
  (∃ (kd : Int) (A : Option Addr) (n c : Nat), e = .returned (.tuple #[.int .i64 kd, .slice A n c, .bool false]) ∧ SInv w l p k true vg w')
theorem look_step {w wr : World} {l : List UInt8} {p k : Nat} {dr : Bool} {vg : Value} (h : SInv w l p k dr vg wr) (hp : p ≤ l.length) (hl : l.length ≤ 1000000) (ht : TabL wr) :
    Calls Tryd.prog 19 #[.pointer (some ⟨w.heap.size, 0, none⟩)] wr (LookPost w l p k vg) := by
  obtain ⟨hbw, M, hk, ho, ⟨vs, R, hs, hi, hx, hd⟩ | ⟨U, D, hs, hD, hi, hx⟩⟩ := h
  · refine (SNext_any w.heap.size vs R wr hs (by have := hi.1; omega) ht).mono fun e w' h => ?_
    rcases h with ⟨hC, vs', A, c, rfl, hs', hke, f, q, hown, hv⟩ | ⟨hC, rfl, hs', hke⟩
    · have hbw' := hbw.trans (hke.below (Nat.le_refl _) (fun i hi => Nat.le_of_lt (hs.own hi).1) hbw.size)
      have ho' := ho.keep (fun i hi => hs.2.type hi) hke
      by_cases hS : (nextF R).size = 0
      · right
        refine ⟨_, A, _, c, by rw [hS]; rfl, hbw', M, hk, ho', .inl ⟨vs', _, hs', ?_, fun s hs => (hx s hs).keep hke, fun _ => ?_⟩⟩
        · rw [hS]; exact hi
        · rw [hS]; exact ⟨hS, hC⟩
      · left
        refine ⟨⟨((nextF R).kind : Int), A, c, (nextF R).body⟩, by rw [show decide (0 < (nextF R).size) = true from decide_eq_true (by omega)], hbw', M, hk, ho', vs', _, hs', ?_, fun x hx' => ?_⟩
        · have := inv_take hi hS
          rw [List.map_append]
          exact this
        · rcases List.mem_append.1 hx' with h1 | h1
          · exact (hx x h1).keep hke
          · simp only [List.mem_singleton] at h1
            subst h1
            intro hne
            rcases hown.2 with ⟨h2, h3⟩ | ⟨g', cap, cur, h2, hbg, hg, hnc, hcm, hcs, htake⟩
            · exact absurd (List.eq_nil_of_length_eq_zero h3) hne
            · obtain ⟨b, off, hA, hlt, hc⟩ := hown.bytes hne
              have hA2 : A = some ⟨g', 0, none⟩ := by injection h2
              have hgb : g' = b := by rw [hA2] at hA; injection hA with h5; injection h5
              subst hgb
              refine ⟨g', off, hA, Nat.lt_of_lt_of_le hs.lt hbg, hlt, ?_, ⟨cur, (0, 0), hg⟩, hc⟩
              rw [hv]
              intro e2
              have := (hs.own e2).2
              omega
    · right
      refine ⟨0, none, 0, 0, rfl, hbw.trans (hke.below (Nat.le_refl _) (fun i hi => Nat.le_of_lt (hs.own hi).1) hbw.size), M, hk, ho.keep (fun i hi => hs.2.type hi) hke, .inr ⟨_, _, hs', nextF_data R, inv_bad hi hC, fun s hs => (hx s hs).keep hke⟩⟩
  · refine (SNextBad_any w.heap.size U D wr hs ht).mono fun e w' h => ?_
    obtain ⟨⟨A, c, rfl⟩, hs', hke⟩ := h
    exact .inr ⟨0, A, 0, c, rfl, hbw.trans (hke.below (Nat.le_refl _) (fun i hi => by cases hi) hbw.size), M, hk, ho.keep (fun i hi => by cases hi) hke, .inr ⟨U, D, hs', hD, hi, fun s hs => (hx s hs).keep hke⟩⟩
/-- One message more. -/
theorem more_step {w w1 w2 : World} {l : List UInt8} {p k : Nat} {vg v' : Value} {s : Ms} {M : List Ms} (hM : OwnM w1 (w.heap.size + 1) vg M) (hbw : Below w.heap.size w w1) (hk : k ≤ M.length)
    {vs : Value} {R : List UInt8} (hs : StOk w1 w.heap.size vs R) (hi : InvOk l p ((M ++ [s]).map Ms.abs) R) (hx : ∀ x ∈ M ++ [s], BX w1 w.heap.size vs x)
    (ho : w2.ownsRow (w.heap.size + 1) 47 2 v' (M.length + 1) (flatM M ++ s.two)) (hg : w1.grownBy w2 vg.ownBlock) : SInv w l p (k + 1) false v' w2 :=
  ⟨hbw.grown hg hbw.size (fun i hi => by have := (hM.lt hi).1; omega), M ++ [s], by rw [List.length_append, List.length_singleton]; omega, OwnM.push ho, .inl ⟨vs, R, hs.grow hM hg, hi, fun x hx' => (hx x hx').grow hM hg, fun h => by cases h⟩⟩
/-- A world's first blocks. -/
def cutW (w : World) (n : Nat) : World := { w with heap := w.heap.extract 0 n }
theorem cutW_size {w : World} {n : Nat} (h : n ≤ w.heap.size) : (cutW w n).heap.size = n := by simp [cutW]; omega
theorem cutW_below {w : World} {n : Nat} (h : n ≤ w.heap.size) : Below n (cutW w n) w := by
  refine ⟨rfl, rfl, rfl, by rw [cutW_size h]; exact h, fun k hk => ?_⟩
  simp only [cutW]
  rw [Array.getElem?_extract]
  simp
  intro h1
  omega
theorem SInv.weak {w wr : World} {l : List UInt8} {p k : Nat} {vg : Value} (h : SInv w l p k true vg wr) (b : Bool) : SInv w l p 0 b vg wr := by
  obtain ⟨hbw, M, hk, ho, ⟨vs, R, hs, hi, hx, hd⟩ | h⟩ := h
  · exact ⟨hbw, M, Nat.zero_le _, ho, .inl ⟨vs, R, hs, hi, hx, fun _ => hd rfl⟩⟩
  · exact ⟨hbw, M, Nat.zero_le _, ho, .inr h⟩
theorem allF_len : ∀ (n : Nat) (l : List UInt8), (allF n l).1.length * 19 ≤ l.length
  | 0, l => by simp [allF]
  | n + 1, l => by
    by_cases hc : (nextF l).code = 0
    · by_cases hs : (nextF l).size = 0
      · rw [allF_stop hc hs]; simp
      · rw [allF_more hs]
        have h1 := allF_len n (l.drop (nextF l).size)
        have h2 := nextF_size l
        have h3 := h2.2 hs
        rw [List.length_drop] at h1
        simp only [List.length_cons]
        omega
    · rw [allF_fault hc]; simp
theorem SInv.few {w wr : World} {l : List UInt8} {p k : Nat} {dr : Bool} {vg : Value} (h : SInv w l p k dr vg wr) (hl : l.length ≤ 3000) : k < 200 := by
  obtain ⟨hbw, M, hk, ho, ⟨vs, R, hs, hi, hx, hd⟩ | ⟨U, D, hs, hD, hi, hx⟩⟩ := h
  · have h1 := hi.1
    have h2 := hi.2.1
    rw [List.length_map] at h1
    omega
  · have h1 := allF_len (l.length + 1) l
    unfold InvBad at hi
    rw [hi] at h1
    simp only [List.length_map] at h1
    omega
/-- At the end: what was taken, the fault, and what is left, are those of all bytes at once. -/
theorem inv_close {w wr : World} {l : List UInt8} {vg : Value} (h : SInv w l l.length 0 true vg wr) (hl : l.length ≤ 1000000) :
    Below w.heap.size w wr ∧ ∃ (M : List Ms) (C U lf : Nat) (D : List UInt8), OwnM wr (w.heap.size + 1) vg M ∧ (∀ s ∈ M, Bytes wr s.adr s.body) ∧ allF (l.length + 1) l = (M.map Ms.abs, ((C, U, D), lf)) ∧ M.length ≤ 1000000 ∧
      (∀ W, Below wr.heap.size wr W → Calls Tryd.prog 21 #[.pointer (some ⟨w.heap.size, 0, none⟩)] W (FaultVal W C U D)) ∧
      (∀ W, Below wr.heap.size wr W → Calls Tryd.prog 22 #[.pointer (some ⟨w.heap.size, 0, none⟩)] W fun e w' => e = .returned (.int .i64 (lf : Int)) ∧ W = w') := by
  obtain ⟨hbw, M, hk, ho, ⟨vs, R, hs, hi, hx, hd⟩ | ⟨U, D, hs, hD, hi, hx⟩⟩ := h
  · obtain ⟨h1, h2⟩ := hd rfl
    obtain ⟨A, c, rfl, f, q, hb⟩ := hs.2.form
    have hll := allF_len (l.length + 1) l
    have he := inv_end hi h1 h2
    rw [he] at hll
    simp only [List.length_map] at hll
    refine ⟨hbw, M, 0, 0, R.length, [], ho, fun s hs => (hx s hs).bytes, he, by omega, fun W hW => FaultOk_any _ _ R W (hs.below hW), fun W hW => ?_⟩
    have hc := (hs.below hW).1.cell 0
    go_enter Tryd.func22, Tryd.ntmps22
    go_wp2_with fail
    go_ret
    exact ⟨rfl, rfl⟩
  · have hll := allF_len (l.length + 1) l
    have he : allF (l.length + 1) l = (M.map Ms.abs, ((1, U, D), 0)) := hi
    rw [he] at hll
    simp only [List.length_map] at hll
    refine ⟨hbw, M, 1, U, 0, D, ho, fun s hs => (hx s hs).bytes, he, by omega, fun W hW => FaultBad_any _ U D W (hs.below hW) (by omega), fun W hW => ?_⟩
    obtain ⟨A, dc, hk2, _⟩ := hs.below hW
    have hc := hk2.cell 0
    go_enter Tryd.func22, Tryd.ntmps22
    go_wp2_with fail
    go_ret
    exact ⟨rfl, rfl⟩
end Go.Proofs.YtjhmkapafhgofaaDoor

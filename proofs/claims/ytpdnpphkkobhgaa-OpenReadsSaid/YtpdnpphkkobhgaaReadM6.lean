/-
  One parameter more of an OPEN that is read: what has turned, and what stays.
-/
import Derived.Test.YtpdnpphkkobhgaaReadH6
import Derived.Test.YtpdnpphkkobhgaaCaps6
namespace Go.Proofs.Ytpdnpphkkobhgaa
set_option linter.unusedVariables false
set_option linter.unusedSimpArgs false
open Go.RowKit

theorem next_sum {l : List UInt8} (h : (nextP l false).bad = false) : (nextP l false).val.length + (nextP l false).rest.length + 2 ≤ l.length := by
  unfold nextP rdTake at h ⊢
  by_cases h1 : (0 : Int) ≤ 1 ∧ (1 : Int) ≤ (l.length : Int)
  · simp only [if_pos h1] at h ⊢
    by_cases h2 : (0 : Int) ≤ 1 ∧ (1 : Int) ≤ ((l.drop (1 : Int).toNat).length : Int)
    · simp only [if_pos h2] at h ⊢
      have h3 : ((l.drop (1 : Int).toNat).length : Int) = (l.length : Int) - 1 := by simp; omega
      split at h
      · rename_i hx
        rw [if_pos hx]
        simp at hx ⊢
        omega
      · cases h
    · simp only [if_neg h2] at h ⊢
      split at h
      · cases h
      · cases h
  · simp only [if_neg h1] at h ⊢
    exfalso
    revert h
    split <;> (intro h; split at h <;> cases h)
theorem caps_len : ∀ (n : Nat) (l : List UInt8) (M : Caps), capsP n l = some M → M.length * 2 ≤ l.length
  | 0, _, _, h => by cases h
  | n + 1, l, M, h => by
    unfold capsP at h
    split at h
    · cases h; simp
    · split at h
      · cases h
      · rename_i hb
        cases hc : capsP n (nextP l false).rest with
        | none => rw [hc] at h; cases h
        | some N =>
          rw [hc] at h
          cases h
          have h1 := caps_len n _ N hc
          have h2 := next_less (l := l) (by simpa using hb)
          simp only [List.length_cons]
          omega

def ReadRel (w : World) (l : List UInt8) (T : Nat) (a b c d : Int) (wr : World) : Prop :=
  Below w.heap.size w wr ∧ Blk wr w.heap.size 25 [.int .i64 0, .int .i64 0, .int .i64 0, .int .u32 0, .slice none 0 0] ∧ Blk wr (w.heap.size + 1) 36 [.int .i64 0, .int .i64 0, .slice none 0 0] ∧
  w.heap.size + 2 < T ∧ T < wr.heap.size ∧ ∃ (k : Nat) (M : List Cp) (R : List UInt8) (v : Value), ParInv l k (M.map Cp.abs) R ∧ M.length + R.length ≤ l.length ∧ Rd wr (w.heap.size + 2) (w.heap.size + 2) R false ∧
    Blk wr T 25 [.int .i64 a, .int .i64 b, .int .i64 c, .int .u32 d, v] ∧ OwnC wr (T + 1) v M ∧ ∀ s ∈ M, CpOk wr (T + 1) s
theorem read_more {w wr w3 w4 w5 : World} {l R : List UInt8} {T k c' : Nat} {a b c d : Int} {M M' : List Cp} {v v' : Value} {A' : Option Addr}
    (hbw : Below w.heap.size w wr) (k2 : Blk wr w.heap.size 25 [.int .i64 0, .int .i64 0, .int .i64 0, .int .u32 0, .slice none 0 0]) (k3 : Blk wr (w.heap.size + 1) 36 [.int .i64 0, .int .i64 0, .slice none 0 0])
    (hT : w.heap.size + 2 < T) (hTs : T < wr.heap.size) (hp : ParInv l k (M.map Cp.abs) R) (hML : M.length + R.length ≤ l.length) (k8 : Blk wr T 25 [.int .i64 a, .int .i64 b, .int .i64 c, .int .u32 d, v]) (ho : OwnC wr (T + 1) v M) (hc : ∀ s ∈ M, CpOk wr (T + 1) s)
    (hr : R ≠ []) (hbad : (nextP R false).bad = false) (hk : (nextP R false).kind = 2) (hcp : capsP ((nextP R false).val.length + 1) (nextP R false).val = some (M'.map Cp.abs))
    (hg : wr.grownBy w3 (some (w.heap.size + 2))) (hrd : Rd w3 (w.heap.size + 2) (w.heap.size + 2) (nextP R false).rest false)
    (hb4 : Below w3.heap.size w3 w4) (hoc : OwnC w4 w3.heap.size (.slice A' M'.length c') M') (hcm : ∀ s ∈ M', CpOk w4 w3.heap.size s)
    (ho5 : w5.ownsRow (T + 1) 54 2 v' (M.length + M'.length) (flatC M ++ flatC M')) (hg5 : w4.grownBy w5 v.ownBlock) : ReadRel w l T a b c d (w5.setCell ⟨T, 4, none⟩ v') := by
  have hs3 := hg.size
  have hO3 : OwnC w3 (T + 1) v M := ho.beside hg (by omega)
  have hO4 : OwnC w4 (T + 1) v M := hO3.below hb4
  have hlt := fun i hi => (OwnC.lt hO4 (k := i) hi).1
  have hT3 : T < w3.heap.size := by omega
  have hs4 := hb4.size
  have bT0 : Below T w3 w5 := (hb4.mono (Nat.le_of_lt hT3)).grown hg5 (by omega) (fun i hi => by have := hlt i hi; omega)
  have bT : Below T w3 (w5.setCell ⟨T, 4, none⟩ v') := bT0.setCell (p := ⟨T, 4, none⟩) (Nat.le_refl T) v'
  have gs : w5.grownBy (w5.setCell ⟨T, 4, none⟩ v') (some T) := grown_setCell (grown_refl _ _) _ _
  have k8' : Blk w5 T 25 [.int .i64 a, .int .i64 b, .int .i64 c, .int .u32 d, v] := by
    have h4 := (k8.grown hg (by omega)).below hb4 hT3
    exact (hg5.block T h4.lt (fun e => by have := hlt T e.symm; omega)).trans h4
  have hs5 : w4.heap.size ≤ w5.heap.size := hg5.size
  have hss : (w5.setCell ⟨T, 4, none⟩ v').heap.size = w5.heap.size := by simp [World.setCell]
  have hrow : OwnC w5 (T + 1) v' (M ++ M') := by
    unfold OwnC
    rw [List.length_append, show flatC (M ++ M') = flatC M ++ flatC M' by simp [flatC]]
    exact ho5
  have hl2 := caps_len _ _ _ hcp
  rw [List.length_map] at hl2
  have hn2 := next_sum hbad
  refine ⟨((hbw.grown hg hbw.size (fun i hi => by cases hi; omega)).trans (bT.mono (by omega))), (k2.grown hg (by omega)).below bT (by omega), (k3.grown hg (by omega)).below bT (by omega), hT, by omega, k + 1, M ++ M', (nextP R false).rest, v', ?_, ?_, hrd.below bT (by omega), k8'.set 4 v', hrow.beside gs (by omega), fun s hs => ?_⟩
  · rw [List.map_append]
    exact hp.more hr hbad hk hcp
  · rw [List.length_append]; omega
  · rcases List.mem_append.1 hs with h | h
    · exact ⟨((((hc s h).1.grown hg (by omega)).grown (g := T) ⟨hb4.os, hb4.tape, hb4.output, hb4.size, fun i hi _ => hb4.block i hi⟩ (by omega)).row hO4 hg5).grown gs (by omega), (hc s h).2⟩
    · exact ⟨((((hcm s h).1.lower (by omega)).row hO4 hg5).grown gs (by omega)), (hcm s h).2⟩
/-- The list of a row of capabilities of a call's own, as it is handed in. -/
theorem cps_in {w : World} {B c : Nat} {A : Option Addr} {M : List Cp} (h : OwnC w B (.slice A M.length c) M) (hc : ∀ s ∈ M, CpOk w B s) : CpIn w w.heap.size A M := by
  intro hne
  obtain ⟨s0, hs0⟩ : ∃ s, M[0]? = some s := by
    cases M with
    | nil => exact absurd rfl hne
    | cons s M => exact ⟨s, rfl⟩
  obtain ⟨g, hA, hg, _⟩ := OwnC.at h hs0
  refine ⟨g, 0, hA, hg, fun j s hj => ?_⟩
  obtain ⟨g', hA', _, c1, c2⟩ := OwnC.at h hj
  have e : g' = g := by
    rw [hA] at hA'
    injection hA' with e
    injection e with e1
    exact e1.symm
  subst e
  rw [Nat.zero_add]
  exact ⟨c1, c2, ((hc s (List.mem_of_getElem? hj)).1.bytes)⟩
end Go.Proofs.Ytpdnpphkkobhgaa

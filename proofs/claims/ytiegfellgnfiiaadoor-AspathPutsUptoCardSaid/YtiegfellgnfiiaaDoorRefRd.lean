/-
  The document's reader, told as the reader: what lies before it; and the document's path of bytes as a function of lists.
-/
import Derived.Test.YtiegfellgnfiiaaDoorRefRB
import Derived.Test.YtiegfellgnfiiaaDoorReadL
namespace Go.Proofs.YtiegfellgnfiiaaDoor
set_option linter.unusedVariables false
set_option linter.unusedSimpArgs false
open Go.RowKit

/-- Block g holds the document's reader of the bytes l; rest lies before it; s: is it short? -/
def RRd (w : World) (B g : Nat) (l rest : List UInt8) (s : Bool) : Prop := ∃ k, RR w B g l k s ∧ rest = before l k s
section
variable {w w' : World} {B g : Nat} {l rest : List UInt8} {s : Bool}
theorem RRd.below {B' : Nat} (h : RRd w B g l rest s) (hb : Below B' w w') (hg : g < B') : RRd w' B g l rest s := by
  obtain ⟨k, h1, h2⟩ := h
  exact ⟨k, h1.below hb hg, h2⟩
theorem RRd.grown {g' : Nat} (h : RRd w B g l rest s) (hb : w.grownBy w' (some g')) (hg : g ≠ g') (hB' : B ≤ g') : RRd w' B g l rest s := by
  obtain ⟨k, h1, h2⟩ := h
  exact ⟨k, h1.grown hb hg hB', h2⟩
theorem RRd.lt (h : RRd w B g l rest s) : g < w.heap.size := by obtain ⟨k, h1, _⟩ := h; exact h1.lt
theorem RRd.short (h : RRd w B g l rest s) : w.cell? ⟨g, 2, none⟩ = some (.bool s) := by
  obtain ⟨k, ⟨_, A, c, hk, _⟩, _⟩ := h
  exact hk.cell 2
end
theorem refNum3_any (n : Int) (B g : Nat) (l rest : List UInt8) (s : Bool) (w : World) (h : RRd w B g l rest s) (hl : l.length ≤ 1000000) (hn : n ≤ 4) :
    Calls Tryd.prog 67 #[.pointer (some ⟨g, 0, none⟩), .int .i64 n] w (fun e w' => e = .returned (.int .i64 (num (rdTake rest s n).1 : Nat)) ∧ RRd w' B g l (rdTake rest s n).2.1 (rdTake rest s n).2.2 ∧ w.grownBy w' (some g)) := by
  obtain ⟨k, h1, rfl⟩ := h
  have hk : k ≤ l.length := by obtain ⟨_, _, _, _, h0, _⟩ := h1; exact h0
  have hs := readers_same l k s n hk
  refine (refNum_any n B g l k s w h1 hl hn).mono ?_
  rintro e w' ⟨rfl, h2, h3⟩
  rw [hs.1, hs.2.1, hs.2.2.1]
  exact ⟨rfl, ⟨_, h2, rfl⟩, h3⟩
theorem refLeft3_any (B g : Nat) (l rest : List UInt8) (s : Bool) (w : World) (h : RRd w B g l rest s) (hl : l.length ≤ 1000000) :
    Calls Tryd.prog 66 #[.pointer (some ⟨g, 0, none⟩)] w fun e w' => e = .returned (.int .i64 rest.length) ∧ ∃ n, w' = w.drewN n := by
  obtain ⟨k, h1, rfl⟩ := h
  exact refLeft_any B g l k s w h1 hl

theorem rdTake_short (l : List UInt8) (s : Bool) (n : Int) (h : s = true) : (rdTake l s n).2.2 = true := by
  subst h
  unfold rdTake
  split <;> rfl
theorem rdTake_fresh {l : List UInt8} {s : Bool} {n : Int} (h : (rdTake l s n).2.2 = false) : s = false := by
  cases s with
  | false => rfl
  | true => rw [rdTake_short l true n rfl] at h; cases h
theorem numsS_short (wide : Bool) (l : List UInt8) (s : Bool) : ∀ k n, k ≤ n → (numsS wide l s k).2.2 = true → (numsS wide l s n).2.2 = true := by
  intro k n hkn h
  induction n with
  | zero => obtain rfl : k = 0 := by omega
            exact h
  | succ n ih =>
    by_cases e : k = n + 1
    · subst e; exact h
    · simp only [numsS]
      exact rdTake_short _ _ _ (ih (by omega))
theorem step_short (wide : Bool) (t : RdSt) (h : t.2.2 = true) : (readStep wide t).2.2 = true := by
  have h1 : (headS t.2.1 t.2.2).2.2 = true := rdTake_short _ _ _ (rdTake_short _ _ _ h)
  exact numsS_short wide _ _ 0 _ (Nat.zero_le _) h1
theorem readGo_short (wide : Bool) : ∀ n (t : RdSt), t.2.2 = true → (readGo wide n t).2.2 = true := by
  intro n
  induction n with
  | zero => intro t h; exact h
  | succ n ih =>
    intro t h
    rw [readGo]
    split
    · exact h
    · exact ih _ (step_short wide t h)
theorem readGo_len (wide : Bool) : ∀ n (t : RdSt), t.1.length ≤ (readGo wide n t).1.length := by
  intro n
  induction n with
  | zero => intro t; exact Nat.le_refl _
  | succ n ih =>
    intro t
    rw [readGo]
    split
    · exact Nat.le_refl _
    · refine Nat.le_trans ?_ (ih _)
      simp [readStep]
theorem readL_short {wide : Bool} {l : List UInt8} (h : (readAll wide l).2.2 = true) : readL wide l = none := by
  unfold readL
  rw [if_neg]
  rw [h]
  simp
/-- More than eight segments are no path. -/
theorem readL_many {wide : Bool} {l : List UInt8} {t : RdSt} (h : readGo wide t.2.1.length t = readAll wide l) (h9 : 8 < t.1.length) : readL wide l = none := by
  have h1 := readGo_len wide t.2.1.length t
  rw [h] at h1
  unfold readL
  rw [if_neg]
  intro e
  have h2 := e.2
  unfold rightA at h2
  simp only [Bool.and_eq_true, decide_eq_true_eq] at h2
  omega
theorem readL_end {wide : Bool} {l : List UInt8} {t : RdSt} (h : readGo wide t.2.1.length t = readAll wide l) (he : t.2.1 = []) : readL wide l = if t.2.2 = false ∧ rightA t.1 = true then some t.1 else none := by
  rw [readGo_nil wide _ he] at h
  unfold readL
  rw [← h]
end Go.Proofs.YtiegfellgnfiiaaDoor

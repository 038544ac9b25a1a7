/-
  A queue in a world: what may come, what waits, whether what comes goes.
-/
import Derived.Test.YtgbialnnfadlgaaTail7
namespace Go.Proofs.Ytgbialnnfadlgaa
set_option linter.unusedVariables false
set_option linter.unusedSimpArgs false
open Go.RowKit

/-- Nothing has turned but the object in block g, and the block of what is in it. -/
structure Keep (w w' : World) (g : Nat) (v v' : Value) : Prop where
  os : w'.os = w.os
  tape : w'.tape = w.tape
  output : w'.output = w.output
  size : w.heap.size ≤ w'.heap.size
  block : ∀ k, k < w.heap.size → k ≠ g → v.ownBlock ≠ some k → w'.heap[k]? = w.heap[k]?
  own : v'.ownBlock = v.ownBlock ∨ ∀ k, v'.ownBlock = some k → w.heap.size ≤ k
theorem Keep.refl (w : World) (g : Nat) (v : Value) : Keep w w g v v := ⟨rfl, rfl, rfl, Nat.le_refl _, fun _ _ _ _ => rfl, .inl rfl⟩
theorem Keep.trans {w1 w2 w3 : World} {g : Nat} {v v' v'' : Value} (h : Keep w1 w2 g v v') (k : Keep w2 w3 g v' v'') : Keep w1 w3 g v v'' := by
  refine ⟨k.os.trans h.os, k.tape.trans h.tape, k.output.trans h.output, Nat.le_trans h.size k.size, fun i hi hg hv => ?_, ?_⟩
  · refine (k.block i (Nat.lt_of_lt_of_le hi h.size) hg (fun e => ?_)).trans (h.block i hi hg hv)
    rcases h.own with ho | ho
    · exact hv (ho ▸ e)
    · have := ho i e; omega
  · rcases k.own with ho | ho
    · rcases h.own with ho' | ho'
      · exact .inl (ho.trans ho')
      · exact .inr fun i hi => ho' i (ho ▸ hi)
    · exact .inr fun i hi => Nat.le_trans h.size (ho i hi)
theorem Keep.below {w w' : World} {g B : Nat} {v v' : Value} (h : Keep w w' g v v') (hg : B ≤ g) (hv : ∀ k, v.ownBlock = some k → B ≤ k) (hB : B ≤ w.heap.size) : Below B w w' :=
  ⟨h.os, h.tape, h.output, h.size, fun k hk => h.block k (by omega) (by omega) (fun e => by have := hv k e; omega)⟩
theorem Keep.of_below {w w' : World} {g : Nat} {v : Value} (h : Below w.heap.size w w') : Keep w w' g v v := ⟨h.os, h.tape, h.output, h.size, fun k hk _ _ => h.block k hk, .inl rfl⟩
theorem Keep.set {w w' : World} {g : Nat} {v v' : Value} (h : Keep w w' g v v') (o : Nat) (u : Value) (v'' : Value) (hv : v''.ownBlock = v'.ownBlock ∨ v''.ownBlock = none) : Keep w (w'.setCell ⟨g, o, none⟩ u) g v v'' := by
  refine ⟨h.os, h.tape, h.output, by simpa [World.setCell] using h.size, fun k hk hg hk' => ?_, ?_⟩
  · exact (Below.heap_setCell w' ⟨g, o, none⟩ u k (fun e => hg (by simp [e]))).trans (h.block k hk hg hk')
  · rcases hv with hv | hv
    · rw [hv]; exact h.own
    · exact .inr fun k e => by rw [hv] at e; cases e
theorem Keep.drew {w w' : World} {g : Nat} {v v' : Value} (h : Keep w w' g v v') : Keep w w'.drew g v v' := ⟨h.os, h.tape, h.output, h.size, h.block, h.own⟩

theorem block_add (A : Option Addr) (S n c n' c' : Nat) : (Value.slice (A.map (·.add S)) n c).ownBlock = (Value.slice A n' c').ownBlock := by
  cases A with
  | none => rfl
  | some a =>
    show some (a.add S).block = some a.block
    unfold Addr.add
    split <;> rfl

/-- A row of the call's own that lies neither in block g nor in what v bears. -/
theorem Own.keep {w w' : World} {B g : Nat} {x v v' : Value} {l : List UInt8} (h : Own w B 5 x l) (k : Keep w w' g v v') (hg : g < B) (hv : ∀ i, v.ownBlock = some i → i < B) : Own w' B 5 x l := by
  obtain ⟨hl, h2⟩ := h
  refine ⟨hl, ?_⟩
  rcases h2 with h2 | ⟨i, cap, cur, e1, hbg, hi, r⟩
  · exact .inl h2
  · have hlt := (Array.getElem?_eq_some_iff.1 hi).1
    exact .inr ⟨i, cap, cur, e1, hbg, (k.block i hlt (by omega) (fun e => by have := hv i e; omega)).trans hi, r⟩
/-- Block g holds a queue for M bytes, with R in it, in the slice v; s: what comes goes, up to a line's end. -/
def Que (w : World) (g : Nat) (M : Int) (v : Value) (R : List UInt8) (s : Bool) : Prop := Blk w g 48 [.int .i64 M, v, .bool s] ∧ Tl w (g + 1) v R ∧ (R.length : Int) ≤ M ∧ M ≤ 65536
theorem Que.lt {w : World} {g : Nat} {M : Int} {v : Value} {R : List UInt8} {s : Bool} (h : Que w g M v R s) : g < w.heap.size := h.1.lt
theorem Que.below {w w' : World} {g : Nat} {M : Int} {v : Value} {R : List UInt8} {s : Bool} (h : Que w g M v R s) (hb : Below w.heap.size w w') : Que w' g M v R s := ⟨h.1.below hb h.1.lt, h.2.1.below hb, h.2.2⟩
theorem Que.small {w : World} {g : Nat} {M : Int} {v : Value} {R : List UInt8} {s : Bool} (h : Que w g M v R s) : R.length ≤ 65536 := by have := h.2.2; omega
/-- How many bytes a queue may hold. -/
def mostN (m : Int) : Int := if m < 0 then 0 else if 65536 < m then 65536 else m
theorem mostN_ok (m : Int) : 0 ≤ mostN m ∧ mostN m ≤ 65536 := by unfold mostN; split <;> (try split) <;> omega
end Go.Proofs.Ytgbialnnfadlgaa

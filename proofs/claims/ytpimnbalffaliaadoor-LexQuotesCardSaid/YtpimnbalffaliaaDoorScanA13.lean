/-
  The scanner: words, what the word says so far, where it is; and each of its steps (written by gen13s.py).
-/
import Derived.Test.YtpimnbalffaliaaDoorVal13
import Derived.Test.YtpimnbalffaliaaDoorTailG
namespace Go.Proofs.YtpimnbalffaliaaDoor
set_option linter.unusedVariables false
set_option linter.unusedSimpArgs false
open Go.RowKit Go.Lib

theorem onesAny : IsOnes Tryd.prog 23 20 .nilIface 16 := ⟨Tryd.underlying23, by kernel_rfl, rfl, by decide⟩
def dyns (l : List Tok) : List Value := l.map fun t => t.dyn.val
theorem dyns_snoc (l : List Tok) (t : Tok) : dyns l ++ [t.dyn.val] = dyns (l ++ [t]) := by simp [dyns]
theorem dyns_len (l : List Tok) : (dyns l).length = l.length := List.length_map _
theorem dyn_one (t : Tok) : t.dyn.val.oneCell' = true := by
  unfold Tok.dyn
  split
  · rfl
  · split <;> rfl
/-- Nothing below B has turned but block g. -/
structure KpS (B g : Nat) (w w' : World) : Prop where
  os : w'.os = w.os
  tape : w'.tape = w.tape
  output : w'.output = w.output
  size : w.heap.size ≤ w'.heap.size
  block : ∀ k, k < B → k ≠ g → w'.heap[k]? = w.heap[k]?
/-- Block g holds the scanner s; its words lie from B on. -/
structure ScAt (w : World) (B g : Nat) (s : Sc) : Prop where
  lt : g < B
  base : B ≤ w.heap.size
  ex : ∃ v, Blk w g 47 [v, .string ⟨s.text.toArray⟩, .int .i64 (s.st : Int)] ∧ TlG w B 20 v (dyns s.words)
section
variable {B g : Nat} {w w1 w2 : World} {s : Sc}
theorem KpS.refl (B g : Nat) (w : World) : KpS B g w w := ⟨rfl, rfl, rfl, Nat.le_refl _, fun _ _ _ => rfl⟩
theorem KpS.trans (h : KpS B g w w1) (k : KpS B g w1 w2) : KpS B g w w2 := ⟨k.os.trans h.os, k.tape.trans h.tape, k.output.trans h.output, Nat.le_trans h.size k.size, fun i hi hg => (k.block i hi hg).trans (h.block i hi hg)⟩
theorem KpS.set (h : KpS B g w w1) (i : Nat) (u : Value) : KpS B g w (w1.setCell ⟨g, i, none⟩ u) :=
  ⟨h.os, h.tape, h.output, by simpa [World.setCell] using h.size, fun k hk hg => (Below.heap_setCell w1 ⟨g, i, none⟩ u k (fun e => hg (by simp [e]))).trans (h.block k hk hg)⟩
theorem KpS.of_below (h : Below w.heap.size w w1) (hB : B ≤ w.heap.size) : KpS B g w w1 := ⟨h.os, h.tape, h.output, h.size, fun k hk _ => h.block k (by omega)⟩
theorem KpS.below {D : Nat} (h : KpS B g w w1) (hg : D ≤ g) (hB : g < B) : Below D w w1 := ⟨h.os, h.tape, h.output, h.size, fun k hk => h.block k (by omega) (by omega)⟩
theorem KpS.drew (h : KpS B g w w1) : KpS B g w w1.drew := ⟨h.os, h.tape, h.output, h.size, h.block⟩
theorem TlG.away {e : Nat} {v : Value} {l : List Value} (h : TlG w B e v l) (hg : g < B) (i : Nat) (u : Value) : TlG (w.setCell ⟨g, i, none⟩ u) B e v l :=
  h.same (by simp [World.setCell]) fun k hk => Below.heap_setCell w ⟨g, i, none⟩ u k (fun e => by have := (h.lt hk).1; simp at e; omega)
theorem ScAt.text (h : ScAt w B g s) (t : List UInt8) : ScAt (w.setCell ⟨g, 1, none⟩ (.string ⟨t.toArray⟩)) B g ⟨s.words, t, s.st⟩ := by
  obtain ⟨v, hk, ht⟩ := h.ex
  exact ⟨h.lt, by simpa [World.setCell] using h.base, v, hk.set 1 _, ht.away h.lt _ _⟩
theorem ScAt.state (h : ScAt w B g s) (n : Nat) : ScAt (w.setCell ⟨g, 2, none⟩ (.int .i64 (n : Int))) B g (s.to n) := by
  obtain ⟨v, hk, ht⟩ := h.ex
  exact ⟨h.lt, by simpa [World.setCell] using h.base, v, hk.set 2 _, ht.away h.lt _ _⟩
theorem ScAt.below (h : ScAt w B g s) (hb : Below w.heap.size w w1) : ScAt w1 B g s := by
  obtain ⟨v, hk, ht⟩ := h.ex
  exact ⟨h.lt, Nat.le_trans h.base hb.size, v, hk.below hb hk.lt, ht.below hb⟩
theorem ScAt.cells (h : ScAt w B g s) : (∃ v, w.cell? ⟨g, 0, none⟩ = some v ∧ TlG w B 20 v (dyns s.words)) ∧ w.cell? ⟨g, 1, none⟩ = some (.string ⟨s.text.toArray⟩) ∧ w.cell? ⟨g, 2, none⟩ = some (.int .i64 (s.st : Int)) ∧
    w.frozen? ⟨g, 0, none⟩ = false ∧ w.frozen? ⟨g, 1, none⟩ = false ∧ w.frozen? ⟨g, 2, none⟩ = false := by
  obtain ⟨v, hk, ht⟩ := h.ex
  exact ⟨⟨v, hk.cell 0, ht⟩, hk.cell 1, hk.cell 2, hk.free 0, hk.free 1, hk.free 2⟩
end
/-- What a step of the scanner leaves. -/
def ScRet (B g : Nat) (w : World) (s : Sc) (e : Ending) (w' : World) : Prop := e = .returned (.tuple #[]) ∧ ScAt w' B g s ∧ KpS B g w w'

set_option maxHeartbeats 1600000 in
theorem put_any (B g c : Nat) (b : List UInt8) (s : Sc) (w : World) (h : ScAt w B g s) (he : Utf8.encode (c : Int) = ⟨b.toArray⟩) (h1 : s.text.length ≤ 100000) (h2 : b.length ≤ 4) :
    Calls Tryd.prog 45 #[.pointer (some ⟨g, 0, none⟩), .int .i32 (c : Int)] w (ScRet B g w (s.put b s.st)) := by
  obtain ⟨_, c1, _, _, f1, _⟩ := h.cells
  have H := Lib.hid h
  have hsum : ∀ w : World, (Op.stringOp .add ⟨s.text.toArray⟩ ⟨b.toArray⟩).run Tryd.prog w = .ok (.string (⟨s.text.toArray⟩ ++ ⟨b.toArray⟩)) w := fun w => run_string_add_sum w _ _ (by show s.text.length + b.length ≤ 9223372036854775807; omega)
  have hcv : ∀ w : World, (convert 21 9 (.int .i32 (c : Int))).run Tryd.prog w = .ok (.string ⟨b.toArray⟩) w := fun w => by
    rw [run_convert_int_string w _ _ _ _ (by kernel_rfl) Tryd.underlying9, he]
  clear h he
  go_enter Tryd.func45, Tryd.ntmps45
  go_wp2_with fail
  go_end0
  refine ⟨rfl, ?_, (KpS.refl B g w).set _ _⟩
  rw [ba_append]
  exact H.out.text (s.text ++ b)
set_option maxHeartbeats 1600000 in
theorem end_any (B g : Nat) (t : Tok) (s : Sc) (w : World) (h : ScAt w B g s) (h1 : s.words.length ≤ 100000) :
    Calls Tryd.prog 46 #[.pointer (some ⟨g, 0, none⟩), t.dyn.val] w (ScRet B g w (s.ends t)) := by
  obtain ⟨⟨v, c0, ht⟩, c1, c2, f0, f1, f2⟩ := h.cells
  have hone := dyn_one t
  obtain ⟨T, x, hV⟩ : ∃ T x, t.dyn.val = .iface T x := by
    unfold Tok.dyn
    split
    · exact ⟨_, _, rfl⟩
    · split <;> exact ⟨_, _, rfl⟩
  rw [hV] at hone ⊢
  have H := Lib.hid h
  have hb0 := (Below.refl w.heap.size w).alloc (Nat.le_refl _) (.cells #[.iface T x] 20)
  have HT := Lib.hid (ht.below hb0)
  have HB := Lib.hid (Nat.le_trans h.base hb0.size)
  have HC := Lib.hid (show (w.alloc (.cells #[.iface T x] 20)).cell? ⟨w.heap.size, 0, none⟩ = some (.iface T x) from (Blk.new w 20 [.iface T x]).cell 0)
  have HL := Lib.hid (show (dyns s.words).length ≤ 1000000000 by rw [dyns_len]; omega)
  have HO := Lib.hid hone
  obtain ⟨Av, cv, rfl, _⟩ := ht.form
  rw [dyns_len] at HT c0
  have HV := Lib.hid hV
  clear hV hone ht hb0 h
  go_enter Tryd.func46, Tryd.ntmps46
  go_wp2_with (at_builtin; refine wpList_append_tailG onesAny rfl (.tmp 8) (.tmp 10) rfl B _ (dyns s.words) rfl HT.out HB.out ⟨w.heap.size, 0, none⟩ 1 (.iface T x) rfl HC.out HO.out HL.out ?_)
  intro v' w1 ht1 hg1 hn1
  have hk0 := H.out.ex
  obtain ⟨Av1, cv1, rfl, _⟩ := ht1.form
  obtain ⟨N, hN⟩ : ∃ N, N = (dyns s.words ++ [Value.iface T x]).length := ⟨_, rfl⟩
  rw [← hN] at ht1
  simp only [← hN]
  clear hN
  have hg2 : w.grownBy w1 (Value.slice Av s.words.length cv).ownBlock := grown_of_alloc hg1
  have hne : ∀ k, (Value.slice Av s.words.length cv).ownBlock = some k → B ≤ k := fun k hk => (HT.out.lt hk).1
  have s1 : ∃ v, Blk w1 g 47 [v, .string ⟨s.text.toArray⟩, .int .i64 (s.st : Int)] := by
    obtain ⟨v, hk, _⟩ := hk0
    exact ⟨v, (hg2.block g hk.lt (fun e => by have := hne g e.symm; have := H.out.lt; omega)).trans hk⟩
  have HKP := Lib.hid (show KpS B g w w1 from ⟨hg2.os, hg2.tape, hg2.output, hg2.size, fun k hk _ => hg2.block k (by have := H.out.base; omega) (fun e => by have := hne k e.symm; omega)⟩)
  obtain ⟨v0, k1⟩ := s1
  have c0' : w1.cell? ⟨g, 0, none⟩ = some v0 := k1.cell 0
  have f0' : w1.frozen? ⟨g, 0, none⟩ = false := k1.free 0
  have f1' : w1.frozen? ⟨g, 1, none⟩ = false := k1.free 1
  have f2' : w1.frozen? ⟨g, 2, none⟩ = false := k1.free 2
  have c1' : w1.cell? ⟨g, 1, none⟩ = some (.string ⟨s.text.toArray⟩) := k1.cell 1
  have c2' : w1.cell? ⟨g, 2, none⟩ = some (.int .i64 (s.st : Int)) := k1.cell 2
  have HK1 := Lib.hid k1
  rw [← HV.out, dyns_snoc] at ht1
  have HT1 := Lib.hid ht1
  clear k1 hk0 hg1 hg2 hn1 hne c0 c1 c2 f0 f1 f2 ht1
  go_wp2_with fail
  go_end0
  refine ⟨rfl, ⟨H.out.lt, ?_, _, ((HK1.out.set 0 _).set 1 _).set 2 _, ?_⟩, ((HKP.out.set _ _).set _ _).set _ _⟩
  · simpa [World.setCell] using Nat.le_trans H.out.base HKP.out.size
  · exact ((HT1.out.away H.out.lt _ _).away H.out.lt _ _).away H.out.lt _ _
end Go.Proofs.YtpimnbalffaliaaDoor

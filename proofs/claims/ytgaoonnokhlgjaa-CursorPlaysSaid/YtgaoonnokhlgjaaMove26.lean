/-
  Move: a cursor goes on from elsewhere.
-/
import Derived.Test.YtgaoonnokhlgjaaSet26
namespace Go.Proofs.Ytgaoonnokhlgjaa
set_option linter.unusedVariables false
set_option linter.unusedSimpArgs false
open Go.RowKit

def movedU (c : Cu) (a l : Int) : Cu := { c with aa := a, al := l, age := 0 }
def RetMove (w : World) (g : Nat) (mo li la : Int) (v : Value) (L : List Cu) (b : Bool) (e : Ending) (w' : World) : Prop := e = .returned (.bool b) ∧ Tab w' g mo li la v L ∧ KeepA w w' g v v
theorem MoveNil26 (o i a l : Int) (w : World) :
    Calls Try.prog 18 #[.pointer none, .int .i64 o, .int .i64 i, .agg #[.int .u32 a, .int .i64 l]] w fun e w' => e = .returned (.bool false) ∧ Below w.heap.size w w' := by
  have Q := Lib.hid (find26_nil o i (w.alloc (.cells #[.int .u32 a, .int .i64 l] 31)))
  have HB := Lib.hid ((Below.refl w.heap.size w).alloc (Nat.le_refl _) (.cells #[.int .u32 a, .int .i64 l] 31))
  go_enter Try.func18, Try.ntmps18
  go_wp2_with fail
  refine Q.out.mono ?_
  rintro e w2 ⟨rfl, hb2⟩
  have HB2 := Lib.hid (HB.out.trans (hb2.mono HB.out.size))
  clear hb2
  go_wp2_with fail
  go_ret
  exact ⟨rfl, HB2.out⟩
theorem Move26_none (g : Nat) (mo li la : Int) (v : Value) (L : List Cu) (o i a l : Int) (w : World) (h : Tab w g mo li la v L) (hk : posU L o i = none) :
    Calls Try.prog 18 #[.pointer (some ⟨g, 0, none⟩), .int .i64 o, .int .i64 i, .agg #[.int .u32 a, .int .i64 l]] w (RetMove w g mo li la v L false) := by
  have hb1 := (Below.refl w.heap.size w).alloc (Nat.le_refl _) (.cells #[.int .u32 a, .int .i64 l] 31)
  have Q := Lib.hid (find26_none g mo li la v L o i hk _ (h.below hb1))
  have HB := Lib.hid hb1; have HT := Lib.hid h
  clear h hk hb1
  go_enter Try.func18, Try.ntmps18
  go_wp2_with fail
  refine Q.out.mono ?_
  rintro e w2 ⟨rfl, hb2⟩
  have HB2 := Lib.hid (HB.out.trans (hb2.mono HB.out.size))
  clear hb2
  go_wp2_with fail
  go_ret
  exact ⟨rfl, HT.out.below HB2.out, KeepA.of_below HB2.out⟩
/-- The row behind the stores, in whichever order. -/
theorem moved_own {w : World} {T B b n d k : Nat} {M : List Cu} {c : Cu} (h : OwnU w T B (.slice (some ⟨b, 0, none⟩) n d) M) (hc : M[k]? = some c) (a l : Int) :
    OwnU (((w.setCell ⟨b, k * 16 + 13, none⟩ (.int .u32 a)).setCell ⟨b, k * 16 + 14, none⟩ (.int .i64 l)).setCell ⟨b, k * 16 + 15, none⟩ (.int .i64 0)) T B (.slice (some ⟨b, 0, none⟩) n d) (M.set k (movedU c a l)) ∧
    OwnU (((w.setCell ⟨b, k * 16 + 15, none⟩ (.int .i64 0)).setCell ⟨b, k * 16 + 13, none⟩ (.int .u32 a)).setCell ⟨b, k * 16 + 14, none⟩ (.int .i64 l)) T B (.slice (some ⟨b, 0, none⟩) n d) (M.set k (movedU c a l)) := by
  have hk := (List.getElem?_eq_some_iff.1 hc).1
  have at1 : ∀ x : Cu, (M.set k x)[k]? = some x := fun x => by simp [hk]
  constructor
  · have h1 := h.put (c' := { c with aa := a }) (i := 13) (u := .int .u32 a) hc rfl (by decide)
    have h2 := h1.put (c' := { c with aa := a, al := l }) (i := 14) (u := .int .i64 l) (at1 _) rfl (by decide)
    rw [List.set_set] at h2
    have h3 := h2.put (c' := movedU c a l) (i := 15) (u := .int .i64 0) (at1 _) rfl (by decide)
    rw [List.set_set] at h3
    exact h3
  · have h1 := h.put (c' := { c with age := 0 }) (i := 15) (u := .int .i64 0) hc rfl (by decide)
    have h2 := h1.put (c' := { c with age := 0, aa := a }) (i := 13) (u := .int .u32 a) (at1 _) rfl (by decide)
    rw [List.set_set] at h2
    have h3 := h2.put (c' := movedU c a l) (i := 14) (u := .int .i64 l) (at1 _) rfl (by decide)
    rw [List.set_set] at h3
    exact h3
theorem OwnU.drew {w : World} {T B : Nat} {v : Value} {M : List Cu} (h : OwnU w T B v M) : OwnU w.drew T B v M := h
theorem three_sets {w w' : World} {g b : Nat} {v v' : Value} (h : KeepA w w' g v v') (hb : v'.ownBlock = some b) (x y z : Nat) (p q r : Value) : KeepA w (((w'.setCell ⟨b, x, none⟩ p).setCell ⟨b, y, none⟩ q).setCell ⟨b, z, none⟩ r) g v v' := ((h.setOwn hb x p).setOwn hb y q).setOwn hb z r
theorem blk_sets {w : World} {g b T : Nat} {cs : List Value} (h : Blk w g T cs) (hb : g ≠ b) (x y z : Nat) (p q r : Value) : Blk (((w.setCell ⟨b, x, none⟩ p).setCell ⟨b, y, none⟩ q).setCell ⟨b, z, none⟩ r) g T cs :=
  h.grown (grown_setCell (grown_setCell (grown_setCell (grown_refl _ _) _ _) _ _) _ _) hb
set_option maxRecDepth 100000 in
set_option maxHeartbeats 6400000 in
theorem Move26_some (g : Nat) (mo li la : Int) (v : Value) (L : List Cu) (k : Nat) (c : Cu) (o i a l : Int) (w : World) (h : Tab w g mo li la v L) (hk : posU L o i = some k) (hc : L[k]? = some c) :
    Calls Try.prog 18 #[.pointer (some ⟨g, 0, none⟩), .int .i64 o, .int .i64 i, .agg #[.int .u32 a, .int .i64 l]] w (RetMove w g mo li la v (L.set k (movedU c a l)) true) := by
  have hb1 := (Below.refl w.heap.size w).alloc (Nat.le_refl _) (.cells #[.int .u32 a, .int .i64 l] 31)
  have Q := Lib.hid (find26_some g mo li la v L o i k hk _ (h.below hb1))
  have HB := Lib.hid hb1; have HT := Lib.hid h; have HC := Lib.hid hc
  have HX := Lib.hid (Blk.new w 31 [.int .u32 a, .int .i64 l])
  obtain ⟨b, d, rfl, _, _, hbl, _⟩ := h.own.at hc
  have hkl := (List.getElem?_eq_some_iff.1 hc).1
  have hi0 : (0 : Int) ≤ (k : Int) := by omega
  have hi1 : (k : Int) < (L.length : Int) := by omega
  have HBL := Lib.hid hbl
  clear h hk hb1 hc hkl hbl
  go_enter Try.func18, Try.ntmps18
  go_wp2_with fail
  refine Q.out.mono ?_
  rintro e w2 ⟨rfl, hb2⟩
  have hx := HX.out.below hb2 HX.out.lt
  have hB := HB.out.trans (hb2.mono HB.out.size)
  have ht := HT.out.below hB
  obtain ⟨b', d', hv, _, hgb, _, _, hr, hf⟩ := ht.own.at HC.out
  obtain rfl : b = b' := by injection hv with hA; injection hA with hA; injection hA
  obtain ⟨c0, c1, c2, c3⟩ := cells4 ht.blk
  have p0 : w2.cell? ⟨w.heap.size, 0, none⟩ = some (.int .u32 a) := hx.cell 0
  have p1 : w2.cell? ⟨w.heap.size, 1, none⟩ = some (.int .i64 l) := hx.cell 1
  have r13 : w2.cell? ⟨b, k * 16 + 13, none⟩ = some (.int .u32 c.aa) := hr 13 _ rfl
  have r14 : w2.cell? ⟨b, k * 16 + 14, none⟩ = some (.int .i64 c.al) := hr 14 _ rfl
  have r15 : w2.cell? ⟨b, k * 16 + 15, none⟩ = some (.int .i64 c.age) := hr 15 _ rfl
  have f13 : w2.frozen? ⟨b, k * 16 + 13, none⟩ = false := hf _
  have f14 : w2.frozen? ⟨b, k * 16 + 14, none⟩ = false := hf _
  have f15 : w2.frozen? ⟨b, k * 16 + 15, none⟩ = false := hf _
  have hne1 : ¬ (b = g) := by omega
  have hne2 : ¬ (b = w.heap.size) := by have := HBL.out; omega
  have HO := Lib.hid (moved_own ht.own HC.out a l)
  have HK := Lib.hid (KeepA.of_below (g := g) (v := .slice (some ⟨b, 0, none⟩) L.length d) hB)
  have HG := Lib.hid (show Blk w2 g 67 _ from ht.blk)
  have HFew := Lib.hid ht.few
  have HNE := Lib.hid (show g ≠ b from fun e => hne1 e.symm)
  clear hb2 hx hB ht hv hr hf hgb
  go_wp2_with fail
  go_region
  all_goals
    go_wp2_with fail
    go_ret
    first
      | exact ⟨rfl, ⟨blk_sets HG.out HNE.out _ _ _ _ _ _, HO.out.1.drew, by rw [List.length_set]; exact HFew.out⟩, (three_sets HK.out rfl _ _ _ _ _ _).drew⟩
      | exact ⟨rfl, ⟨blk_sets HG.out HNE.out _ _ _ _ _ _, HO.out.2.drew, by rw [List.length_set]; exact HFew.out⟩, (three_sets HK.out rfl _ _ _ _ _ _).drew⟩
end Go.Proofs.Ytgaoonnokhlgjaa

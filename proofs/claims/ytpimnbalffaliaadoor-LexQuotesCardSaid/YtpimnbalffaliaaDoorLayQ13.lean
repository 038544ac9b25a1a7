/-
  strings.ReplaceAll, by the library's own contract, at this program's numbers.
-/
import Derived.Test.YtpimnbalffaliaaDoorSeat
import Derived.Test.YtpimnbalffaliaaDoorQuoteF13
import Derived.Shelf.Strings.Replace
import Derived.Shelf.Vars
namespace Go.Proofs.YtpimnbalffaliaaDoor
set_option linter.unusedVariables false
set_option linter.unusedSimpArgs false
open Go.Shelf Go.RowKit Go.Lib

def rhoQ : Ren := ⟨fun n => if n = 138 then 48 else if n = 143 then 50 else if n = 154 then 42 else if n = 155 then 26 else if n = 165 then 49 else if n = 166 then 51 else if n = 169 then 53 else if n = 195 then 56 else if n = 197 then 52 else if n = 217 then 65 else if n = 218 then 57 else if n = 219 then 60 else if n = 224 then 67 else if n = 225 then 66 else if n = 240 then 58 else if n = 241 then 59 else if n = 260 then 61 else if n = 266 then 69 else if n = 267 then 68 else if n = 276 then 63 else if n = 277 then 64 else 70, fun n => if n = 0 then 0 else if n = 3 then 3 else if n = 4 then 4 else if n = 5 then 5 else if n = 9 then 9 else if n = 20 then 20 else if n = 21 then 21 else if n = 37 then 75 else if n = 46 then 69 else if n = 51 then 97 else if n = 70 then 74 else if n = 72 then 77 else if n = 72 then 77 else if n = 75 then 80 else if n = 80 then 85 else if n = 76 then 81 else if n = 105 then 83 else if n = 119 then 65 else if n = 127 then 90 else if n = 138 then 67 else if n = 139 then 68 else if n = 146 then 98 else 92, fun n => if n = 1 then 2 else if n = 3 then 0 else 1⟩
theorem lays155 : Lays.n155 Tryd.prog rhoQ where
  mixed := by kernel_rfl
  f138 := by kernel_rfl
  f143 := by kernel_rfl
  f154 := by kernel_rfl
  f155 := by kernel_rfl
  f165 := by kernel_rfl
  f166 := by kernel_rfl
  f169 := by kernel_rfl
  f195 := by kernel_rfl
  f197 := by kernel_rfl
  f217 := by kernel_rfl
  f218 := by kernel_rfl
  f219 := by kernel_rfl
  f224 := by kernel_rfl
  f225 := by kernel_rfl
  f240 := by kernel_rfl
  f241 := by kernel_rfl
  f260 := by kernel_rfl
  f266 := by kernel_rfl
  f267 := by kernel_rfl
  f276 := by kernel_rfl
  f277 := by kernel_rfl
  f314 := by kernel_rfl
  t0 := by kernel_rfl
  a0 := fun _ => by kernel_rfl
  z0 := fun _ => by kernel_rfl
  v0 := fun _ => by kernel_rfl
  t3 := by kernel_rfl
  a3 := fun _ => by kernel_rfl
  z3 := fun _ => by kernel_rfl
  v3 := fun _ => by kernel_rfl
  t4 := by kernel_rfl
  a4 := fun _ => by kernel_rfl
  z4 := fun _ => by kernel_rfl
  v4 := fun _ => by kernel_rfl
  t5 := by kernel_rfl
  a5 := fun _ => by kernel_rfl
  z5 := fun _ => by kernel_rfl
  v5 := fun _ => by kernel_rfl
  t9 := by kernel_rfl
  a9 := fun _ => by kernel_rfl
  z9 := fun _ => by kernel_rfl
  v9 := fun _ => by kernel_rfl
  t20 := by kernel_rfl
  a20 := fun _ => by kernel_rfl
  z20 := fun _ => by kernel_rfl
  v20 := fun _ => by kernel_rfl
  t21 := by kernel_rfl
  a21 := fun _ => by kernel_rfl
  z21 := fun _ => by kernel_rfl
  v21 := fun _ => by kernel_rfl
  t37 := by kernel_rfl
  a37 := fun _ => by kernel_rfl
  z37 := fun _ => by kernel_rfl
  v37 := fun _ => by kernel_rfl
  t46 := by kernel_rfl
  a46 := fun _ => by kernel_rfl
  z46 := fun _ => by kernel_rfl
  v46 := fun _ => by kernel_rfl
  t51 := by kernel_rfl
  a51 := fun _ => by kernel_rfl
  z51 := fun _ => by kernel_rfl
  v51 := fun _ => by kernel_rfl
  t70 := by kernel_rfl
  a70 := fun _ => by kernel_rfl
  z70 := fun _ => by kernel_rfl
  v70 := fun _ => by kernel_rfl
  t72 := by kernel_rfl
  a72 := fun _ => by kernel_rfl
  z72 := fun _ => by kernel_rfl
  v72 := fun _ => by kernel_rfl
  t75 := by kernel_rfl
  a75 := fun _ => by kernel_rfl
  z75 := fun _ => by kernel_rfl
  v75 := fun _ => by kernel_rfl
  t76 := by kernel_rfl
  a76 := fun _ => by kernel_rfl
  z76 := fun _ => by kernel_rfl
  v76 := fun _ => by kernel_rfl
  t105 := by kernel_rfl
  a105 := fun _ => by kernel_rfl
  z105 := fun _ => by kernel_rfl
  v105 := fun _ => by kernel_rfl
  t119 := by kernel_rfl
  a119 := fun _ => by kernel_rfl
  z119 := fun _ => by kernel_rfl
  t127 := by kernel_rfl
  a127 := fun _ => by kernel_rfl
  z127 := fun _ => by kernel_rfl
  v127 := fun _ => by kernel_rfl
  t138 := by kernel_rfl
  a138 := fun _ => by kernel_rfl
  z138 := fun _ => by kernel_rfl
  v138 := fun _ => by kernel_rfl
  t139 := by kernel_rfl
  a139 := fun _ => by kernel_rfl
  z139 := fun _ => by kernel_rfl
  v139 := fun _ => by kernel_rfl
  t146 := by kernel_rfl
  a146 := fun _ => by kernel_rfl
  z146 := fun _ => by kernel_rfl
  v146 := fun _ => by kernel_rfl
  t164 := by kernel_rfl
  a164 := fun _ => by kernel_rfl
  z164 := fun _ => by kernel_rfl
  v164 := fun _ => by kernel_rfl
  g1 := by kernel_rfl
  g3 := by kernel_rfl
  g4 := by kernel_rfl
theorem extraQ : Builder.Extra Tryd.prog rhoQ where
  sizeBuilder := by kernel_rfl
  liesBuilder := by kernel_rfl
  t5 := by kernel_rfl
  a5 := fun _ => by kernel_rfl
  z5 := fun _ => by kernel_rfl
  v5 := fun _ => by kernel_rfl
  infoByte := by kernel_rfl
  cellsByte := by kernel_rfl
  sizeByte := by kernel_rfl
  neB5 := by decide

/-- The library's bound is some number. -/
def MaxC (w : World) : Prop := 2 < w.heap.size ∧ ∃ m, w.cell? ⟨2, 0, none⟩ = some (.int .i64 m)
theorem MaxC.below {w w' : World} (h : MaxC w) (hb : Below w.heap.size w w') : MaxC w' := by
  obtain ⟨h1, m, hm⟩ := h
  exact ⟨Nat.lt_of_lt_of_le h1 hb.size, m, (hb.cell (p := ⟨2, 0, none⟩) h1).trans hm⟩
theorem maxc_of_shape {w : World} (h : w.ShapedOpen Tryd.prog) : MaxC w := by
  obtain ⟨m, hm⟩ := cell_of_shapedOpen_int (P := Tryd.prog) (zero := #[.int .i64 0]) (t := 3) (g := 2) h (of_decide_eq_true (by kernel_rfl)) (by kernel_rfl) rfl (by kernel_rfl) (by kernel_rfl) Tryd.underlying3
  refine ⟨?_, m, hm⟩
  apply Classical.byContradiction
  intro hn
  have e : w.heap[2]? = none := Array.getElem?_eq_none (by omega)
  simp [World.cell?, e] at hm
theorem Replace_any (l : List UInt8) (c : UInt8) (new : List UInt8) (w : World) (hm : MaxC w) (hl : l.length ≤ 2000) (hn : new.length = 2) :
    Calls Tryd.prog 26 #[.string ⟨l.toArray⟩, .string ⟨#[c]⟩, .string ⟨new.toArray⟩] w fun e w' => e = .returned (.string ⟨(replaceAll l [c] new).toArray⟩) ∧ Below w.heap.size w w' := by
  obtain ⟨_, m, hc⟩ := hm
  have e1 : (⟨l.toArray⟩ : ByteArray).size = l.length := rfl
  have e2 : (⟨new.toArray⟩ : ByteArray).size = 2 := hn
  have hb := countB_le ⟨#[c]⟩ (by decide : 1 ≤ 1) l.length ⟨l.toArray⟩ (Nat.le_refl _)
  have q := Any.strings_ReplaceAll lays155 extraQ ⟨l.toArray⟩ ⟨#[c]⟩ ⟨new.toArray⟩ m w (by rw [e1]; omega) hc (by decide : 1 ≤ 1) (by
    rw [e1, e2]
    rw [e1] at hb
    have := Nat.mul_le_mul_right 2 hb
    omega)
  exact q
end Go.Proofs.YtpimnbalffaliaaDoor

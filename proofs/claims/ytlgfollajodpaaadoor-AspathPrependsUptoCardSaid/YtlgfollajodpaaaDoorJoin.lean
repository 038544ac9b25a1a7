/-
  strings.Join, by the library's own contract, at this program's numbers.
-/
import Derived.Test.YtlgfollajodpaaaDoorSeat
import Derived.Shelf.Strings.OnBuilder
namespace Go.Proofs.YtlgfollajodpaaaDoor
set_option linter.unusedVariables false
open Go.Shelf Go.RowKit

def rhoJ : Ren := ⟨fun n => if n = 156 then 29 else if n = 165 then 43 else if n = 166 then 44 else if n = 169 then 45 else if n = 240 then 56 else if n = 241 then 57 else if n = 276 then 64 else 65, fun n => if n = 0 then 0 else if n = 3 then 3 else if n = 4 then 4 else if n = 5 then 5 else if n = 9 then 9 else if n = 20 then 20 else if n = 31 then 51 else if n = 37 then 43 else if n = 70 then 69 else if n = 72 then 71 else if n = 75 then 74 else if n = 76 then 75 else if n = 80 then 77 else if n = 127 then 85 else 93, fun n => n⟩

theorem lays156 : Lays.n156 Tryd.prog rhoJ where
  mixed := by kernel_rfl
  f156 := by kernel_rfl
  f165 := by kernel_rfl
  f166 := by kernel_rfl
  f169 := by kernel_rfl
  f240 := by kernel_rfl
  f241 := by kernel_rfl
  f276 := by kernel_rfl
  f277 := by kernel_rfl
  t0 := by kernel_rfl
  a0 := fun _ => by kernel_rfl
  z0 := fun _ => by kernel_rfl
  v0 := fun _ => by kernel_rfl
  t3 := by kernel_rfl
  a3 := fun _ => by kernel_rfl
  z3 := fun _ => by kernel_rfl
  v3 := fun _ => by kernel_rfl
  t4 := by kernel_rfl
  a4 := fun _ => by kernel_rfl
  z4 := fun _ => by kernel_rfl
  v4 := fun _ => by kernel_rfl
  t9 := by kernel_rfl
  a9 := fun _ => by kernel_rfl
  z9 := fun _ => by kernel_rfl
  v9 := fun _ => by kernel_rfl
  t20 := by kernel_rfl
  a20 := fun _ => by kernel_rfl
  z20 := fun _ => by kernel_rfl
  v20 := fun _ => by kernel_rfl
  t31 := by kernel_rfl
  a31 := fun _ => by kernel_rfl
  z31 := fun _ => by kernel_rfl
  v31 := fun _ => by kernel_rfl
  t37 := by kernel_rfl
  a37 := fun _ => by kernel_rfl
  z37 := fun _ => by kernel_rfl
  v37 := fun _ => by kernel_rfl
  t70 := by kernel_rfl
  a70 := fun _ => by kernel_rfl
  z70 := fun _ => by kernel_rfl
  v70 := fun _ => by kernel_rfl
  t72 := by kernel_rfl
  a72 := fun _ => by kernel_rfl
  z72 := fun _ => by kernel_rfl
  v72 := fun _ => by kernel_rfl
  t75 := by kernel_rfl
  a75 := fun _ => by kernel_rfl
  z75 := fun _ => by kernel_rfl
  v75 := fun _ => by kernel_rfl
  t76 := by kernel_rfl
  a76 := fun _ => by kernel_rfl
  z76 := fun _ => by kernel_rfl
  v76 := fun _ => by kernel_rfl
  t127 := by kernel_rfl
  a127 := fun _ => by kernel_rfl
  z127 := fun _ => by kernel_rfl
  v127 := fun _ => by kernel_rfl
  t164 := by kernel_rfl
  a164 := fun _ => by kernel_rfl
  z164 := fun _ => by kernel_rfl
  v164 := fun _ => by kernel_rfl
theorem extraJ : Builder.Extra Tryd.prog rhoJ where
  sizeBuilder := by kernel_rfl
  liesBuilder := by kernel_rfl
  t5 := by kernel_rfl
  a5 := fun _ => by kernel_rfl
  z5 := fun _ => by kernel_rfl
  v5 := fun _ => by kernel_rfl
  infoByte := by kernel_rfl
  cellsByte := by kernel_rfl
  sizeByte := by kernel_rfl
  neB5 := by decide

/-- Words with a sign of one byte between each two. -/
def joinL (ls : List (List UInt8)) (c : UInt8) : List UInt8 := Lib.join ls [c]
theorem Join_any (A : Option Addr) (n k : Nat) (ls : List (List UInt8)) (c : UInt8) (w : World) (hn : n = ls.length) (hA : ls ≠ [] → ∃ b off, A = some ⟨b, off, none⟩ ∧ b < w.heap.size ∧ ∀ (j : Nat) l, ls[j]? = some l → w.cell? ⟨b, off + j, none⟩ = some (.string ⟨l.toArray⟩))
    (hl : ls.length ≤ 140737488355328) (hk : ls.length ≤ k) (hj : (joinL ls c).length ≤ 140737488355328) :
    Calls Tryd.prog 29 #[.slice A n k, .string ⟨#[c]⟩] w fun e w' => e = .returned (.string ⟨(joinL ls c).toArray⟩) ∧ Below w.heap.size w w' := by
  subst hn
  by_cases h0 : ls = []
  · subst h0
    refine (Any.strings_Join_none lays156 extraJ A k ⟨#[c]⟩ w).mono ?_
    rintro e w' ⟨rfl, rfl⟩
    exact ⟨rfl, Below.refl _ _⟩
  · obtain ⟨b, off, rfl, hb, hc⟩ := hA h0
    have e1 : (ls.map fun l : List UInt8 => (⟨l.toArray⟩ : ByteArray)).map (·.data.toList) = ls := by
      rw [List.map_map]
      conv => rhs; rw [← List.map_id ls]
      exact List.map_congr_left fun l _ => by simp
    have q := Any.strings_Join lays156 extraJ b off k (ls.map fun l : List UInt8 => (⟨l.toArray⟩ : ByteArray)) ⟨#[c]⟩ w (fun j x hx => by
        rw [List.getElem?_map] at hx
        cases hl2 : ls[j]? with
        | none => rw [hl2] at hx; cases hx
        | some l => rw [hl2] at hx; cases hx; exact hc j l hl2) hb (by simpa using hl) (by simpa using hk) (by rw [e1]; exact hj)
    rw [e1, List.length_map] at q
    exact q
end Go.Proofs.YtlgfollajodpaaaDoor

/-
  strings.CutPrefix and CutSuffix, by the library's own contracts, at this program's numbers.
-/
import Derived.Test.YtlgfollajodpaaaDoorSeat
import Derived.Shelf.Small.Wraps
namespace Go.Proofs.YtlgfollajodpaaaDoor
set_option linter.unusedVariables false
open Go.Shelf Go.RowKit

def rhoA : Ren := ⟨fun n => if n = 103 then 39 else if n = 104 then 40 else if n = 206 then 62 else if n = 207 then 63 else if n = 210 then 52 else 53, fun n => if n = 3 then 3 else if n = 4 then 4 else if n = 9 then 9 else 64, fun n => n⟩

theorem lays103 : Lays.n103 Tryd.prog rhoA where
  mixed := by kernel_rfl
  f103 := by kernel_rfl
  f206 := by kernel_rfl
  f210 := by kernel_rfl
  t3 := by kernel_rfl
  a3 := fun _ => by kernel_rfl
  z3 := fun _ => by kernel_rfl
  v3 := fun _ => by kernel_rfl
  t4 := by kernel_rfl
  a4 := fun _ => by kernel_rfl
  z4 := fun _ => by kernel_rfl
  v4 := fun _ => by kernel_rfl
  t9 := by kernel_rfl
  a9 := fun _ => by kernel_rfl
  z9 := fun _ => by kernel_rfl
  v9 := fun _ => by kernel_rfl
  t24 := by kernel_rfl
  a24 := fun _ => by kernel_rfl
  z24 := fun _ => by kernel_rfl
  v24 := fun _ => by kernel_rfl
theorem lays104 : Lays.n104 Tryd.prog rhoA where
  mixed := by kernel_rfl
  f104 := by kernel_rfl
  f207 := by kernel_rfl
  f211 := by kernel_rfl
  t3 := by kernel_rfl
  a3 := fun _ => by kernel_rfl
  z3 := fun _ => by kernel_rfl
  v3 := fun _ => by kernel_rfl
  t4 := by kernel_rfl
  a4 := fun _ => by kernel_rfl
  z4 := fun _ => by kernel_rfl
  v4 := fun _ => by kernel_rfl
  t9 := by kernel_rfl
  a9 := fun _ => by kernel_rfl
  z9 := fun _ => by kernel_rfl
  v9 := fun _ => by kernel_rfl
  t24 := by kernel_rfl
  a24 := fun _ => by kernel_rfl
  z24 := fun _ => by kernel_rfl
  v24 := fun _ => by kernel_rfl

theorem CutPrefix_any (s : List UInt8) (c : UInt8) (w : World) :
    Calls Tryd.prog 39 #[.string ⟨s.toArray⟩, .string ⟨#[c]⟩] w fun e w' => e = .returned (.tuple #[.string ⟨(Lib.trimPrefix s [c]).toArray⟩, .bool (Lib.hasPrefix s [c])]) ∧ w = w' := by
  refine (Any.strings_CutPrefix lays103 ⟨s.toArray⟩ ⟨#[c]⟩ w).mono ?_
  rintro e w' ⟨rfl, rfl⟩
  exact ⟨by simp, rfl⟩
theorem CutSuffix_any (s : List UInt8) (c : UInt8) (w : World) (hs : s.length ≤ 9223372036854775807) :
    Calls Tryd.prog 40 #[.string ⟨s.toArray⟩, .string ⟨#[c]⟩] w fun e w' => e = .returned (.tuple #[.string ⟨(Lib.trimSuffix s [c]).toArray⟩, .bool (Lib.hasSuffix s [c])]) ∧ w = w' := by
  refine (Any.strings_CutSuffix lays104 ⟨s.toArray⟩ ⟨#[c]⟩ w (by simpa [ByteArray.size] using hs)).mono ?_
  rintro e w' ⟨rfl, rfl⟩
  exact ⟨by simp, rfl⟩
end Go.Proofs.YtlgfollajodpaaaDoor

/-
  bytes.IndexByte of a line's end, by the library's own contract, at this program's numbers.
-/
import Derived.Test.YtgbialnnfadlgaaSeat
import Derived.Shelf.Bytes.IndexByte
import Derived.Lib.IndexLaws
import Derived.Lib.Walk
import Derived.WalkKit
import Derived.Lib.BytesEntry
namespace Go.Proofs.Ytgbialnnfadlgaa
set_option linter.unusedVariables false
set_option linter.unusedSimpArgs false
open Go.Shelf Go.RowKit

def rhoB : Ren := ⟨fun n => if n = 187 then 27 else 28, fun n => if n = 3 then 3 else if n = 5 then 5 else 29, fun n => n⟩
theorem lays187 : Lays.n187 Try.prog rhoB where
  mixed := by kernel_rfl
  f187 := by kernel_rfl
  f255 := by kernel_rfl
  t3 := by kernel_rfl
  a3 := fun _ => by kernel_rfl
  z3 := fun _ => by kernel_rfl
  v3 := fun _ => by kernel_rfl
  t5 := by kernel_rfl
  a5 := fun _ => by kernel_rfl
  z5 := fun _ => by kernel_rfl
  v5 := fun _ => by kernel_rfl
  t37 := by kernel_rfl
  a37 := fun _ => by kernel_rfl
  z37 := fun _ => by kernel_rfl
  v37 := fun _ => by kernel_rfl
theorem bytesOf_map (l : List UInt8) : Lib.bytesOf (l.map fun b => (b.toNat : Int)) = l := by
  unfold Lib.bytesOf
  rw [List.map_map]
  exact (List.map_congr_left (fun b _ => by simp)).trans (List.map_id _)
/-- Where the first line's end is. -/
def eolN (l : List UInt8) : Int := Lib.indexByte l 10
theorem IndexByte22_any (A : Option Addr) (c : Nat) (l : List UInt8) (w : World) (h : Bytes w A l) (hA : (A = none ∧ l = [] ∧ c = 0) ∨ ∃ b o, A = some ⟨b, o, none⟩) :
    Calls Try.prog 27 #[.slice A l.length c, .int .u8 10] w fun e w' => e = .returned (.int .i64 (eolN l)) ∧ w' = w := by
  rcases hA with ⟨rfl, rfl, rfl⟩ | ⟨b, o, rfl⟩
  · exact Any.bytes_IndexByte_nil lays187 10 w
  · have := Any.bytes_IndexByte lays187 b o l.length c (l.map fun b => (b.toNat : Int)) 10 w (by simp) (fun i hi => by
      obtain ⟨b', off, ha, hlt, hc⟩ := h (fun e => by subst e; simp at hi)
      injection ha with ha
      injection ha with h1 h2
      subst h1; subst h2
      rw [hc i hi]
      simp [List.getD, hi])
    rw [bytesOf_map] at this
    exact this
theorem run_indexByte0 {P : Program} (A : Option Addr) (c : Nat) (cv : Int) (w : World) : (Extern.BytealgIndexByte.indexByte #[.slice A 0 c, .int .u8 cv]).run P w = .ok (.int .i64 (-1)) w := by
  cases A with
  | none => exact Lib.run_indexByteNil w 0 c cv
  | some a => exact Lib.run_indexByteString (P := P) .empty cv w
set_option maxHeartbeats 1000000 in
set_option maxRecDepth 100000 in
theorem IndexByte22_empty (A : Option Addr) (c : Nat) (w : World) :
    Calls Try.prog 27 #[.slice A 0 c, .int .u8 10] w fun e w' => e = .returned (.int .i64 (-1)) ∧ w' = w := by
  have t3 := lays187.t3; have t5 := lays187.t5; have t37 := lays187.t37
  have a3 := lays187.a3; have a5 := lays187.a5; have a37 := lays187.a37
  have mixed := lays187.mixed; have z3 := lays187.z3; have v3 := lays187.v3; have z5 := lays187.z5; have v5 := lays187.v5; have z37 := lays187.z37; have v37 := lays187.v37
  show Calls Try.prog (rhoB.f 187) #[.slice A 0 c, .int .u8 10] w _
  go_enter lays187.f187, Body.n187_ntmps rhoB
  go_wp2
  rw [run_callFunc_extern lays187.f255 (by kernel_rfl) (by kernel_rfl) (by kernel_rfl) (e := Extern.BytealgIndexByte.indexByte) (by kernel_rfl), run_indexByte0 A c 10 w]
  simp only [Result.andThen]
  rw [Oper.upon_value]
  go_wp2
  go_ret
  exact ⟨rfl, rfl⟩
theorem IndexByte22_all (A : Option Addr) (c : Nat) (l : List UInt8) (w : World) (h : Bytes w A l) :
    Calls Try.prog 27 #[.slice A l.length c, .int .u8 10] w fun e w' => e = .returned (.int .i64 (eolN l)) ∧ w' = w := by
  by_cases hl : l = []
  · subst hl
    exact IndexByte22_empty A c w
  · obtain ⟨b, off, rfl, _, _⟩ := h hl
    exact IndexByte22_any _ c l w h (.inr ⟨b, off, rfl⟩)
end Go.Proofs.Ytgbialnnfadlgaa

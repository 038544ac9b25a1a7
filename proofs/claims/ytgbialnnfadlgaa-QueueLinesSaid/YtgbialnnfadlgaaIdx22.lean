/-
  bytes.IndexByte of a line's end, by the library's own contract, at this program's numbers.
-/
import Derived.Test.YtgbialnnfadlgaaSeat
import Derived.Shelf.Bytes.IndexByte
import Derived.Lib.IndexLaws
namespace Go.Proofs.Ytgbialnnfadlgaa
set_option linter.unusedVariables false
set_option linter.unusedSimpArgs false
open Go.Shelf Go.RowKit

def rhoB : Ren := ⟨fun n => if n = 187 then 27 else 28, fun n => if n = 3 then 3 else if n = 5 then 5 else 29, fun n => n⟩
theorem lays187 : Lays.n187 Try.prog rhoB where
  mixed := by kernel_rfl
  f187 := by kernel_rfl
  f255 := by kernel_rfl
  t3 := by kernel_rfl
  a3 := fun _ => by kernel_rfl
  z3 := fun _ => by kernel_rfl
  v3 := fun _ => by kernel_rfl
  t5 := by kernel_rfl
  a5 := fun _ => by kernel_rfl
  z5 := fun _ => by kernel_rfl
  v5 := fun _ => by kernel_rfl
  t37 := by kernel_rfl
  a37 := fun _ => by kernel_rfl
  z37 := fun _ => by kernel_rfl
  v37 := fun _ => by kernel_rfl
theorem bytesOf_map (l : List UInt8) : Lib.bytesOf (l.map fun b => (b.toNat : Int)) = l := by
  unfold Lib.bytesOf
  rw [List.map_map]
  exact (List.map_congr_left (fun b _ => by simp)).trans (List.map_id _)
/-- Where the first line's end is. -/
def eolN (l : List UInt8) : Int := Lib.indexByte l 10
theorem IndexByte22_any (A : Option Addr) (c : Nat) (l : List UInt8) (w : World) (h : Bytes w A l) (hA : (A = none ∧ l = [] ∧ c = 0) ∨ ∃ b o, A = some ⟨b, o, none⟩) :
    Calls Try.prog 27 #[.slice A l.length c, .int .u8 10] w fun e w' => e = .returned (.int .i64 (eolN l)) ∧ w' = w := by
  rcases hA with ⟨rfl, rfl, rfl⟩ | ⟨b, o, rfl⟩
  · exact Any.bytes_IndexByte_nil lays187 10 w
  · have := Any.bytes_IndexByte lays187 b o l.length c (l.map fun b => (b.toNat : Int)) 10 w (by simp) (fun i hi => by
      obtain ⟨b', off, ha, hlt, hc⟩ := h (fun e => by subst e; simp at hi)
      injection ha with ha
      injection ha with h1 h2
      subst h1; subst h2
      rw [hc i hi]
      simp [List.getD, hi])
    rw [bytesOf_map] at this
    exact this
end Go.Proofs.Ytgbialnnfadlgaa

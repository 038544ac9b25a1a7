/-
  A map of places, by Near, in memory: made, asked, stored into, cleared.
-/
import Derived.Test.YtpjhidicgclmbaaRunners15
import Derived.Maps.OwnSet
import Derived.Maps.OwnOps
import Derived.Maps.RangeWalk
namespace Go.Proofs.Ytpjhidicgclmbaa
set_option linter.unusedVariables false
set_option linter.unusedSimpArgs false
open Go.RowKit Go.Maps Go.MapKept Go.ChangeMaps Go.WideShapes

theorem zeroN (w : World) : (zeroValue 3).run Try.prog w = .ok (.int .i64 0) w := by kernel_rfl
theorem lawN : Keyed Try.prog 27 := int_keyed Try.underlying27
/-- Block b is a map of at most n entries: at k stands the place F k. -/
def MapN (w : World) (b n : Nat) (F : Int → Option Nat) : Prop :=
  ∃ D : DataW Unit, w.ownsMap Try.prog 27 (plainElem Try.prog 3) b n D ∧ (∀ k : Int, Maps.has D (.int .u32 k) = (F k).isSome) ∧ (∀ (k : Int) i, F k = some i → ∀ zd, D.atKey (.int .u32 k) zd = .lit (.int .i64 (i : Int))) ∧ ∀ k i, F k = some i → i ≤ 1000000
section
variable {w w' : World} {b n : Nat} {F : Int → Option Nat}
theorem MapN.made (w : World) : MapN (w.alloc (.map #[] 0)) w.heap.size 0 (fun _ => none) :=
  ⟨_, World.ownsMap_made w _ _ _, fun k => rfl, fun k v h => (by cases h), fun k v h => (by cases h)⟩
theorem MapN.lt (h : MapN w b n F) : b < w.heap.size := by obtain ⟨D, ho, _⟩ := h; exact ho.lt
theorem MapN.mono (h : MapN w b n F) {n' : Nat} (hn : n ≤ n') : MapN w b n' F := by obtain ⟨D, ho, r⟩ := h; exact ⟨D, ho.mono hn, r⟩
theorem MapN.drewN (h : MapN w b n F) (m : Nat) : MapN (w.drewN m) b n F := h
theorem MapN.block (h : MapN w b n F) (hb : w'.heap[b]? = w.heap[b]?) : MapN w' b n F := by
  obtain ⟨D, ⟨es, clock, hes, r⟩, q⟩ := h
  exact ⟨D, ⟨es, clock, hb.trans hes, r⟩, q⟩
theorem MapN.below {B : Nat} (h : MapN w b n F) (hb : Below B w w') (hB : b < B) : MapN w' b n F := h.block (hb.block b hB)
theorem MapN.look (h : MapN w b n F) {k : Int} (hk : (Lit.int .u32 k).wf = true) :
    (Instr.lookup 59 (.map (some b)) (.int .u32 k) true).run Try.prog w = .ok (.tuple #[.int .i64 (((F k).getD 0 : Nat) : Int), .bool (F k).isSome]) w := by
  obtain ⟨D, ho, hh, ha, hm⟩ := h
  have hkey := keyOf_int_mk (P := Try.prog) Try.underlying27 hk
  have hd : D.atKey (.int .u32 k) (.lit (.int .i64 0)) = .lit (.int .i64 (((F k).getD 0 : Nat) : Int)) := by
    cases hF : F k with
    | none =>
      have h0 := hh k
      rw [hF] at h0
      rw [Maps.atKey_of_not_has h0]
      rfl
    | some v => rw [ha k v hF]; rfl
  obtain ⟨v, ps, hrun, hv⟩ := ho.look_ok lawN Try.underlying59 (zeroN w) (plainElem_int Try.underlying3 (by decide)) hkey
  rw [hd] at hv
  obtain ⟨a, rfl, hz, _⟩ := plainElem_int_inv Try.underlying3 hv
  have e : a = (((F k).getD 0 : Nat) : Int) := by
    have := congrArg Prod.fst hz
    simp at this
    exact this.symm
  rw [hrun, hh k, e]
theorem MapN.put (h : MapN w b n F) (hn : n < maxLen) {k : Int} (hk : (Lit.int .u32 k).wf = true) (v : Nat) (hv : v ≤ 1000000) :
    ∃ w', (Instr.mapUpdate 59 (.map (some b)) (.int .u32 k) (.int .i64 (v : Int))).run Try.prog w = .ok () w' ∧ MapN w' b (n + 1) (setF F k v) ∧ w.mapTurned w' b := by
  obtain ⟨D, ho, hh, ha, hm⟩ := h
  have hkey := keyOf_int_mk (P := Try.prog) Try.underlying27 hk
  have hwf : (Lit.int .i64 (v : Int)).wf = true := WalkArith.wf_i64 (by omega)
  obtain ⟨w', hrun, ho', ht⟩ := ho.store lawN Try.underlying59 hn hkey (plainElem_int Try.underlying3 hwf)
  have hlit := lawN.key hkey
  refine ⟨w', hrun, ⟨_, ho', fun j => ?_, fun j u hu zd => ?_, fun j u hu => ?_⟩, ht⟩
  · by_cases hj : j = k
    · subst hj
      rw [Maps.has_put_same ho.isMap hlit]; simp [setF]
    · rw [Maps.has_put_other (by simpa using hj), hh j]; simp [setF, hj]
  · by_cases hj : j = k
    · subst hj
      rw [Maps.atKey_put_same ho.isMap hlit]
      simp [setF] at hu
      rw [hu]
    · rw [Maps.atKey_put_other (by simpa using hj)]
      exact ha j u (by simpa [setF, hj] using hu) zd
  · by_cases hj : j = k
    · subst hj
      simp [setF] at hu
      omega
    · exact hm j u (by simpa [setF, hj] using hu)
theorem MapN.clear (h : MapN w b n F) (ty : TypeId) :
    ∃ w', (Builtin.clear_ #[59] ty #[.map (some b)]).run Try.prog w = .ok (.tuple #[]) w' ∧ MapN w' b 0 (fun _ => none) ∧ w.mapTurned w' b := by
  obtain ⟨D, ⟨es, clock, hb, _⟩, _⟩ := h
  refine ⟨setBlock w b (.map #[] clock), ?_, ⟨.map [], ⟨#[], clock, heap_setBlock_same hb _, ?_, Nat.le_refl _, rfl⟩, fun k => rfl, fun k v h => (by cases h), fun k v h => (by cases h)⟩, ⟨es, clock, #[], clock, hb, rfl⟩⟩
  · simp [Builtin.clear_, run_underlying Try.underlying59, MapKept.run_getObj_map hb, MapKept.run_setObj_map _ hb, Result.andThen, setBlock]
  · exact ⟨by simp, stamped_empty clock, by simp⟩
end
end Go.Proofs.Ytpjhidicgclmbaa

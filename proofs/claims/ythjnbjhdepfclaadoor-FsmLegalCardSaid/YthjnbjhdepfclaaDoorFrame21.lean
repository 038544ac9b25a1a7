/-
  The table and the names out of the row's list; bytes, faults as arguments.
-/
import Derived.Test.YthjnbjhdepfclaaDoorCards
import Derived.Test.YthjnbjhdepfclaaDoorTie
import Derived.Test.YthjnbjhdepfclaaDoorTabF21
import Derived.ProofKit
import Derived.OpenShut
import Derived.Deep.DeepHandedRow
import Derived.Lib.SmallJoins
import Derived.Lib.LaidTab
import Derived.Lib.LaidU8
namespace Go.Proofs.YthjnbjhdepfclaaDoor
open Go.ChangeShapes Go.WideShapes Go.ChangeAt Go.RowKit
set_option linter.unusedVariables false
set_option linter.unusedSimpArgs false

theorem own : ownKnob Tryd.prog.godebug = none := by kernel_rfl
theorem laidOut : laidOutB Tryd.prog = true := by kernel_rfl
theorem gTab21 : Tryd.prog.globalNamed "speculum/fsm.table" = some 0 := by kernel_rfl
theorem gTabT21 : (Tryd.prog.globals[0]?).map (·.type) = some 40 := by kernel_rfl
theorem gNam21 : Tryd.prog.globalNamed "speculum/fsm.names" = some 1 := by kernel_rfl
theorem gNamT21 : (Tryd.prog.globals[1]?).map (·.type) = some 45 := by kernel_rfl
def tabRow (e : Nat) : List Int := (List.range 6).map fun s => (tabN e s : Int)
theorem tab_data : (Rows.laid_speculum_fsm_table : DataW Unit) = .agg ((List.range 16).map fun e => Lib.tabData .u16 (tabRow e)) := by kernel_rfl
theorem name_data : (Rows.laid_speculum_fsm_names : DataW Unit) = .agg (nameL.map fun l => .lit (.string l)) := by kernel_rfl
theorem trod_len {H : Type} {enc : TypeId × Value → H} {w : World} {base : Nat} {sp : Nat → Bool} {held : Bool} {fuel : Nat} {t e : TypeId} {n k : Nat} {cs : List Value} {x : DataW H × List MemPlace} (ht : Tryd.prog.underlying t = some (.array n e)) (hk : Tryd.prog.cellsOf t = k) (h : DataW.trod enc Tryd.prog w base sp held fuel t cs = some x) : cs.length = k := by
  cases fuel with
  | zero => simp [DataW.trod] at h
  | succ fuel =>
    simp only [DataW.trod, ht] at h
    split at h
    · rename_i hl
      rw [hk] at hl
      exact hl
    · cases h
/-- What a row that lists both gives. -/
theorem tabf_of_laid {W : World} (h : laidMetH Tryd.prog [("speculum/fsm.table", Rows.laid_speculum_fsm_table), ("speculum/fsm.names", Rows.laid_speculum_fsm_names)] W) : TabF W := by
  have h0 : laidMet Tryd.prog [("speculum/fsm.table", Rows.laid_speculum_fsm_table), ("speculum/fsm.names", Rows.laid_speculum_fsm_names)] W := h
  have c1 : Tryd.prog.cellsOf 38 = 1 := by kernel_rfl
  have c6 : Tryd.prog.cellsOf 39 = 6 := by kernel_rfl
  have c96 : Tryd.prog.cellsOf 40 = 96 := by kernel_rfl
  have s1 : Tryd.prog.cellsOf 9 = 1 := by kernel_rfl
  have s6 : Tryd.prog.cellsOf 45 = 6 := by kernel_rfl
  refine ⟨?_, ?_⟩
  · obtain ⟨g, t, cs, fuel, p, hg, hty, hvar, htr⟩ := Lib.laidMet.reads h0 (.head _)
    obtain rfl := Option.some.inj (gTab21.symm.trans hg)
    obtain rfl := Option.some.inj (gTabT21.symm.trans hty)
    rw [tab_data] at htr
    have hlen := trod_len Tryd.underlying40 c96 htr
    have hcs : cs.toList = tabL.map fun (n : Nat) => Value.int .u16 (n : Int) := by
      apply List.ext_getElem?
      intro j
      by_cases hj : j < 96
      · obtain ⟨fuel', d, q, hd, ht⟩ := Lib.array_elem Tryd.underlying40 htr (j / 6) (by omega)
        rw [List.getElem?_map, List.getElem?_range (by omega)] at hd
        simp only [Option.map_some, Option.some.injEq] at hd
        subst hd
        rw [c6] at ht
        have he := Lib.cells_of_tab Tryd.underlying39 Tryd.underlying38 c1 c6 ht
        have hc := congrArg (fun (x : List Value) => x[j % 6]?) he
        simp only [List.getElem?_take, List.getElem?_drop] at hc
        rw [if_pos (by omega), show j / 6 * 6 + j % 6 = j by omega] at hc
        rw [hc]
        unfold tabRow tabN
        rw [List.getElem?_map, List.getElem?_map, List.getElem?_range (by omega), List.getElem?_map]
        simp only [Option.map_some]
        rw [show j / 6 * 6 + j % 6 = j by omega]
        have hjl : j < tabL.length := hj
        simp [List.getD, hjl]
      · rw [List.getElem?_eq_none (by omega), List.getElem?_eq_none (by simp [show tabL.length = 96 from rfl]; omega)]
    simp only [World.var?, gTab21, Option.bind_some] at hvar
    split at hvar
    · rename_i cs' t' fr' hh
      have e : cs' = cs := by injection hvar
      refine ⟨t', fr', ?_⟩
      rw [hh, e]
      unfold tabCells21
      rw [← hcs]
    · cases hvar
  · obtain ⟨g, t, cs, fuel, p, hg, hty, hvar, htr⟩ := Lib.laidMet.reads h0 (.tail _ (.head _))
    obtain rfl := Option.some.inj (gNam21.symm.trans hg)
    obtain rfl := Option.some.inj (gNamT21.symm.trans hty)
    rw [name_data] at htr
    have hlen := trod_len Tryd.underlying45 s6 htr
    have hcs : cs.toList = nameL.map fun l => Value.string ⟨l.toArray⟩ := by
      apply List.ext_getElem?
      intro j
      by_cases hj : j < 6
      · obtain ⟨fuel', d, q, hd, ht⟩ := Lib.array_elem Tryd.underlying45 htr j hj
        obtain ⟨l, hl⟩ : ∃ l, nameL[j]? = some l := ⟨_, List.getElem?_eq_getElem hj⟩
        rw [List.getElem?_map, hl] at hd
        simp only [Option.map_some, Option.some.injEq] at hd
        subst hd
        rw [s1] at ht
        obtain ⟨s, h1, h2, _⟩ := DataW.trod_string Tryd.underlying9 ht
        have hs : s = ⟨l.toArray⟩ := by
          have h3 : l = s.data.toList := by
            injection h2 with h2 _
            injection h2 with h2
            injection h2
          rw [h3]
        have hc := congrArg (fun (x : List Value) => x[0]?) h1
        simp only [List.getElem?_take, List.getElem?_drop] at hc
        rw [if_pos (by omega), show j * 1 + 0 = j by omega] at hc
        rw [hc, List.getElem?_map, hl]
        simp [hs]

      · rw [List.getElem?_eq_none (by omega), List.getElem?_eq_none (by simp [show nameL.length = 6 from rfl]; omega)]
    simp only [World.var?, gNam21, Option.bind_some] at hvar
    split at hvar
    · rename_i cs' t' fr' hh
      have e : cs' = cs := by injection hvar
      refine ⟨t', fr', ?_⟩
      rw [hh, e]
      unfold nameCells21
      rw [← hcs]
    · cases hvar
end Go.Proofs.YthjnbjhdepfclaaDoor

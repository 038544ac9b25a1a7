/-
  bytes.Repeat of one byte sixteen times.
-/
import Derived.Test.YtjhmkapafhgofaaDoorStr7
import Derived.Lib.MakeNoZero
import Derived.Deep.RegionLaw
import Derived.Shelf.Small.Bits
import Derived.WalkLawsBesides
namespace Go.Proofs.YtjhmkapafhgofaaDoor
set_option linter.unusedVariables false
set_option linter.unusedSimpArgs false
open Go.RowKit

set_option maxHeartbeats 1600000 in
theorem Mul64_16 (w : World) : Calls Tryd.prog 41 #[.int .u64 1, .int .u64 16] w fun e w' => e = .returned (.tuple #[.int .u64 0, .int .u64 16]) ∧ w = w' := by
  go_enter Tryd.func41, Tryd.ntmps41
  go_wp2_with fail
  go_ret2
  exact ⟨rfl, rfl⟩
set_option maxHeartbeats 1600000 in
theorem Mul_16 (w : World) : Calls Tryd.prog 30 #[.int .u64 1, .int .u64 16] w fun e w' => e = .returned (.tuple #[.int .u64 0, .int .u64 16]) ∧ w = w' := by
  go_enter Tryd.func30, Tryd.ntmps30
  go_wp2_with (go_at_call 41; refine (Mul64_16 _).mono ?_; rintro e w1 ⟨rfl, rfl⟩)
  go_ret2
  exact ⟨rfl, rfl⟩
theorem MakeNoZero_run (w : World) : ∃ cs : List Value, (callFunc 31 #[.int .i64 16]).run Tryd.prog w = .ok (.value (.slice (some ⟨w.heap.size, 0, none⟩) 16 cs.length)) ((w.alloc (.cells cs.toArray 5)).drewN 2) ∧ 16 ≤ cs.length ∧ cs.length ≤ maxLen := by
  obtain ⟨cs, hrunM, hle, hmax⟩ := Lib.run_makeNoZero (P := Tryd.prog) w #[3] 22 5 Tryd.underlying22 16 (by decide)
  refine ⟨cs.toList, ?_, by simpa using hle, by simpa using hmax (by unfold maxLen; decide)⟩
  rw [run_callFunc_extern Tryd.func31 (by kernel_rfl) (by kernel_rfl) (by kernel_rfl) (e := Extern.BytealgMakeNoZero.makeNoZero #[3] #[22]) (by kernel_rfl)]
  have h : (Extern.BytealgMakeNoZero.makeNoZero #[3] #[22] #[.int .i64 16]).run Tryd.prog w = _ := hrunM
  rw [h]
  simp
  rfl
/-- The first k cells of the new block are all 255. -/
def RepRel (w : World) (v : Value) (wr : World) : Prop :=
  Below w.heap.size w wr ∧ ∃ (k : Nat) (cur : List Value), (v = .int .i64 1 ∧ k = 1 ∨ v = .int .i64 2 ∧ k = 2 ∨ v = .int .i64 4 ∧ k = 4 ∨ v = .int .i64 8 ∧ k = 8 ∨ v = .int .i64 16 ∧ k = 16) ∧ 16 ≤ cur.length ∧ wr.heap[w.heap.size]? = some (.cells cur.toArray 5 (0, 0)) ∧ cur.take k = List.replicate k (.int .u8 255)
theorem splice_rep {cur : List Value} {k : Nat} (hk : k + k ≤ 16) (hc : 16 ≤ cur.length) (h : cur.take k = List.replicate k (Value.int .u8 255)) :
    16 ≤ (splice cur k (List.replicate k (Value.int .u8 255))).length ∧ (splice cur k (List.replicate k (Value.int .u8 255))).take (k + k) = List.replicate (k + k) (Value.int .u8 255) := by
  refine ⟨by rw [length_splice _ _ _ (by simp; omega)]; exact hc, ?_⟩
  unfold splice
  rw [h, ← List.append_assoc, List.take_append_of_le_length (by simp)]
  rw [List.take_of_length_le (by simp)]
  apply List.ext_getElem?
  intro i
  rcases Nat.lt_or_ge i k with h1 | h1
  · rw [List.getElem?_append_left (by simpa using h1), List.getElem?_eq_getElem (by simpa using h1), List.getElem?_eq_getElem (by simp; omega)]; simp
  · rw [List.getElem?_append_right (by simpa using h1)]
    rcases Nat.lt_or_ge i (k + k) with h2 | h2
    · rw [List.getElem?_eq_getElem (by simp; omega), List.getElem?_eq_getElem (by simp; omega)]; simp
    · rw [List.getElem?_eq_none (by simp; omega), List.getElem?_eq_none (by simp; omega)]
theorem rep_cell {w : World} {g t k : Nat} {cur : List Value} (hg : w.heap[g]? = some (.cells cur.toArray t (0, 0))) (h : cur.take k = List.replicate k (Value.int .u8 255)) {j : Nat} (hj : j < k) : w.cell? ⟨g, j, none⟩ = some (.int .u8 255) := by
  rw [cell_of_row w g j _ t (0, 0) hg]
  have h1 : (cur.take k)[j]? = some (Value.int .u8 255) := by rw [h]; simp [hj]
  rw [List.getElem?_take, if_pos hj] at h1
  simpa using h1
theorem rep_getD (n : Nat) {j : Nat} (hj : j < n) : (List.replicate n (255 : UInt8)).getD j 0 = 255 := by simp [List.getD, hj]
theorem rep_one (k : Nat) : ∀ v ∈ List.replicate k (Value.int .u8 255), v.oneCell' = true := by
  intro v hv
  rw [List.mem_replicate] at hv
  rw [hv.2]; rfl
theorem src_rep {w : World} {g k : Nat} {dp : Option Addr} (h : ∀ j, j < k → w.cell? ⟨g, j, none⟩ = some (.int .u8 255)) (hd : dp = some ⟨g, k, none⟩ := by rfl) :
    0 < (List.replicate k (Value.int .u8 255)).length → dp = some ⟨g, k, none⟩ ∧ ∃ ad, (some (⟨g, 0, none⟩ : Addr)) = some ad ∧ ∀ j v, (List.replicate k (Value.int .u8 255))[j]? = some v → w.cell? (ad.add j) = some v := by
  intro _
  refine ⟨hd, ⟨g, 0, none⟩, rfl, fun j v hv => ?_⟩
  have hj : j < k := by
    have := (List.getElem?_eq_some_iff.1 hv).1
    simpa using this
  rw [List.getElem?_eq_getElem (by simpa using hj)] at hv
  simp at hv
  subst hv
  rw [Addr.add_lit, Nat.zero_add]
  exact h j hj
theorem one_rep : List.replicate 1 (Value.int .u8 255) = [.int .u8 255] := rfl

set_option maxHeartbeats 6400000 in
theorem Repeat16_any (k c : Nat) (w : World) (h : w.cell? ⟨k, 0, none⟩ = some (.int .u8 255)) (hk : k < w.heap.size) :
    Calls Tryd.prog 24 #[.slice (some ⟨k, 0, none⟩) 1 c, .int .i64 16] w fun e w' => ∃ A, e = .returned (.slice A 16 16) ∧ Bytes w' A (List.replicate 16 255) ∧ Below w.heap.size w w' := by
  obtain ⟨cs, hcall, hn, hm⟩ := MakeNoZero_run w
  have hmi : (16 : Int) ≤ (cs.length : Int) := by omega
  have hb0 : Below w.heap.size w ((w.alloc (.cells cs.toArray 5)).drewN 2) := below_drewN ((Below.refl _ _).alloc (Nat.le_refl _) _) 2
  have hg0 : ((w.alloc (.cells cs.toArray 5)).drewN 2).heap[w.heap.size]? = some (.cells cs.toArray 5 (0, 0)) := heap_alloc_new w _
  have HG0 := Lib.hid hg0; have HB0 := Lib.hid hb0; have HC0 := Lib.hid h; have HN := Lib.hid hn
  have hsz : (Tryd.prog.info? 5).map (·.size) = some 1 := by kernel_rfl
  have HSZ := Lib.hid hsz
  clear hg0 hb0 h hn hm hsz
  go_enter Tryd.func24, Tryd.ntmps24
  go_wp2_with (first | (go_at_call 30; refine (Mul_16 _).mono ?_; rintro e w1 ⟨rfl, rfl⟩) | (with_reducible refine wpList_copy_splice rfl (.tmp 58) (.tmp 59) 22 22 rfl 5 Tryd.underlying22 HSZ.out _ _ 16 16 1 c rfl rfl w.heap.size 0 cs 5 HG0.out [.int .u8 255] rfl ?_ ?_ ?_ w.heap.size w HB0.out (Nat.le_refl _) ?_))
  · intro j v hj
    rcases j with _ | j
    · simp at hj; subst hj; exact HC0.out
    · simp at hj
  · have := HN.out; simp; omega
  · intro v hv; simp at hv; subst hv; rfl
  intro w1 hg1 hb1
  have HG1 := Lib.hid hg1.out; have HB1 := Lib.hid hb1
  have HL1 := Lib.hid (show 16 ≤ (splice cs 0 [Value.int .u8 255]).length by rw [length_splice _ _ _ (by have := HN.out; simp; omega)]; exact HN.out)
  clear hg1 hb1 hcall
  go_wp2_with fail
  go_loopw [10, 11] (fun v _ wr => RepRel w v wr) (fun v _ _ => 16 - (intOf v).toNat)
  case atStart => exact ⟨HB1.out, 1, splice cs 0 [.int .u8 255], .inl ⟨rfl, rfl⟩, HL1.out, HG1.out, by simp [splice, List.replicate]⟩
  case round =>
    clear HB1 HG1 HL1 HG0 HB0 HC0 HN
    obtain ⟨hbr, k', cur, hk', hl, hg, ht⟩ := hrel
    have HG := Lib.hid hg; have HT := Lib.hid ht; have HL := Lib.hid hl
    clear hg ht hl
    rcases hk' with ⟨rfl, rfl⟩ | ⟨rfl, rfl⟩ | ⟨rfl, rfl⟩ | ⟨rfl, rfl⟩ | ⟨rfl, rfl⟩
    · have k0 := fun j (hj : j < 1) => rep_cell HG.out HT.out hj
      have K0 := Lib.hid k0; clear k0
      have HS := Lib.hid (splice_rep (k := 1) (by decide) HL.out HT.out)
      have hmn : (min 1 16 : Int) = 1 := by decide
      have hw : IntKind.i64.wrap 2 = 2 := by decide
      go_wp2_with fail
      go_region_law (refine step_copy_splice (by rfl) (.tmp 70) (.tmp 73) 22 22 (by rfl) 5 Tryd.underlying22 HSZ.out (some ⟨w.heap.size, 1, none⟩) (some ⟨w.heap.size, 0, none⟩) 15 15 1 16 (by kernel_rfl) (by kernel_rfl) w.heap.size 1 cur 5 (by exact HG.out) (List.replicate 1 (.int .u8 255)) (by simp) (by exact src_rep K0.out) (by have := HL.out; simp; omega) (rep_one 1) w.heap.size w hbr.drew (Nat.le_refl _) ?_; intro w2 hg2 hb2)
      have HG2 := Lib.hid hg2.out; have HB2 := Lib.hid hb2; clear hg2 hb2
      go_simp
      go_wp2_with fail
      go_roundw
      case rel => exact ⟨HB2.out, 2, _, by simp, HS.out.1, HG2.out, HS.out.2⟩
      case measure => simp [intOf]
    · have k0 := fun j (hj : j < 2) => rep_cell HG.out HT.out hj
      have K0 := Lib.hid k0; clear k0
      have HS := Lib.hid (splice_rep (k := 2) (by decide) HL.out HT.out)
      have hmn : (min 2 16 : Int) = 2 := by decide
      have hw : IntKind.i64.wrap 4 = 4 := by decide
      go_wp2_with fail
      go_region_law (refine step_copy_splice (by rfl) (.tmp 70) (.tmp 73) 22 22 (by rfl) 5 Tryd.underlying22 HSZ.out (some ⟨w.heap.size, 2, none⟩) (some ⟨w.heap.size, 0, none⟩) 14 14 2 16 (by kernel_rfl) (by kernel_rfl) w.heap.size 2 cur 5 (by exact HG.out) (List.replicate 2 (.int .u8 255)) (by simp) (by exact src_rep K0.out) (by have := HL.out; simp; omega) (rep_one 2) w.heap.size w hbr.drew (Nat.le_refl _) ?_; intro w2 hg2 hb2)
      have HG2 := Lib.hid hg2.out; have HB2 := Lib.hid hb2; clear hg2 hb2
      go_simp
      go_wp2_with fail
      go_roundw
      case rel => exact ⟨HB2.out, 4, _, by simp, HS.out.1, HG2.out, HS.out.2⟩
      case measure => simp [intOf]
    · have k0 := fun j (hj : j < 4) => rep_cell HG.out HT.out hj
      have K0 := Lib.hid k0; clear k0
      have HS := Lib.hid (splice_rep (k := 4) (by decide) HL.out HT.out)
      have hmn : (min 4 16 : Int) = 4 := by decide
      have hw : IntKind.i64.wrap 8 = 8 := by decide
      go_wp2_with fail
      go_region_law (refine step_copy_splice (by rfl) (.tmp 70) (.tmp 73) 22 22 (by rfl) 5 Tryd.underlying22 HSZ.out (some ⟨w.heap.size, 4, none⟩) (some ⟨w.heap.size, 0, none⟩) 12 12 4 16 (by kernel_rfl) (by kernel_rfl) w.heap.size 4 cur 5 (by exact HG.out) (List.replicate 4 (.int .u8 255)) (by simp) (by exact src_rep K0.out) (by have := HL.out; simp; omega) (rep_one 4) w.heap.size w hbr.drew (Nat.le_refl _) ?_; intro w2 hg2 hb2)
      have HG2 := Lib.hid hg2.out; have HB2 := Lib.hid hb2; clear hg2 hb2
      go_simp
      go_wp2_with fail
      go_roundw
      case rel => exact ⟨HB2.out, 8, _, by simp, HS.out.1, HG2.out, HS.out.2⟩
      case measure => simp [intOf]
    · have k0 := fun j (hj : j < 8) => rep_cell HG.out HT.out hj
      have K0 := Lib.hid k0; clear k0
      have HS := Lib.hid (splice_rep (k := 8) (by decide) HL.out HT.out)
      have hmn : (min 8 16 : Int) = 8 := by decide
      have hw : IntKind.i64.wrap 16 = 16 := by decide
      go_wp2_with fail
      go_region_law (refine step_copy_splice (by rfl) (.tmp 70) (.tmp 73) 22 22 (by rfl) 5 Tryd.underlying22 HSZ.out (some ⟨w.heap.size, 8, none⟩) (some ⟨w.heap.size, 0, none⟩) 8 8 8 16 (by kernel_rfl) (by kernel_rfl) w.heap.size 8 cur 5 (by exact HG.out) (List.replicate 8 (.int .u8 255)) (by simp) (by exact src_rep K0.out) (by have := HL.out; simp; omega) (rep_one 8) w.heap.size w hbr.drew (Nat.le_refl _) ?_; intro w2 hg2 hb2)
      have HG2 := Lib.hid hg2.out; have HB2 := Lib.hid hb2; clear hg2 hb2
      go_simp
      go_wp2_with fail
      go_roundw
      case rel => exact ⟨HB2.out, 16, _, by simp, HS.out.1, HG2.out, HS.out.2⟩
      case measure => simp [intOf]
    · have k0 := fun j (hj : j < 16) => rep_cell HG.out HT.out hj
      have K0 := Lib.hid k0; clear k0
      have HLT := Lib.hid (Array.getElem?_eq_some_iff.1 HG.out).1
      go_wp2_with fail
      go_ret
      exact ⟨_, rfl, fun _ => ⟨_, 0, rfl, HLT.out, fun j hj => by
        have h1 := K0.out j (by simpa using hj)
        rw [rep_getD 16 (by simpa using hj), Nat.zero_add]
        exact h1⟩, hbr⟩
end Go.Proofs.YtjhmkapafhgofaaDoor

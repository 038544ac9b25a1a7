/-
  All candidates as runners, each at its place.
-/
import Derived.Test.YtpjhidicgclmbaaRow15
namespace Go.Proofs.Ytpjhidicgclmbaa
set_option linter.unusedVariables false
set_option linter.unusedSimpArgs false
open Go.RowKit

def Cv0 : Cv := ⟨0, false, 0, 0, 0, 0, none, 0, [], 0, 0, 0, false, false, 0, 0, none, 0, 0, none, 0, 0⟩
/-- What each of some candidates is held against others by. -/
def keyL (L : List Cv) (i : Nat) : Rn := keyOf (L.getD i Cv0) (i : Int)
theorem keyL_z (L : List Cv) (i : Nat) : (keyL L i).z = (i : Int) := rfl
def runsL (L : List Cv) (n : Nat) : List Rn := (List.range n).map (keyL L)
/-- The first k of them laid. -/
def laidR (L : List Cv) (k : Nat) : List Rn := runsL L k ++ List.replicate (L.length - k) Rn0
theorem laid_zero (L : List Cv) : laidR L 0 = List.replicate L.length Rn0 := by simp [laidR, runsL]
theorem laid_end (L : List Cv) : laidR L L.length = runsL L L.length := by simp [laidR]
theorem laid_len {L : List Cv} {k : Nat} (h : k ≤ L.length) : (laidR L k).length = L.length := by simp [laidR, runsL]; omega
theorem laid_step {L : List Cv} {k : Nat} (h : k < L.length) : (laidR L k).set k (keyL L k) = laidR L (k + 1) := by
  have h1 : (runsL L k).length = k := by simp [runsL]
  unfold laidR
  rw [List.set_append_right _ _ (by omega), h1, Nat.sub_self]
  have h2 : L.length - k = (L.length - (k + 1)) + 1 := by omega
  rw [h2, List.replicate_succ, List.set_cons_zero]
  have h3 : runsL L (k + 1) = runsL L k ++ [keyL L k] := by simp [runsL, List.range_succ]
  rw [h3]
  simp
/-- What the call leaves that makes runners. -/
def RetRuns (w : World) (L : List Cv) (e : Ending) (w' : World) : Prop :=
  e = .returned (.slice (some ⟨w.heap.size, 0, none⟩) L.length L.length) ∧ RBlk w' w.heap.size (runsL L L.length) ∧ Below w.heap.size w w'
def RunsRel (w : World) (L : List Cv) (i : Value) (wr : World) : Prop :=
  Below w.heap.size w wr ∧ ∃ k : Nat, k ≤ L.length ∧ i = .int .i64 (k : Int) ∧ RBlk wr w.heap.size (laidR L k)

set_option maxRecDepth 100000 in
set_option maxHeartbeats 6400000 in
theorem runners_any (A : Option Addr) (c : Nat) (L : List Cv) (w : World) (h : CandsIn w w.heap.size A L) (hk : ∀ s ∈ L, CntOk s) (hl : L.length ≤ 1000000) :
    Calls Try.prog 21 #[.slice A L.length c] w (RetRuns w L) := by
  obtain ⟨w1, hmk, hR, hb1, hz1⟩ := make_run L.length hl w
  have HS := Lib.hid h; have HK := Lib.hid hk
  rw [← laid_zero L] at hR
  have HR1 := Lib.hid hR; have HB1 := Lib.hid hb1; have HZ := Lib.hid hz1
  clear h hk hR hb1 hz1
  go_enter Try.func21, Try.ntmps21
  go_wp2_with fail
  clear hmk
  go_loopw [11] (fun i wr => RunsRel w L i wr) (fun i _ => L.length - (intOf i).toNat)
  case atStart => exact ⟨HB1.out, 0, Nat.zero_le _, rfl, HR1.out⟩
  case round =>
    obtain ⟨hbr, k, hk, rfl, hR⟩ := hrel
    clear HR1 HB1 HZ
    by_cases hlt : k < L.length
    · obtain ⟨s, hs⟩ : ∃ s, L[k]? = some s := ⟨_, List.getElem?_eq_getElem hlt⟩
      obtain ⟨b, off, rfl, hb, hcells, hin⟩ := (HS.out.below hbr (Nat.le_refl _)).at hs
      have hz : k < (laidR L k).length := by rw [laid_len hk]; exact hlt
      have hst := laid_step hlt
      have hkey : keyL L k = keyOf s (k : Int) := by unfold keyL; rw [List.getD_eq_getElem?_getD, hs]; rfl
      have hold : ∃ y, (laidR L k)[k]? = some y := ⟨_, List.getElem?_eq_getElem hz⟩
      obtain ⟨y, hy⟩ := hold
      have Q := Lib.hid (fun (W : World) (hW : s.In W W.heap.size) => runnerOf_any s (k : Int) W hW (HK.out s (List.mem_of_getElem? hs)))
      have HIN := Lib.hid hin; have HY := Lib.hid hy; have HBR := Lib.hid hbr; have HRK := Lib.hid hR; have HST := Lib.hid hst; have HZK := Lib.hid hz; have HLT := Lib.hid hlt
      rw [hkey] at HST
      clear hs hin hbr hR hst hkey hy hz
      have d0 : wr.cell? ⟨b, off + k * 16, none⟩ = some _ := hcells 0 _ rfl
      have d1 : wr.cell? ⟨b, off + k * 16 + 1, none⟩ = some _ := hcells 1 _ rfl
      have d2 : wr.cell? ⟨b, off + k * 16 + 2, none⟩ = some _ := hcells 2 _ rfl
      have d3 : wr.cell? ⟨b, off + k * 16 + 3, none⟩ = some _ := hcells 3 _ rfl
      have d4 : wr.cell? ⟨b, off + k * 16 + 4, none⟩ = some _ := hcells 4 _ rfl
      have d5 : wr.cell? ⟨b, off + k * 16 + 5, none⟩ = some _ := hcells 5 _ rfl
      have d6 : wr.cell? ⟨b, off + k * 16 + 6, none⟩ = some _ := hcells 6 _ rfl
      have d7 : wr.cell? ⟨b, off + k * 16 + 7, none⟩ = some _ := hcells 7 _ rfl
      have d8 : wr.cell? ⟨b, off + k * 16 + 8, none⟩ = some _ := hcells 8 _ rfl
      have d9 : wr.cell? ⟨b, off + k * 16 + 9, none⟩ = some _ := hcells 9 _ rfl
      have d10 : wr.cell? ⟨b, off + k * 16 + 10, none⟩ = some _ := hcells 10 _ rfl
      have d11 : wr.cell? ⟨b, off + k * 16 + 11, none⟩ = some _ := hcells 11 _ rfl
      have d12 : wr.cell? ⟨b, off + k * 16 + 12, none⟩ = some _ := hcells 12 _ rfl
      have d13 : wr.cell? ⟨b, off + k * 16 + 13, none⟩ = some _ := hcells 13 _ rfl
      have d14 : wr.cell? ⟨b, off + k * 16 + 14, none⟩ = some _ := hcells 14 _ rfl
      have d15 : wr.cell? ⟨b, off + k * 16 + 15, none⟩ = some _ := hcells 15 _ rfl
      clear hcells
      have hbA := (Below.refl wr.heap.size wr).alloc (Nat.le_refl _) (.cells s.row.toArray 34)
      have HBA := Lib.hid hbA
      obtain ⟨x, hx⟩ : ∃ x, x = keyOf s (k : Int) := ⟨_, rfl⟩
      rw [← hx] at Q HST
      have Q2 := Lib.hid (Q.out (wr.alloc (.cells s.row.toArray 34)) (HIN.out.below hbA HBR.out.size |>.lift (Nat.le_trans HBR.out.size hbA.size)))
      clear hx Q hbA HIN
      obtain ⟨peer, ext, near, id, addr, org, pathA, pathC, path, next, med, pref, atomic, has, aas, aad, commsA, commsN, commsC, rawsA, rawsN, rawsC⟩ := s
      unfold Cv.agg Cv.row at Q2
      unfold Cv.row at HBA
      dsimp only at d0 d1 d2 d3 d4 d5 d6 d7 d8 d9 d10 d11 d12 d13 d14 d15 Q2 HBA
      go_wp2_with fail
      refine Q2.out.mono ?_
      rintro e w2 ⟨rfl, hb2⟩
      have HB2 := Lib.hid (HBA.out.trans (hb2.mono HBA.out.size))
      have HR2 := Lib.hid (HRK.out.go HB2.out)
      have HBW := Lib.hid (HBR.out.trans (HB2.out.mono HBR.out.size))
      clear hb2 HBA HB2 HRK Q2 d0 d1 d2 d3 d4 d5 d6 d7 d8 d9 d10 d11 d12 d13 d14 d15
      have r0 : w2.cell? ⟨w.heap.size, k * 10, none⟩ = some _ := (Blk.cell HR2.out _).trans (flatR_at _ _ _ HY.out 0 _ rfl)
      have f0 : w2.frozen? ⟨w.heap.size, k * 10, none⟩ = false := Blk.free HR2.out _
      have r1 : w2.cell? ⟨w.heap.size, k * 10 + 1, none⟩ = some _ := (Blk.cell HR2.out _).trans (flatR_at _ _ _ HY.out 1 _ rfl)
      have f1 : w2.frozen? ⟨w.heap.size, k * 10 + 1, none⟩ = false := Blk.free HR2.out _
      have r2 : w2.cell? ⟨w.heap.size, k * 10 + 2, none⟩ = some _ := (Blk.cell HR2.out _).trans (flatR_at _ _ _ HY.out 2 _ rfl)
      have f2 : w2.frozen? ⟨w.heap.size, k * 10 + 2, none⟩ = false := Blk.free HR2.out _
      have r3 : w2.cell? ⟨w.heap.size, k * 10 + 3, none⟩ = some _ := (Blk.cell HR2.out _).trans (flatR_at _ _ _ HY.out 3 _ rfl)
      have f3 : w2.frozen? ⟨w.heap.size, k * 10 + 3, none⟩ = false := Blk.free HR2.out _
      have r4 : w2.cell? ⟨w.heap.size, k * 10 + 4, none⟩ = some _ := (Blk.cell HR2.out _).trans (flatR_at _ _ _ HY.out 4 _ rfl)
      have f4 : w2.frozen? ⟨w.heap.size, k * 10 + 4, none⟩ = false := Blk.free HR2.out _
      have r5 : w2.cell? ⟨w.heap.size, k * 10 + 5, none⟩ = some _ := (Blk.cell HR2.out _).trans (flatR_at _ _ _ HY.out 5 _ rfl)
      have f5 : w2.frozen? ⟨w.heap.size, k * 10 + 5, none⟩ = false := Blk.free HR2.out _
      have r6 : w2.cell? ⟨w.heap.size, k * 10 + 6, none⟩ = some _ := (Blk.cell HR2.out _).trans (flatR_at _ _ _ HY.out 6 _ rfl)
      have f6 : w2.frozen? ⟨w.heap.size, k * 10 + 6, none⟩ = false := Blk.free HR2.out _
      have r7 : w2.cell? ⟨w.heap.size, k * 10 + 7, none⟩ = some _ := (Blk.cell HR2.out _).trans (flatR_at _ _ _ HY.out 7 _ rfl)
      have f7 : w2.frozen? ⟨w.heap.size, k * 10 + 7, none⟩ = false := Blk.free HR2.out _
      have r8 : w2.cell? ⟨w.heap.size, k * 10 + 8, none⟩ = some _ := (Blk.cell HR2.out _).trans (flatR_at _ _ _ HY.out 8 _ rfl)
      have f8 : w2.frozen? ⟨w.heap.size, k * 10 + 8, none⟩ = false := Blk.free HR2.out _
      have r9 : w2.cell? ⟨w.heap.size, k * 10 + 9, none⟩ = some _ := (Blk.cell HR2.out _).trans (flatR_at _ _ _ HY.out 9 _ rfl)
      have f9 : w2.frozen? ⟨w.heap.size, k * 10 + 9, none⟩ = false := Blk.free HR2.out _
      unfold Rn.agg Rn.row
      go_wp2_with fail
      go_roundw
      case rel =>
        refine ⟨?_, k + 1, HLT.out, by go_num, ?_⟩
        · repeat (refine Below.setCell ?_ (by show w.heap.size ≤ w.heap.size; omega) _)
          exact HBW.out
        · rw [← HST.out]
          exact RBlk.put HR2.out HZK.out x
      case measure => have := HLT.out; simp [intOf]; omega
    · obtain rfl : k = L.length := by omega
      rw [laid_end] at hR
      go_wp2_with fail
      go_ret
      exact ⟨rfl, hR, hbr⟩
end Go.Proofs.Ytpjhidicgclmbaa

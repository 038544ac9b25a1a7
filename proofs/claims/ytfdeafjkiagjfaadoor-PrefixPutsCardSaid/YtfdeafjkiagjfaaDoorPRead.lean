/-
  A prefix out of bytes that are there.
-/
import Derived.Test.YtfdeafjkiagjfaaDoorPPut
import Derived.Test.YtfdeafjkiagjfaaDoorRefCommon
import Derived.Test.YtfdeafjkiagjfaaDoorU32
namespace Go.Proofs.YtfdeafjkiagjfaaDoor
set_option linter.unusedVariables false
set_option linter.unusedSimpArgs false
open Go.RowKit

theorem len4 : Tryd.prog.arrayLen 75 = 4 := by kernel_rfl
theorem arr4 : Tryd.prog.underlying 75 = some (.array (Tryd.prog.arrayLen 75) (Tryd.prog.elem 75)) := by kernel_rfl
theorem size4 (w : World) : (sizeOf (Tryd.prog.elem 75)).run Tryd.prog w = .ok 1 w := by kernel_rfl
theorem slice4 (g : Nat) (w : World) : (Instr.sliceAt 75 (.pointer (some ⟨g, 0, none⟩)) none none none).run Tryd.prog w = .ok (.slice (some ⟨g, 0, none⟩) 4 4) w := by
  rw [run_sliceAt_array_all w 75 _ arr4, size4, len4]
  simp [slicedAt, Result.andThen, Addr.add_lit]
theorem grown_setCell_new {a b : World} {row : Option Nat} (h : a.grownBy b row) {r : Nat} (hr : a.heap.size ≤ r) (o : Nat) (u : Value) : a.grownBy (b.setCell ⟨r, o, none⟩ u) row :=
  ⟨h.os, h.tape, h.output, by simpa [World.setCell] using h.size, fun i hi hne => (Below.heap_setCell b ⟨r, o, none⟩ u i (by simp; omega)).trans (h.block i hi hne)⟩

/-- Four bytes: some, and noughts behind them. -/
def pad4 (b : List UInt8) : List UInt8 := b ++ List.replicate (4 - b.length) 0
theorem pad4_len {b : List UInt8} (h : b.length ≤ 4) : (pad4 b).length = 4 := by
  rw [pad4, List.length_append, List.length_replicate]
  omega
theorem rdTake_app (b rest : List UInt8) (n : Nat) (h : n = b.length) : rdTake (b ++ rest) false (n : Int) = (b, rest, false) := by
  subst h
  unfold rdTake
  rw [if_pos (by simp; omega)]
  simp
theorem num_one (k : Nat) (h : k < 256) : num [UInt8.ofNat k] = k := by simp [num, Nat.mod_eq_of_lt h]

/-- What a Read leaves that tells a prefix. -/
def ReadPost (w : World) (B g X k : Nat) (rest : List UInt8) (e : Ending) (w' : World) : Prop :=
  e = .returned (.tuple #[.agg #[.int .u32 (X : Int), .int .i64 (k : Int)], .int .i64 0]) ∧ Rd w' B g rest false ∧ w.grownBy w' (some g)
theorem splice_pad (b : List UInt8) (h : b.length ≤ 4) : splice [Value.int .u8 0, .int .u8 0, .int .u8 0, .int .u8 0] 0 (b.map fun x => Value.int .u8 (x.toNat : Int)) = (pad4 b).map fun x => Value.int .u8 (x.toNat : Int) := by
  unfold pad4
  rcases b with _ | ⟨b0, _ | ⟨b1, _ | ⟨b2, _ | ⟨b3, _ | ⟨b4, b⟩⟩⟩⟩⟩
  · rfl
  · rfl
  · rfl
  · rfl
  · rfl
  · simp at h

set_option maxHeartbeats 6400000 in
theorem Read_ok (k B g : Nat) (b rest : List UInt8) (w : World) (h : Rd w B g (UInt8.ofNat k :: (b ++ rest)) false) (hk : k ≤ 32) (hbl : b.length = (k + 7) / 8) (hl : (b ++ rest).length ≤ 1000000) :
    Calls Tryd.prog 38 #[.pointer (some ⟨g, 0, none⟩)] w (ReadPost w B g (hi (num (pad4 b)) k) k rest) := by
  have hb4 : b.length ≤ 4 := by omega
  have hn4 : num (pad4 b) < 4294967296 := num_lt4 (by rw [pad4_len hb4]; exact Nat.le_refl _)
  have hg0 := h.lt
  have hW := grown_alloc (grown_refl w (some g)) (.cells #[.int .u32 0, .int .i64 0] 24)
  have h1 := h.below ((Below.refl w.heap.size w).alloc (Nat.le_refl _) (.cells #[.int .u32 0, .int .i64 0] 24)) hg0
  have qB := Byte_any B g _ false _ h1
  have e1 : rdTake (UInt8.ofNat k :: (b ++ rest)) false 1 = ([UInt8.ofNat k], b ++ rest, false) := rdTake_app [UInt8.ofNat k] (b ++ rest) 1 rfl
  rw [e1] at qB
  have kR := Blk.new w 24 [.int .u32 0, .int .i64 0]
  have QB := Lib.hid (show Calls Tryd.prog 52 #[.pointer (some ⟨g, 0, none⟩)] (w.alloc (.cells #[.int .u32 0, .int .i64 0] 24)) (fun e w' => e = .returned (.int .i64 (k : Int)) ∧ Rd w' B g (b ++ rest) false ∧ (w.alloc (.cells #[.int .u32 0, .int .i64 0] 24)).grownBy w' (some g)) from qB.mono (fun e w' ⟨h1, h2, h3⟩ => ⟨by rw [h1, num_one k (by omega)], h2, h3⟩))
  have KR := Lib.hid kR
  have QN := fun W => Lib.hid (Norm_any (num (pad4 b)) (k : Int) W hn4 (by omega) (by omega))
  rw [cl_nat hk] at QN
  have QO := fun W => Lib.hid (room_any k W hk)
  have hgI : ¬ (32 : Int) < (k : Int) := by omega
  have HW := Lib.hid hW
  have HBL := Lib.hid hbl
  have HPL := Lib.hid (pad4_len hb4)
  have HSP := Lib.hid (splice_pad b hb4)
  have HLL := Lib.hid hl
  have hs4 := slice4
  clear qB kR e1 h1 h hW hbl hl
  go_enter Tryd.func38, Tryd.ntmps38
  go_wp2_with fail
  refine QB.out.mono ?_
  rintro e w1 ⟨rfl, hr1, hg1⟩
  have R1 := Lib.hid hr1
  have K1 := Lib.hid (KR.out.grown hg1 (by omega))
  have G1 := Lib.hid (grown_trans HW.out hg1)
  clear hr1 hg1 QB
  go_wp2_with fail
  refine (Err_any _ _ _ _ _ R1.out).mono ?_
  rintro e w1' ⟨rfl, rfl⟩
  simp only [errN]
  go_wp2_with fail
  refine (QO _).out.mono ?_
  rintro e w1' ⟨rfl, rfl⟩
  go_wp2_with fail
  have qT := Take_any (((k + 7) / 8 : Nat) : Int) B g (b ++ rest) false w1 R1.out HLL.out
  rw [rdTake_app b rest _ HBL.out.symm] at qT
  refine qT.mono ?_
  rintro e w2 ⟨A2, c2, rfl, f1, f2, hown2, hr2, hg2⟩
  dsimp only at hr2
  have R2 := Lib.hid hr2
  have K2 := Lib.hid (K1.out.grown hg2 (by omega))
  have G2 := Lib.hid (grown_trans G1.out hg2)
  have Y2 := Lib.hid hown2.bytes
  clear hr2 hg2 hown2 f1 f2 qT R1 K1 G1
  go_wp2_with fail
  refine (Err_any _ _ _ _ _ R2.out).mono ?_
  rintro e w2' ⟨rfl, rfl⟩
  simp only [errN]
  have HC4 := heap_alloc_new w2 (.cells #[.int .u8 0, .int .u8 0, .int .u8 0, .int .u8 0] 75)
  have YA := Lib.hid (Y2.out.alloc (.cells #[.int .u8 0, .int .u8 0, .int .u8 0, .int .u8 0] 75))
  have HC5 := Lib.hid HC4
  clear HC4
  go_wp2_with (refine wpList_copy_splice rfl (.tmp 30) (.tmp 31) 45 45 rfl 5 Tryd.underlying45 (by kernel_rfl) (some ⟨w2.heap.size, 0, none⟩) A2 4 4 b.length c2 rfl rfl w2.heap.size 0 [.int .u8 0, .int .u8 0, .int .u8 0, .int .u8 0] 75 HC5.out (b.map fun x => Value.int .u8 (x.toNat : Int)) ?c1 ?c2 ?c3 ?c4 w2.heap.size w2 ?c5 (Nat.le_refl _) ?_)
  case c1 =>
    rw [List.length_map]
    show b.length = min b.length 4
    omega
  case c2 =>
    intro hpos
    obtain ⟨bb, off, hA, _, hc⟩ := YA.out (by intro e; rw [e] at hpos; simp at hpos)
    refine ⟨_, hA, fun j x hj => ?_⟩
    have hj' : j < b.length := (List.getElem?_eq_some_iff.1 hj).1
    rw [Addr.add_lit, hc j hj']
    simp [List.getD, hj]
  case c3 =>
    rw [List.length_map]
    show 0 + b.length ≤ 4
    omega
  case c4 => exact cells_oneCell b
  case c5 => exact (Below.refl _ _).alloc (Nat.le_refl _) _
  intro w3 hg3 hb3
  have hk3 : Blk w3 w2.heap.size 75 ((pad4 b).map fun x => Value.int .u8 (x.toNat : Int)) := by
    have h := hg3.out
    rw [HSP.out] at h
    exact h
  have Y3 := Lib.hid (show Bytes w3 (some ⟨w2.heap.size, 0, none⟩) (pad4 b) from fun _ => ⟨w2.heap.size, 0, rfl, hk3.lt, fun j hj => by rw [hk3.cell]; simp [List.getD, hj]⟩)
  have hsb := hb3.size
  clear hg3 hk3 YA HC5 Y2
  go_wp2_with fail
  refine (New_any _ 4 4 (pad4 b) HPL.out.symm w3 Y3.out (by rw [HPL.out]; exact Nat.le_refl _) (by unfold maxLen; decide)).mono ?_
  rintro e w4 ⟨rfl, hr4, hb4'⟩
  have R4 := Lib.hid hr4
  have B4 := Lib.hid (hb3.trans (hb4'.mono hb3.size))
  clear hr4 hb4' hb3 Y3
  go_wp2_with fail
  have e4 : rdTake (pad4 b) false 4 = (pad4 b, [], false) := by
    have h := rdTake_app (pad4 b) [] 4 HPL.out.symm
    rwa [List.append_nil] at h
  have q5 := U32_any _ _ _ _ _ R4.out
  rw [e4] at q5
  refine q5.mono ?_
  rintro e w5 ⟨rfl, _, hg5⟩
  have B5 := Lib.hid (B4.out.trans (below_of_grown hg5 B4.out.size hsb))
  clear hg5 q5 e4 R4 B4
  go_wp2_with fail
  refine (QN _).out.mono ?_
  rintro e w6 ⟨rfl, hb6⟩
  have hb6' := B5.out.trans (hb6.mono B5.out.size)
  have hk6 := K2.out.below hb6' K2.out.lt
  have R6 := Lib.hid (R2.out.below hb6' R2.out.lt)
  have G6 := Lib.hid (grown_trans G2.out (grown_of_below hb6' _))
  have c6 := cells2 hk6
  have f6 := free2 hk6
  have K6 := Lib.hid hk6
  have HBg := Lib.hid R2.out.1
  obtain ⟨X, hX⟩ : ∃ X, X = hi (num (pad4 b)) k := ⟨_, rfl⟩
  rw [← hX]
  have HX := Lib.hid hX
  clear hb6 hb6' hk6 B5 R2 K2 G2 hX
  go_wp2_with fail
  refine bodyPost_ret (v := .tuple #[.agg #[.int .u32 (X : Int), .int .i64 (k : Int)], .int .i64 0]) (by simp [results, Tryd.results38, go_sem, (res_cells (.int .u32 (X : Int)) (.int .i64 (k : Int)) K6.out).1, (res_cells (.int .u32 (X : Int)) (.int .i64 (k : Int)) K6.out).2]) rfl ⟨by rw [HX.out], ?_, ?_⟩
  · exact R6.out.grown (grown_setCell (grown_setCell (grown_refl _ _) _ _) _ _) (Nat.ne_of_lt hg0) (by have := HBg.out; omega)
  · exact grown_setCell_new (grown_setCell_new G6.out (Nat.le_refl _) _ _) (Nat.le_refl _) _ _
end Go.Proofs.YtfdeafjkiagjfaaDoor

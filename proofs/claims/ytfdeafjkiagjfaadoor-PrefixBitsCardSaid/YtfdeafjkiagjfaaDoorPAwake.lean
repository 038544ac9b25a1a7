/-
  The example that each statement of this layer asks for.
-/
import Derived.Test.YtfdeafjkiagjfaaDoorParse
import Derived.Test.YtfdeafjkiagjfaaDoorPPutW
import Derived.Test.YtfdeafjkiagjfaaDoorPText
import Derived.Test.YtfdeafjkiagjfaaDoorCovers
namespace Go.Proofs.YtfdeafjkiagjfaaDoor
set_option linter.unusedVariables false
set_option linter.unusedSimpArgs false
open Go.RowKit

theorem dec8 : dec 8 = [56] := by rw [dec_small (by decide)]; rfl
theorem dec0 : dec 0 = [48] := by rw [dec_small (by decide)]; rfl
theorem dec10 : dec 10 = [49, 48] := by rw [dec_step (by decide), dec_small (by decide)]; rfl
theorem int8 : intSpec [56] = some 8 := intSpec_of dec8 (by decide)
theorem int0 : intSpec [48] = some 0 := intSpec_of dec0 (by decide)
theorem int10 : intSpec [49, 48] = some 10 := intSpec_of dec10 (by decide)
theorem addr_ten : addrOf [49, 48, 46, 48, 46, 48, 46, 48] = some 167772160 := by
  have c1 : cutL [49, 48, 46, 48, 46, 48, 46, 48] 46 = ([49, 48], [48, 46, 48, 46, 48]) := by decide
  have c2 : cutL [48, 46, 48, 46, 48] 46 = ([48], [48, 46, 48]) := by decide
  have c3 : cutL [48, 46, 48] 46 = ([48], [48]) := by decide
  simp [addrOf, pa, part8, c1, c2, c3, int10, int0]
theorem parse_ten : parseP [49, 48, 46, 48, 46, 48, 46, 48, 47, 56] = some (167772160, 8) := by
  have c1 : cutL [49, 48, 46, 48, 46, 48, 46, 48, 47, 56] 47 = ([49, 48, 46, 48, 46, 48, 46, 48], [56]) := by decide
  have h : okP ((167772160 : Nat) : Int) ((8 : Nat) : Int) = true := by decide
  unfold parseP
  rw [c1]
  simp only [addr_ten, int8, h, if_true]
theorem text_ten : textP ((167772160 : Nat) : Int) ((8 : Nat) : Int) = [49, 48, 46, 48, 46, 48, 46, 48, 47, 56] := by
  have h : okP ((167772160 : Nat) : Int) ((8 : Nat) : Int) = true := by decide
  unfold textP
  rw [h, if_pos rfl]
  have e1 : ((167772160 : Nat) : Int).toNat = 167772160 := rfl
  have e2 : ((8 : Nat) : Int).toNat = 8 := rfl
  rw [e1, e2, dec8]
  have a0 : 167772160 / 16777216 = 10 := by decide
  have a1 : 167772160 / 65536 % 256 = 0 := by decide
  have a2 : 167772160 / 256 % 256 = 0 := by decide
  have a3 : 167772160 % 256 = 0 := by decide
  simp only [addrL, addrP, a0, a1, a2, a3, dec10, dec0]
  rfl
theorem bytes_ten : [] ++ bytesP 167772160 8 = [8, 10] := by decide
theorem covers_ten : coversB ((167772160 : Nat) : Int) ((8 : Nat) : Int) 167837696 16 = true := by decide

set_option maxHeartbeats 1600000 in
theorem awake_any (w : World) (ht : Tab w) : Calls Tryd.prog 17 #[] w fun e w' => e = .returned (.bool true) ∧ Below w.heap.size w w' := by
  have qP := Parse_any [49, 48, 46, 48, 46, 48, 46, 48, 47, 56] w (by decide) ht
  rw [parse_ten] at qP
  have QP := Lib.hid qP
  have HT := Lib.hid ht; clear ht qP
  go_enter Tryd.func17, Tryd.ntmps17
  go_wp2_with fail
  refine QP.out.mono ?_
  rintro e w1 ⟨rfl, hb1⟩
  simp only [retParse]
  have QU := Lib.hid (PPut_ok none 0 [] 167772160 8 (w1.alloc (.cells #[.int .u32 ((167772160 : Nat) : Int), .int .i64 ((8 : Nat) : Int)] 24)) (by decide) (by decide) (by decide) (by simp) (Bytes.nil _ _))
  rw [bytes_ten] at QU
  go_wp2_with fail
  refine QU.out.mono ?_
  rintro e w2 ⟨A, c, rfl, f1, f2, hown, hb2'⟩
  simp only [retPut]
  have hb1a := hb1.alloc hb1.size (.cells #[.int .u32 ((167772160 : Nat) : Int), .int .i64 ((8 : Nat) : Int)] 24)
  have hb2 := hb1a.trans (hb2'.mono hb1a.size)
  have hq := (Blk.new w1 24 [.int .u32 ((167772160 : Nat) : Int), .int .i64 ((8 : Nat) : Int)]).below hb2' (by simp)
  have d0 : w2.cell? ⟨w1.heap.size, 0, none⟩ = some (.int .u32 167772160) := hq.cell 0
  have d1 : w2.cell? ⟨w1.heap.size, 1, none⟩ = some (.int .i64 8) := hq.cell 1
  have qV := Covers_any 167772160 167837696 ((8 : Nat) : Int) 16 w2 (by decide) (by decide) (by decide) (by decide) (by decide) (by decide)
  rw [covers_ten] at qV
  have QV := Lib.hid qV
  have HQ := Lib.hid hq; have HO := Lib.hid hown
  clear qV hq hown hb2' f1 f2 QU
  go_wp2_with fail
  refine QV.out.mono ?_
  rintro e w3 ⟨rfl, hb3'⟩
  have hb3 := hb2.trans (hb3'.mono hb2.size)
  have hq := HQ.out.below hb3' HQ.out.lt
  have g0 : w3.cell? ⟨w1.heap.size, 0, none⟩ = some (.int .u32 167772160) := hq.cell 0
  have g1 : w3.cell? ⟨w1.heap.size, 1, none⟩ = some (.int .i64 8) := hq.cell 1
  have k1 := conv_bytes' (d := 9) isBytes Tryd.underlying9 (HO.out.bytes.below hb3') c (n := 2) (by rfl)
  have qT := PText_any 167772160 ((8 : Nat) : Int) w3 (by decide) (by decide) (by decide) (HT.out.below hb3 HT.out.lt)
  rw [text_ten] at qT
  have QT := Lib.hid qT
  clear hq qT
  go_wp2_with fail
  refine QT.out.mono ?_
  rintro e w4 ⟨rfl, hb4'⟩
  have hb4 := hb3.trans (hb4'.mono hb3.size)
  go_wp2_with fail
  go_ret
  exact ⟨rfl, hb4⟩
end Go.Proofs.YtfdeafjkiagjfaaDoor

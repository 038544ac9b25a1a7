/-
  The example that each statement asks for.
-/
import Derived.Test.YtjfbfboecpbgbaaDoorText
namespace Go.Proofs.YtjfbfboecpbgbaaDoor
open Go.RowKit

theorem dec7 : dec 7 = [55] := by rw [dec_small (by decide)]; rfl

theorem be16_258 : [] ++ be16 258 = [1, 2] := by decide
theorem hex_171 : hexL [171] = [97, 98] := by decide
theorem text_7 : textL (-7) = [45, 55] := by
  have := textL_neg 7 (by decide)
  rw [dec7] at this
  exact this

set_option maxHeartbeats 800000 in
theorem awake_any (w : World) (ht : Tab w) : Calls Tryd.prog 10 #[] w fun e w' => e = .returned (.bool true) ∧ Below w.heap.size w w' := by
  have h0 := Put16_any none 0 0 [] rfl 258 w (by simp) (Bytes.nil _ _) (by omega) (by omega)
  rw [be16_258] at h0
  have h12 := Lib.hid h0
  have HT := Lib.hid ht; clear ht h0
  go_enter Tryd.func10, Tryd.ntmps10
  go_wp2_with fail
  refine h12.out.mono ?_
  rintro e w1 ⟨A1, c1, rfl, f1, f2, hown1, hb1⟩
  have k1 := conv_bytes' (d := 9) isBytes Tryd.underlying9 hown1.bytes c1 (n := 2) (by rfl)
  have HB := Lib.hid hb1
  clear hown1 hb1 f1 f2
  go_wp2_with fail
  have h2 := Hex_any (some ⟨w1.heap.size, 0, none⟩) 1 1 [171] rfl (w1.alloc (.cells #[.int .u8 171] 5)) (by simp) (bytes_lit w1 5 [171]) (HT.out.below (HB.out.alloc HB.out.size _) HT.out.lt)
  rw [hex_171] at h2
  have h27 := Lib.hid h2; clear h2
  refine h27.out.mono ?_
  rintro e w2 ⟨rfl, hb2⟩
  have HB2 := Lib.hid ((HB.out.alloc HB.out.size (.cells #[.int .u8 171] 5)).trans (hb2.mono (by simp; exact Nat.le_succ_of_le HB.out.size)))
  clear hb2
  go_wp2_with fail
  have h3 := Text_any (-7) w2 (by omega) (by omega) (HT.out.below HB2.out HT.out.lt)
  rw [text_7] at h3
  have h31 := Lib.hid h3; clear h3
  refine h31.out.mono ?_
  rintro e w3 ⟨rfl, hb3⟩
  have HB3 := Lib.hid (HB2.out.trans (hb3.mono HB2.out.size))
  clear hb3
  go_wp2_with fail
  go_ret
  exact ⟨rfl, HB3.out⟩
end Go.Proofs.YtjfbfboecpbgbaaDoor

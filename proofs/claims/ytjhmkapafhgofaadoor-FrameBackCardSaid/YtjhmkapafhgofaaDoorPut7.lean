/-
  A message's bytes, as the program puts them.
-/
import Derived.Test.YtjhmkapafhgofaaDoorRefPut7
import Derived.Test.YtjhmkapafhgofaaDoorTab7
import Derived.Test.YtjhmkapafhgofaaDoorRepeat7
import Derived.Test.YtjhmkapafhgofaaDoorConcatN
import Derived.Test.YtjhmkapafhgofaaDoorPutA
namespace Go.Proofs.YtjhmkapafhgofaaDoor
set_option linter.unusedVariables false
set_option linter.unusedSimpArgs false
open Go.RowKit

set_option maxHeartbeats 3200000 in
theorem Put7_any (k : Int) (A : Option Addr) (c : Nat) (l : List UInt8) (w : World) (h : Bytes w A l) (hm : l.length ≤ 1000000) (ht : TabL w) :
    Calls Tryd.prog 9 #[.int .i64 k, .slice A l.length c] w (PutVal w k l) := by
  have ql := Least_any k w ht
  obtain ⟨L, hL⟩ : ∃ L, L = leastN k := ⟨_, rfl⟩
  rw [← hL] at ql
  have QL := Lib.hid ql; have HL := Lib.hid hL; have HB := Lib.hid h
  clear ql hL h ht
  by_cases hL0 : L = 0
  · subst hL0
    go_enter Tryd.func9, Tryd.ntmps9
    go_wp2_with (go_at_call 12; refine QL.out.mono ?_; rintro e w' ⟨rfl, rfl⟩)
    go_ret2
    exact ⟨Below.refl _ _, .inl ⟨HL.out.symm, rfl⟩⟩
  have hl0 : ((L : Int) == 0) = false := by simpa using hL0
  have HX := Lib.hid (show leastN k ≠ 0 from HL.out ▸ hL0)
  have hk := leastN_iff.1 HX.out
  clear hL0
  by_cases hl : 4077 < l.length
  · have hlI : (4096 : Int) < 19 + (l.length : Int) := by omega
    have HLL := Lib.hid hl
    clear hl hk
    go_enter Tryd.func9, Tryd.ntmps9
    go_wp2_with (go_at_call 12; refine QL.out.mono ?_; rintro e w' ⟨rfl, rfl⟩)
    go_ret2
    exact ⟨Below.refl _ _, .inr (.inl ⟨HX.out, HLL.out, rfl⟩)⟩
  have hlI : ¬ (4096 : Int) < 19 + (l.length : Int) := by omega
  have hk0 : 0 ≤ k := by omega
  have hk9 : k < 256 := by omega
  clear hk
  go_enter Tryd.func9, Tryd.ntmps9
  go_wp2_with (go_at_call 12; refine QL.out.mono ?_; rintro e w' ⟨rfl, rfl⟩)
  have hb1 := (Below.refl w.heap.size w).alloc (Nat.le_refl _) (.cells #[.int .u8 255] 5)
  have q1 := Repeat16_any w.heap.size 1 (w.alloc (.cells #[.int .u8 255] 5)) ((Blk.new w 5 [.int .u8 255]).cell 0) (by simp)
  obtain ⟨R, hR⟩ : ∃ R, R = List.replicate 16 (255 : UInt8) := ⟨_, rfl⟩
  have hrl : R.length = 16 := by rw [hR]; simp
  rw [← hR] at q1
  have Q1 := Lib.hid q1; have HR := Lib.hid hR; have HRL := Lib.hid hrl; have HB1 := Lib.hid hb1
  clear q1 hR hrl hb1
  refine Q1.out.mono ?_
  rintro e w2 ⟨A2, rfl, hy2, hb2⟩
  have HY2 := Lib.hid hy2; have HB2 := Lib.hid (HB1.out.trans (hb2.mono HB1.out.size))
  have Q2 := Lib.hid (Put16_any none 0 0 [] rfl ((19 + l.length : Nat) : Int) w2 (by simp) (Bytes.nil _ _) (by omega) (by omega))
  clear hy2 hb2 Q1
  go_wp2_with fail
  refine Q2.out.mono ?_
  rintro e w3 ⟨A3, c3, rfl, f3, g3, ho3, hb3⟩
  have HY3 := Lib.hid ho3.bytes; have HB3 := Lib.hid (HB2.out.trans (hb3.mono HB2.out.size)); have HB23 := Lib.hid hb3
  have hL4 : Below w3.heap.size w3 (w3.alloc (.cells #[.int .u8 k] 5)) := (Below.refl _ _).alloc (Nat.le_refl _) _
  have hL5 : Below w3.heap.size w3 ((w3.alloc (.cells #[.int .u8 k] 5)).alloc (.cells #[.slice A2 16 16, .slice A3 (be16 (19 + (l.length : Int))).length c3, .slice (some ⟨w3.heap.size, 0, none⟩) 1 1, .slice A l.length c] 22)) := hL4.alloc hL4.size _
  have hz4 : (w3.alloc (.cells #[.int .u8 k] 5)).heap.size = w3.heap.size + 1 := by simp
  have hcast : (((19 + l.length : Nat) : Int)) = 19 + (l.length : Int) := by omega
  have hk5 := Blk.new (w3.alloc (.cells #[.int .u8 k] 5)) 22 [.slice A2 16 16, .slice A3 (be16 (19 + (l.length : Int))).length c3, .slice (some ⟨w3.heap.size, 0, none⟩) 1 1, .slice A l.length c]
  rw [hz4] at hk5
  have hone : Bytes ((w3.alloc (.cells #[.int .u8 k] 5)).alloc (.cells #[.slice A2 16 16, .slice A3 (be16 (19 + (l.length : Int))).length c3, .slice (some ⟨w3.heap.size, 0, none⟩) 1 1, .slice A l.length c] 22)) (some ⟨w3.heap.size, 0, none⟩) [UInt8.ofNat k.toNat] := (bytes_one w3 5 hk0 hk9).alloc _
  have hy3 : Bytes ((w3.alloc (.cells #[.int .u8 k] 5)).alloc (.cells #[.slice A2 16 16, .slice A3 (be16 (19 + (l.length : Int))).length c3, .slice (some ⟨w3.heap.size, 0, none⟩) 1 1, .slice A l.length c] 22)) A3 (be16 (19 + (l.length : Int))) := by
    have h := HY3.out.below hL5
    rw [hcast] at h
    exact h
  have q5 := ConcatN_any (w3.heap.size + 1) 4 4 [(A2, 16, R), (A3, c3, be16 (19 + (l.length : Int))), (some ⟨w3.heap.size, 0, none⟩, 1, [UInt8.ofNat k.toNat]), (A, c, l)] ((w3.alloc (.cells #[.int .u8 k] 5)).alloc (.cells #[.slice A2 16 16, .slice A3 (be16 (19 + (l.length : Int))).length c3, .slice (some ⟨w3.heap.size, 0, none⟩) 1 1, .slice A l.length c] 22)) rfl
    (sls_of_blk (by simpa [HRL.out] using hk5) (by
      intro x hx
      simp only [List.mem_cons, List.not_mem_nil, or_false] at hx
      rcases hx with rfl | rfl | rfl | rfl
      · exact (HY2.out.below HB23.out).below hL5
      · exact hy3
      · exact hone
      · exact HB.out.below (HB3.out.trans (hL5.mono HB3.out.size))))
    (by simp [joinB, HRL.out, be16]; omega) (by simp)
  have hj : joinB [(A2, 16, R), (A3, c3, be16 (19 + (l.length : Int))), ((some ⟨w3.heap.size, 0, none⟩ : Option Addr), 1, [UInt8.ofNat k.toNat]), (A, c, l)] = msgL k.toNat l := by
    unfold msgL joinB
    rw [← HR.out, hcast]
    simp
  rw [hj] at q5
  have Q5 := Lib.hid q5
  have HB5 := Lib.hid (HB3.out.trans (hL5.mono HB3.out.size))
  clear q5 hj hone hy3 hk5 hz4 hL4 hL5
  obtain ⟨M, hM⟩ : ∃ M, M = msgL k.toNat l := ⟨_, rfl⟩
  rw [← hM] at Q5
  have HM := Lib.hid hM
  clear hM
  go_wp2_with fail
  refine Q5.out.mono ?_
  rintro e w6 ⟨A6, c6, rfl, f6, g6, ho6, hb6⟩
  have HO6 := Lib.hid ho6; have HB6 := Lib.hid hb6
  clear ho6 hb6 Q5
  go_wp2_with fail
  go_ret2
  exact ⟨HB5.out.trans (HB6.out.mono HB5.out.size), .inr (.inr ⟨HX.out, by omega, A6, c6, by rw [← HM.out]; rfl, by rw [← HM.out]; exact f6, g6, by rw [← HM.out]; exact HO6.out.lower HB5.out.size⟩)⟩
end Go.Proofs.YtjhmkapafhgofaaDoor

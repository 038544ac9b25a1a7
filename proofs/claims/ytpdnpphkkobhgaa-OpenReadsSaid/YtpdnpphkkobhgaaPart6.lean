/-
  A part's bytes: its kind, how many bytes its value has, the value.
-/
import Derived.Test.YtpdnpphkkobhgaaConcatN
namespace Go.Proofs.Ytpdnpphkkobhgaa
set_option linter.unusedVariables false
set_option linter.unusedSimpArgs false
open Go.RowKit

def byteI (k : Int) : UInt8 := UInt8.ofNat (IntKind.u8.wrap k).toNat
def partL (k : Int) (l : List UInt8) : List UInt8 := [byteI k, byteI (l.length : Int)] ++ l
theorem wrap8 (k : Int) : 0 ≤ IntKind.u8.wrap k ∧ IntKind.u8.wrap k < 256 := by
  simp [IntKind.wrap, IntKind.bits, IntKind.signed]; omega
theorem byteI_val (k : Int) : (((byteI k).toNat : Nat) : Int) = IntKind.u8.wrap k := toNat_ofNat_toNat (wrap8 k).1 (wrap8 k).2
theorem own_part (w : World) (e : Nat) (a b : Int) : Own (w.alloc (.cells #[.int .u8 (IntKind.u8.wrap a), .int .u8 (IntKind.u8.wrap b)] e)) w.heap.size e (.slice (some ⟨w.heap.size, 0, none⟩) 2 2) [byteI a, byteI b] := by
  refine ⟨by simp, .inr ⟨w.heap.size, 2, _, rfl, Nat.le_refl _, heap_alloc_new w _, Nat.le_refl _, by unfold maxLen; omega, rfl, ?_⟩⟩
  have h1 := byteI_val a
  have h2 := byteI_val b
  simp [h1, h2]
set_option maxHeartbeats 3200000 in
theorem part_any (k : Int) (A : Option Addr) (n c : Nat) (l : List UInt8) (hn : n = l.length) (w : World) (h : Bytes w A l) (hm : l.length ≤ 1000000) :
    Calls Try.prog 28 #[.int .i64 k, .slice A n c] w (RetBytes w (partL k l)) := by
  subst hn
  have hz : (w.alloc (.cells #[.int .u8 (IntKind.u8.wrap k), .int .u8 (IntKind.u8.wrap (l.length : Int))] 5)).heap.size = w.heap.size + 1 := by simp
  have hb1 := (Below.refl w.heap.size w).alloc (Nat.le_refl _) (.cells #[.int .u8 (IntKind.u8.wrap k), .int .u8 (IntKind.u8.wrap (l.length : Int))] 5)
  have ho := own_part w 5 k (l.length : Int)
  have hb2 := (Below.refl (w.alloc (.cells #[.int .u8 (IntKind.u8.wrap k), .int .u8 (IntKind.u8.wrap (l.length : Int))] 5)).heap.size _).alloc (Nat.le_refl _) (.cells #[.slice (some ⟨w.heap.size, 0, none⟩) 2 2, .slice A l.length c] 28)
  have hk := Blk.new (w.alloc (.cells #[.int .u8 (IntKind.u8.wrap k), .int .u8 (IntKind.u8.wrap (l.length : Int))] 5)) 28 [.slice (some ⟨w.heap.size, 0, none⟩) 2 2, .slice A l.length c]
  rw [hz] at hk
  have q := ConcatN_any (w.heap.size + 1) 2 2 [(some ⟨w.heap.size, 0, none⟩, 2, [byteI k, byteI (l.length : Int)]), (A, c, l)] _ rfl
    (sls_of_blk hk (by
      intro x hx
      simp only [List.mem_cons, List.not_mem_nil, or_false] at hx
      rcases hx with rfl | rfl
      · exact ho.bytes.below hb2
      · exact (h.below hb1).below hb2)) (by simp [joinB]; omega) (by simp)
  have hj : joinB [(some ⟨w.heap.size, 0, none⟩, 2, [byteI k, byteI (l.length : Int)]), (A, c, l)] = partL k l := by simp [joinB, partL]
  rw [hj] at q
  have Q := Lib.hid q
  have HB := Lib.hid (hb1.trans (hb2.mono hb1.size))
  clear hz hb1 ho hb2 hk q hj h
  go_enter Try.func28, Try.ntmps28
  go_wp2_with fail
  refine Q.out.mono ?_
  rintro e w2 ⟨A2, c2, rfl, f2, g2, ho2, hb2⟩
  have HO2 := Lib.hid (ho2.lower HB.out.size)
  have HB2 := Lib.hid (HB.out.trans (hb2.mono HB.out.size))
  clear ho2 hb2
  go_wp2_with fail
  go_ret
  exact ⟨A2, c2, rfl, f2, g2, HO2.out, HB2.out⟩
end Go.Proofs.Ytpdnpphkkobhgaa

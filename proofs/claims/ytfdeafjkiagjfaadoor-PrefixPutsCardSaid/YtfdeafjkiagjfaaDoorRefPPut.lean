/-
  A prefix's bytes, by the document.
-/
import Derived.Test.YtfdeafjkiagjfaaDoorPPut
import Derived.Test.YtfdeafjkiagjfaaDoorPPutW
import Derived.Test.YtfdeafjkiagjfaaDoorRefRight
namespace Go.Proofs.YtfdeafjkiagjfaaDoor
set_option linter.unusedVariables false
set_option linter.unusedSimpArgs false
open Go.RowKit

set_option maxHeartbeats 1600000 in
theorem RefPPut_bad (A : Option Addr) (c : Nat) (l : List UInt8) (a : Nat) (n : Int) (w : World) (ha : a < 4294967296) (hok : okP (a : Int) n = false) :
    Calls Tryd.prog 35 #[.slice A l.length c, .agg #[.int .u32 (a : Int), .int .i64 n]] w fun e w' => e = .returned (retPut (.slice none 0 0) 1) ∧ Below w.heap.size w w' := by
  have QR := fun w => Lib.hid (RefRight_any a n w ha)
  rw [hok] at QR
  clear hok
  go_enter Tryd.func35, Tryd.ntmps35
  go_wp2_with fail
  refine (QR _).out.mono ?_
  rintro e w1 ⟨rfl, hb1⟩
  go_wp2_with fail
  exact bodyPost_ret (v := retPut (.slice none 0 0) 1) (by simp [results, Tryd.results35, go_sem, retPut]) rfl ⟨rfl, below_box hb1⟩

/-- What a call leaves that returns bytes of its own and no error. -/
def RetPut (w : World) (l : List UInt8) (e : Ending) (w' : World) : Prop :=
  ∃ A' c', e = .returned (retPut (.slice A' l.length c') 0) ∧ l.length ≤ c' ∧ c' ≤ maxLen ∧ Own w' w.heap.size 5 (.slice A' l.length c') l ∧ Below w.heap.size w w'

/-- What is left of a number's bytes behind the first j, as the highest of four. -/
def nP (a : Nat) : Nat → Nat
  | 0 => a
  | j + 1 => nP a j % 16777216 * 256
theorem nP_lt {a : Nat} (ha : a < 4294967296) (j : Nat) : nP a j < 4294967296 := by
  cases j with
  | zero => exact ha
  | succ j => simp only [nP]; omega
theorem nP_byte {a j : Nat} (ha : a < 4294967296) (hj : j < 4) : UInt8.ofNat (((nP a j : Nat) : Int) / 16777216).toNat = (be32 (a : Int)).getD j 0 := by
  have e : ∀ x y : Int, x = y → UInt8.ofNat x.toNat = UInt8.ofNat y.toNat := fun x y h => by rw [h]
  rcases (show j = 0 ∨ j = 1 ∨ j = 2 ∨ j = 3 by omega) with rfl | rfl | rfl | rfl
  · exact e _ _ (by simp only [nP]; omega)
  · exact e _ _ (by simp only [nP]; omega)
  · exact e _ _ (by simp only [nP]; omega)
  · exact e _ _ (by simp only [nP]; omega)

def PutPRel (w : World) (l : List UInt8) (a k : Nat) (v n i : Value) (wr : World) : Prop :=
  Below (w.alloc (.cells #[.int .u32 (a : Int), .int .i64 (k : Int)] 24)).heap.size (w.alloc (.cells #[.int .u32 (a : Int), .int .i64 (k : Int)] 24)) wr ∧
    ∃ j N : Nat, j ≤ (k + 7) / 8 ∧ i = .int .i64 (j : Int) ∧ n = .int .i64 (N : Int) ∧ Hid (N = nP a j) ∧ Own wr (w.alloc (.cells #[.int .u32 (a : Int), .int .i64 (k : Int)] 24)).heap.size 5 v ((l ++ [UInt8.ofNat k]) ++ (be32 a).take j)

set_option maxHeartbeats 6400000 in
theorem RefPPut_ok (A : Option Addr) (c : Nat) (l : List UInt8) (a k : Nat) (w : World) (ha : a < 4294967296) (hk : k ≤ 32) (hok : okP (a : Int) (k : Int) = true) (hl : l.length ≤ 1000000) (hb : Bytes w A l) :
    Calls Tryd.prog 35 #[.slice A l.length c, .agg #[.int .u32 (a : Int), .int .i64 (k : Int)]] w (RetPut w (l ++ bytesP a k)) := by
  have QR := fun w => Lib.hid (RefRight_any a (k : Int) w ha)
  rw [hok] at QR
  clear hok
  have HS := Lib.hid (fun w' hb => box_cells w (.int .u32 (a : Int)) (.int .i64 (k : Int)) (w' := w') hb)
  have hb0 := Below.refl (w.alloc (.cells #[.int .u32 (a : Int), .int .i64 (k : Int)] 24)).heap.size (w.alloc (.cells #[.int .u32 (a : Int), .int .i64 (k : Int)] 24))
  have HBy := Lib.hid (hb.alloc (.cells #[.int .u32 (a : Int), .int .i64 (k : Int)] 24))
  have eS : (w.alloc (.cells #[.int .u32 (a : Int), .int .i64 (k : Int)] 24)).heap.size = w.heap.size + 1 := by simp
  have HE := Lib.hid eS
  have hw8 := wrap8 hk
  clear hb eS
  go_enter Tryd.func35, Tryd.ntmps35
  go_wp2_with fail
  refine (QR _).out.mono ?_
  rintro e w1 ⟨rfl, hb1'⟩
  have hb1 := hb0.trans (hb1'.mono hb0.size)
  clear hb1'
  have HC := HS.out _ hb1
  have hA1 := HBy.out.below hb1
  have HA1 := Lib.hid hA1; clear hA1
  go_wp2_with (at_builtin; refine wpList_append_bytes isBytes rfl (.tmp 12) (.tmp 13) rfl (w.alloc (.cells #[.int .u32 (a : Int), .int .i64 (k : Int)] 24)) (.slice none 0 0) [] rfl (Own.nil w1 _ _) A l l.length c rfl rfl HA1.out (by simp; omega) hb1 ?_)
  intro v2 w2 hown2 hg2 hb2
  rw [← HE.out] at hown2 hb2
  have HC2 := HS.out _ hb2
  have H2 := Lib.hid hown2; clear hown2 hg2 HC HA1
  go_wp2_with (at_builtin; refine wpList_append_byte isBytes rfl (.tmp 15) (.tmp 19) rfl (w.alloc (.cells #[.int .u32 (a : Int), .int .i64 (k : Int)] 24)) v2 l rfl w2 _ rfl H2.out rfl ?b0 ?b1 ?b2 hb2 ?_)
  case b0 => omega
  case b1 => omega
  case b2 => omega
  intro v3 w3 hown3 hg3 hb3
  rw [← HE.out] at hown3 hb3
  have HC3 := HS.out _ hb3
  have H3 := Lib.hid hown3; clear hown3 hg3 HC2 H2 hb2
  go_wp2_with fail
  go_loopw [6, 7, 8] (fun v n i wr => PutPRel w l a k v n i wr) (fun _ _ i _ => 5 - (intOf i).toNat)
  case atStart => exact ⟨hb3, 0, a, by omega, rfl, rfl, Lib.hid rfl, by simpa using H3.out⟩
  case round =>
    clear hb3 HC3 H3 hb1
    obtain ⟨hbr, j, N, hj, rfl, rfl, hNN, hown⟩ := hrel
    have HCr := HS.out _ hbr
    have hN := nP_lt ha j
    rw [← hNN.out] at hN
    have hll : ((l ++ [UInt8.ofNat k]) ++ (be32 a).take j).length ≤ 1000005 := by simp [be32]; omega
    by_cases hlt : 8 * j < k
    · have hltI : 8 * (j : Int) < (k : Int) := by omega
      have HB := Lib.hid (nP_byte ha (show j < 4 by omega))
      have hnx : ((nP a j : Nat) : Int) % 16777216 * 256 = ((nP a (j + 1) : Nat) : Int) := by simp only [nP]; omega
      have HNX := Lib.hid hnx
      have H := Lib.hid hown
      have HLL := Lib.hid hll
      rw [← hNN.out] at HB HNX
      clear hown hnx hll hNN hlt
      go_wp2_with (at_builtin; refine wpList_append_byte isBytes rfl (.tmp 31) (.tmp 35) rfl (w.alloc (.cells #[.int .u32 (a : Int), .int .i64 (k : Int)] 24)) _ _ rfl wr _ rfl H.out rfl ?b0 ?b1 ?b2 hbr ?_)
      case b0 => omega
      case b1 => omega
      case b2 => have := HLL.out; omega
      intro v4 w4 hown4 hg4 hb4
      rw [← HE.out] at hown4 hb4
      have H4 := Lib.hid hown4
      clear hown4 hg4
      go_wp2_with fail
      go_roundw
      case rel => exact ⟨hb4, j + 1, nP a (j + 1), by omega, by go_num, by rw [HNX.out], Lib.hid rfl, by
        have h := H4.out
        rw [HB.out] at h
        rw [take_snoc (be32 a) j (by simp [be32]; omega)]
        simpa using h⟩
      case measure => simp [intOf]; omega
    · have hltI : ¬ 8 * (j : Int) < (k : Int) := by omega
      have hj2 : j = (k + 7) / 8 := by omega
      have hE : (l ++ [UInt8.ofNat k]) ++ (be32 a).take j = l ++ bytesP a k := by rw [hj2, List.append_assoc]; rfl
      rw [hE] at hown
      obtain ⟨A', c', rfl, f1, f2⟩ := hown.form
      have H := Lib.hid (show Own wr w.heap.size 5 _ _ from hown.lower (by simp))
      have F1 := Lib.hid f1; have F2 := Lib.hid f2
      clear hown hll hE hj2 f1 f2 hlt hNN
      go_wp2_with fail
      exact bodyPost_ret (v := retPut (.slice A' (l ++ bytesP a k).length c') 0) (by simp [results, Tryd.results35, go_sem, retPut]) rfl ⟨A', c', rfl, F1.out, F2.out, H.out, below_box hbr⟩
end Go.Proofs.YtfdeafjkiagjfaaDoor

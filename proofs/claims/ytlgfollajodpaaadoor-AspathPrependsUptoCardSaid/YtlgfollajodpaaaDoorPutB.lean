/-
  octet's put of a uint32, and Put32.
-/
import Derived.Test.YtlgfollajodpaaaDoorSeat
namespace Go.Proofs.YtlgfollajodpaaaDoor
open Go.RowKit

/-- Four bytes of a number, the highest one first. -/
def be32 (x : Int) : List UInt8 := [UInt8.ofNat (x / 16777216 % 256).toNat, UInt8.ofNat (x / 65536 % 256).toNat, UInt8.ofNat (x / 256 % 256).toNat, UInt8.ofNat (x % 256).toNat]
theorem be32_first {x : Int} (h0 : 0 ≤ x) (h1 : x < 4294967296) : UInt8.ofNat (x / 16777216).toNat = (be32 x).getD 0 0 := by
  have h9 : x / 16777216 % 256 = x / 16777216 := by omega
  simp [be32, h9]
def PutRel4 (w : World) (l : List UInt8) (x : Int) (v i : Value) (wr : World) : Prop :=
  Below w.heap.size w wr ∧ ∃ k : Nat, k ≤ 4 ∧ i = .int .i64 (3 - (k : Int)) ∧ Own wr w.heap.size 5 v (l ++ (be32 x).take k)
theorem take_be32 (l : List UInt8) (x : Int) (w : World) (B e : Nat) (v : Value) (k : Nat) (b : UInt8) (hk : k < 4) (hb : b = (be32 x).getD k 0) (h : Own w B e v (l ++ ((be32 x).take k ++ [b]))) : Own w B e v (l ++ (be32 x).take (k + 1)) := by
  rw [take_snoc (be32 x) k (by simpa [be32] using hk), ← hb]
  exact h
set_option maxHeartbeats 800000 in
theorem put_u32 (A : Option Addr) (n c : Nat) (l : List UInt8) (hn : n = l.length) (x : Int) (w : World) (hl : l.length ≤ 1000000) (h : Bytes w A l) (hx0 : 0 ≤ x) (hx1 : x < 4294967296) :
    Calls Tryd.prog 58 #[.slice A n c, .int .u32 x, .int .i64 4] w (RetBytes w (l ++ be32 x)) := by
  subst hn
  go_enter Tryd.func58, Tryd.ntmps58
  go_wp2_with (first
    | (at_make; refine wpList_make_bytes isBytes rfl _ _ rfl w (l.length : Nat) (l.length + 4 : Nat) l.length (l.length + 4) rfl (by first | rfl | simp) rfl (by simp) (by omega) (by omega) (Below.refl _ _) ?_; intro w1 hown1 hg1 hb1; have H1 := Lib.hid hown1; clear hown1 hg1)
    | (with_reducible refine wpList_copy_bytes isBytes rfl (.tmp 16) (.tmp 17) rfl w _ l.length (l.length + 4) (List.replicate l.length 0) rfl H1.out A l.length c l rfl rfl (by simp) (h.below hb1) hb1 ?_; intro w2 hown2 hg2 hb2; have H2 := Lib.hid hown2; clear hown2 hg2 hb1 H1))
  go_loopw [7, 8] (fun v i wr => PutRel4 w l x v i wr) (fun _ i _ => (intOf i + 1).toNat)
  case atStart => exact ⟨hb2, 0, by omega, rfl, by simpa using H2.out⟩
  case round =>
    clear h H2 hb2
    obtain ⟨hbr, k, hk, rfl, hown⟩ := hrel
    have hlen : (l ++ (be32 x).take k).length ≤ 1000004 := by simp [be32]; omega
    rcases (show k = 0 ∨ k = 1 ∨ k = 2 ∨ k = 3 ∨ k = 4 by omega) with rfl | rfl | rfl | rfl | rfl
    · have H := Lib.hid hown; clear hown
      have HL := Lib.hid hlen; clear hlen
      go_wp2_with (at_builtin; refine wpList_append_byte isBytes rfl (.tmp 25) (.tmp 31) rfl w _ _ rfl wr _ rfl H.out rfl ?_ ?_ ?_ hbr ?_)
      · omega
      · omega
      · have := HL.out; omega
      · intro v' w' hown' _ hb'
        have H' := Lib.hid (take_be32 l x w' _ _ v' 0 (UInt8.ofNat (x / 16777216).toNat) (by decide) (be32_first hx0 hx1) hown'); clear hown' hbr H
        go_wp2
        go_roundw
        case rel => exact ⟨hb', 1, by decide, rfl, H'.out⟩
        case measure => simp [intOf]
    · have H := Lib.hid hown; clear hown
      have HL := Lib.hid hlen; clear hlen
      go_wp2_with (at_builtin; refine wpList_append_byte isBytes rfl (.tmp 25) (.tmp 31) rfl w _ _ rfl wr _ rfl H.out rfl ?_ ?_ ?_ hbr ?_)
      · omega
      · omega
      · have := HL.out; omega
      · intro v' w' hown' _ hb'
        have H' := Lib.hid (take_be32 l x w' _ _ v' 1 _ (by decide) (by rfl) hown'); clear hown' hbr H
        go_wp2
        go_roundw
        case rel => exact ⟨hb', 2, by decide, rfl, H'.out⟩
        case measure => simp [intOf]
    · have H := Lib.hid hown; clear hown
      have HL := Lib.hid hlen; clear hlen
      go_wp2_with (at_builtin; refine wpList_append_byte isBytes rfl (.tmp 25) (.tmp 31) rfl w _ _ rfl wr _ rfl H.out rfl ?_ ?_ ?_ hbr ?_)
      · omega
      · omega
      · have := HL.out; omega
      · intro v' w' hown' _ hb'
        have H' := Lib.hid (take_be32 l x w' _ _ v' 2 _ (by decide) (by rfl) hown'); clear hown' hbr H
        go_wp2
        go_roundw
        case rel => exact ⟨hb', 3, by decide, rfl, H'.out⟩
        case measure => simp [intOf]
    · have H := Lib.hid hown; clear hown
      have HL := Lib.hid hlen; clear hlen
      go_wp2_with (at_builtin; refine wpList_append_byte isBytes rfl (.tmp 25) (.tmp 31) rfl w _ _ rfl wr _ rfl H.out rfl ?_ ?_ ?_ hbr ?_)
      · omega
      · omega
      · have := HL.out; omega
      · intro v' w' hown' _ hb'
        have H' := Lib.hid (take_be32 l x w' _ _ v' 3 _ (by decide) (by rfl) hown'); clear hown' hbr H
        go_wp2
        go_roundw
        case rel => exact ⟨hb', 4, by decide, rfl, H'.out⟩
        case measure => simp [intOf]
    · obtain ⟨A', c', rfl, f1, f2⟩ := hown.form
      have H := Lib.hid hown; clear hown hlen
      have f3 := Lib.hid f1; have f4 := Lib.hid f2; clear f1 f2
      go_wp2
      go_ret
      exact ⟨_, _, rfl, f3.out, f4.out, H.out, hbr⟩
theorem Put32_any (A : Option Addr) (n c : Nat) (l : List UInt8) (hn : n = l.length) (x : Int) (w : World) (hl : l.length ≤ 1000000) (h : Bytes w A l) (hx0 : 0 ≤ x) (hx1 : x < 4294967296) :
    Calls Tryd.prog 48 #[.slice A n c, .int .u32 x] w (RetBytes w (l ++ be32 x)) := by
  subst hn
  have h36 := Lib.hid (put_u32 A _ c l rfl x w hl h hx0 hx1)
  clear h hl
  go_enter Tryd.func48, Tryd.ntmps48
  go_wp2_with fail
  refine h36.out.mono ?_
  rintro e w1 ⟨A1, c1, rfl, hr⟩
  go_wp2_with fail
  go_ret
  exact ⟨_, _, by simp, hr⟩
end Go.Proofs.YtlgfollajodpaaaDoor

/-
  octet's put of an int, and Put16.
-/
import Derived.Test.YtlgfollajodpaaaDoorSeat
namespace Go.Proofs.YtlgfollajodpaaaDoor
open Go.RowKit

/-- Two bytes of a number, the higher one first. -/
def be16 (x : Int) : List UInt8 := [UInt8.ofNat (x / 256 % 256).toNat, UInt8.ofNat (x % 256).toNat]
def PutRel (w : World) (l : List UInt8) (x : Int) (v i : Value) (wr : World) : Prop :=
  Below w.heap.size w wr ∧ ((i = .int .i64 1 ∧ Own wr w.heap.size 5 v l) ∨ (i = .int .i64 0 ∧ Own wr w.heap.size 5 v (l ++ [UInt8.ofNat (x / 256 % 256).toNat])) ∨ (i = .int .i64 (-1) ∧ Own wr w.heap.size 5 v (l ++ be16 x)))
set_option maxHeartbeats 800000 in
theorem put_int (A : Option Addr) (n c : Nat) (l : List UInt8) (hn : n = l.length) (x : Int) (w : World) (hl : l.length ≤ 1000000) (h : Bytes w A l) (_hx0 : -9223372036854775808 ≤ x) (_hx1 : x ≤ 9223372036854775807) :
    Calls Tryd.prog 59 #[.slice A n c, .int .i64 x, .int .i64 2] w (RetBytes w (l ++ be16 x)) := by
  subst hn
  go_enter Tryd.func59, Tryd.ntmps59
  go_wp2_with (first
    | (at_make; refine wpList_make_bytes isBytes rfl _ _ rfl w (l.length : Nat) (l.length + 2 : Nat) l.length (l.length + 2) rfl (by first | rfl | simp) rfl (by simp) (by omega) (by omega) (Below.refl _ _) ?_; intro w1 hown1 hg1 hb1; have H1 := Lib.hid hown1; clear hown1 hg1)
    | (with_reducible refine wpList_copy_bytes isBytes rfl (.tmp 16) (.tmp 17) rfl w _ l.length (l.length + 2) (List.replicate l.length 0) rfl H1.out A l.length c l rfl rfl (by simp) (h.below hb1) hb1 ?_; intro w2 hown2 hg2 hb2; have H2 := Lib.hid hown2; clear hown2 hg2 hb1 H1))
  go_loopw [7, 8] (fun v i wr => PutRel w l x v i wr) (fun _ i _ => (intOf i + 1).toNat)
  case atStart => exact ⟨hb2, .inl ⟨rfl, H2.out⟩⟩
  case round =>
    clear h H2 hb2
    obtain ⟨hbr, hrel | hrel | hrel⟩ := hrel
    · obtain ⟨rfl, hown⟩ := hrel
      have H := Lib.hid hown; clear hown
      go_wp2_with (at_builtin; refine wpList_append_byte isBytes rfl (.tmp 25) (.tmp 31) rfl w _ _ rfl wr _ rfl H.out rfl ?_ ?_ ?_ hbr ?_)
      · omega
      · omega
      · omega
      · intro v' w' hown' _ hb'
        have H' := Lib.hid hown'; clear hown' hbr H
        go_wp2
        go_roundw
        case rel => exact ⟨hb', .inr (.inl ⟨rfl, H'.out⟩)⟩
        case measure => simp [intOf]
    · obtain ⟨rfl, hown⟩ := hrel
      have H := Lib.hid hown; clear hown
      go_wp2_with (at_builtin; refine wpList_append_byte isBytes rfl (.tmp 25) (.tmp 31) rfl w _ _ rfl wr _ rfl H.out rfl ?_ ?_ ?_ hbr ?_)
      · omega
      · omega
      · simp; omega
      · intro v' w' hown' _ hb'
        have H' := Lib.hid hown'; clear hown' hbr H
        go_wp2
        go_roundw
        case rel => exact ⟨hb', .inr (.inr ⟨rfl, H'.out⟩)⟩
        case measure => simp [intOf]
    · obtain ⟨rfl, hown⟩ := hrel
      obtain ⟨A', c', rfl, f1, f2⟩ := hown.form
      have H := Lib.hid hown; clear hown
      go_wp2
      go_ret
      exact ⟨_, _, rfl, f1, f2, H.out, hbr⟩
theorem Put16_any (A : Option Addr) (n c : Nat) (l : List UInt8) (hn : n = l.length) (x : Int) (w : World) (hl : l.length ≤ 1000000) (h : Bytes w A l) (hx0 : -9223372036854775808 ≤ x) (hx1 : x ≤ 9223372036854775807) :
    Calls Tryd.prog 49 #[.slice A n c, .int .i64 x] w (RetBytes w (l ++ be16 x)) := by
  subst hn
  have h35 := Lib.hid (put_int A _ c l rfl x w hl h hx0 hx1)
  clear h hl
  go_enter Tryd.func49, Tryd.ntmps49
  go_wp2_with fail
  refine h35.out.mono ?_
  rintro e w1 ⟨A1, c1, rfl, hr⟩
  go_wp2_with fail
  go_ret
  exact ⟨_, _, by simp, hr⟩
end Go.Proofs.YtlgfollajodpaaaDoor

/-
  The document's bytes of numbers.
-/
import Derived.Test.YtpdnpphkkobhgaaPutA
import Derived.Test.YtpdnpphkkobhgaaPutB
namespace Go.Proofs.Ytpdnpphkkobhgaa
set_option linter.unusedVariables false
set_option linter.unusedSimpArgs false
open Go.RowKit

theorem be16_pos (x : Int) : [UInt8.ofNat (x % 65536 / 256).toNat, UInt8.ofNat (x % 256).toNat] = be16 x := by
  have h1 : x % 65536 / 256 = x / 256 % 256 := by omega
  rw [h1]; rfl
theorem be16_emod' (x : Int) : be16 (x % 65536) = be16 x := by
  have h1 : x % 65536 / 256 % 256 = x / 256 % 256 := by omega
  have h2 : x % 65536 % 256 = x % 256 := by omega
  unfold be16
  rw [h1, h2]
theorem tmod_neg {x : Int} (h : x < 0) : x.tmod 65536 = -((-x) % 65536) := by
  obtain ⟨y, rfl⟩ : ∃ y, x = -y := ⟨-x, by omega⟩
  rw [Int.neg_tmod, Int.neg_neg, Int.tmod_eq_emod_of_nonneg (by omega)]
theorem be16_neg {x : Int} (h : x < 0) (hm : x.tmod 65536 < 0) : [UInt8.ofNat ((x.tmod 65536 + 65536) / 256).toNat, UInt8.ofNat ((x.tmod 65536 + 65536) % 256).toNat] = be16 x := by
  have h1 := tmod_neg h
  have h2 : (x.tmod 65536 + 65536) / 256 = x / 256 % 256 := by omega
  have h3 : (x.tmod 65536 + 65536) % 256 = x % 256 := by omega
  rw [h2, h3]; rfl
theorem be16_zero {x : Int} (h : x < 0) (hm : x.tmod 65536 = 0) : ([0, 0] : List UInt8) = be16 x := by
  have h1 := tmod_neg h
  have h2 : x / 256 % 256 = 0 := by omega
  have h3 : x % 256 = 0 := by omega
  unfold be16
  rw [h2, h3]; rfl

set_option maxHeartbeats 800000 in
theorem refPut16_any (A : Option Addr) (n c : Nat) (l : List UInt8) (hn : n = l.length) (x : Int) (w : World) (hl : l.length ≤ 140737488355300) (h : Bytes w A l) (hx0 : -9223372036854775808 ≤ x) (hx1 : x ≤ 9223372036854775807) :
    Calls Try.prog 32 #[.slice A n c, .int .i64 x] w (RetBytes w (l ++ be16 x)) := by
  subst hn
  by_cases hx : 0 ≤ x
  · go_enter Try.func32, Try.ntmps32
    go_wp2_with (first
      | (at_builtin; refine wpList_append_bytes isBytes rfl (.tmp 13) (.tmp 14) rfl w (.slice none 0 0) [] rfl (Own.nil w _ _) A l l.length c rfl rfl h (by simp; omega) (Below.refl _ _) ?_; intro v1 w1 hown1 hg1 hb1; have H1 := Lib.hid hown1; clear hown1 hg1 h)
      | (at_builtin; refine wpList_append_byte isBytes rfl (.tmp 16) (.tmp 20) rfl w v1 l rfl w1 _ rfl H1.out rfl ?a0p ?a1p ?a2p hb1 ?_))
    case a0p => omega
    case a1p => omega
    case a2p => omega
    intro v2 w2 hown2 hg2 hb2
    have H2 := Lib.hid hown2; clear hown2 hg2 hb1 H1
    go_wp2_with (at_builtin; refine wpList_append_byte isBytes rfl (.tmp 22) (.tmp 26) rfl w v2 _ rfl w2 _ rfl H2.out rfl ?b0p ?b1p ?b2p hb2 ?_)
    case b0p => omega
    case b1p => omega
    case b2p => simp; omega
    intro v3 w3 hown3 hg3 hb3
    obtain ⟨A', c', rfl, f1, f2⟩ := hown3.form
    have H := Lib.hid hown3; clear hown3 hg3 hb2 H2
    go_wp2
    go_ret
    exact ret_own (by simp) f1 f2 H.out hb3 (by simpa using congrArg (l ++ ·) (be16_pos x))
  · have hx' : x < 0 := by omega
    clear hx
    have t1 := tmod_neg hx'
    have t2 : -65536 < x.tmod 65536 := by omega
    by_cases hm : x.tmod 65536 < 0
    · have e2 := Lib.hid (be16_neg hx' hm)
      clear t1
      go_enter Try.func32, Try.ntmps32
      go_wp2_with (first
        | (at_builtin; refine wpList_append_bytes isBytes rfl (.tmp 13) (.tmp 14) rfl w (.slice none 0 0) [] rfl (Own.nil w _ _) A l l.length c rfl rfl h (by simp; omega) (Below.refl _ _) ?_; intro v1 w1 hown1 hg1 hb1; have H1 := Lib.hid hown1; clear hown1 hg1 h)
        | (at_builtin; refine wpList_append_byte isBytes rfl (.tmp 16) (.tmp 20) rfl w v1 l rfl w1 _ rfl H1.out rfl ?a0n ?a1n ?a2n hb1 ?_))
      case a0n => omega
      case a1n => omega
      case a2n => omega
      intro v2 w2 hown2 hg2 hb2
      have H2 := Lib.hid hown2; clear hown2 hg2 hb1 H1
      go_wp2_with (at_builtin; refine wpList_append_byte isBytes rfl (.tmp 22) (.tmp 26) rfl w v2 _ rfl w2 _ rfl H2.out rfl ?b0n ?b1n ?b2n hb2 ?_)
      case b0n => omega
      case b1n => omega
      case b2n => simp; omega
      intro v3 w3 hown3 hg3 hb3
      obtain ⟨A', c', rfl, f1, f2⟩ := hown3.form
      have H := Lib.hid hown3; clear hown3 hg3 hb2 H2
      go_wp2
      go_ret
      exact ret_own (by simp) f1 f2 H.out hb3 (by simpa using congrArg (l ++ ·) e2.out)
    · have hm0 : x.tmod 65536 = 0 := by omega
      have e2 := Lib.hid (be16_zero hx' hm0)
      clear t1 t2 hm
      go_enter Try.func32, Try.ntmps32
      go_wp2_with (first
        | (at_builtin; refine wpList_append_bytes isBytes rfl (.tmp 13) (.tmp 14) rfl w (.slice none 0 0) [] rfl (Own.nil w _ _) A l l.length c rfl rfl h (by simp; omega) (Below.refl _ _) ?_; intro v1 w1 hown1 hg1 hb1; have H1 := Lib.hid hown1; clear hown1 hg1 h)
        | (at_builtin; refine wpList_append_byte isBytes rfl (.tmp 16) (.tmp 20) rfl w v1 l rfl w1 _ rfl H1.out rfl ?a0z ?a1z ?a2z hb1 ?_))
      case a0z => omega
      case a1z => omega
      case a2z => omega
      intro v2 w2 hown2 hg2 hb2
      have H2 := Lib.hid hown2; clear hown2 hg2 hb1 H1
      go_wp2_with (at_builtin; refine wpList_append_byte isBytes rfl (.tmp 22) (.tmp 26) rfl w v2 _ rfl w2 _ rfl H2.out rfl ?b0z ?b1z ?b2z hb2 ?_)
      case b0z => omega
      case b1z => omega
      case b2z => simp; omega
      intro v3 w3 hown3 hg3 hb3
      obtain ⟨A', c', rfl, f1, f2⟩ := hown3.form
      have H := Lib.hid hown3; clear hown3 hg3 hb2 H2
      go_wp2
      go_ret
      exact ret_own (by simp) f1 f2 H.out hb3 (by simpa using congrArg (l ++ ·) e2.out)

theorem be32_two {x : Int} (_h0 : 0 ≤ x) (_h1 : x < 4294967296) (l : List UInt8) : l ++ be16 (x / 65536) ++ be16 (x % 65536) = l ++ be32 x := by
  have h3 : x / 65536 / 256 % 256 = x / 16777216 % 256 := by omega
  rw [be16_emod', List.append_assoc]
  simp [be16, be32, h3]

set_option maxHeartbeats 400000 in
theorem refPut32_any (A : Option Addr) (n c : Nat) (l : List UInt8) (hn : n = l.length) (x : Int) (w : World) (hl : l.length ≤ 140737488355296) (h : Bytes w A l) (hx0 : 0 ≤ x) (hx1 : x < 4294967296) :
    Calls Try.prog 33 #[.slice A n c, .int .u32 x] w (RetBytes w (l ++ be32 x)) := by
  subst hn
  have e1 := Lib.hid (be32_two hx0 hx1 l)
  go_enter Try.func33, Try.ntmps33
  go_wp2_with fail
  refine (refPut16_any A _ c l rfl (x / 65536) w (by omega) h (by omega) (by omega)).mono ?_
  clear h
  rintro e w1 ⟨A1, c1, rfl, f1, f2, hown1, hb1⟩
  have H1 := Lib.hid hown1; clear hown1 f1 f2
  go_wp2_with fail
  refine (refPut16_any A1 _ c1 (l ++ be16 (x / 65536)) (by simp) (x % 65536) w1 (by simp [be16]; omega) H1.out.bytes (by omega) (by omega)).mono ?_
  rintro e w2 ⟨A2, c2, rfl, f1, f2, hown2, hb2⟩
  rw [e1.out] at hown2 f1
  have H2 := Lib.hid hown2; have F1 := Lib.hid f1; clear hown2 f1 H1
  go_wp2_with fail
  go_ret
  exact ret_own (by simp [be16, be32]) F1.out f2 (H2.out.lower hb1.size) (hb1.trans (hb2.mono hb1.size)) rfl
end Go.Proofs.Ytpdnpphkkobhgaa

/-
  The queue's New, Len, Room, Bytes, Clear, Take.
-/
import Derived.Test.YtgbialnnfadlgaaKeep22
namespace Go.Proofs.Ytgbialnnfadlgaa
set_option linter.unusedVariables false
set_option linter.unusedSimpArgs false
open Go.RowKit

theorem New22_any (m : Int) (w : World) :
    Calls Try.prog 9 #[.int .i64 m] w fun e w' => e = .returned (.pointer (some ⟨w.heap.size, 0, none⟩)) ∧ w' = w.alloc (.cells #[.int .i64 (mostN m), .slice none 0 0, .bool false] 48) := by
  unfold mostN
  rcases (show m < 0 ∨ ¬ m < 0 ∧ 65536 < m ∨ ¬ m < 0 ∧ ¬ 65536 < m by omega) with h1 | ⟨h1, h2⟩ | ⟨h1, h2⟩
  · rw [if_pos h1]
    go_enter Try.func9, Try.ntmps9
    go_wp2_with fail
    go_ret
    exact ⟨rfl, rfl⟩
  · rw [if_neg h1, if_pos h2]
    go_enter Try.func9, Try.ntmps9
    go_wp2_with fail
    go_ret
    exact ⟨rfl, rfl⟩
  · rw [if_neg h1, if_neg h2]
    go_enter Try.func9, Try.ntmps9
    go_wp2_with fail
    go_ret
    exact ⟨rfl, rfl⟩
theorem Que.new (m : Int) (w : World) : Que (w.alloc (.cells #[.int .i64 (mostN m), .slice none 0 0, .bool false] 48)) w.heap.size (mostN m) (.slice none 0 0) [] false :=
  ⟨Blk.new w 48 [.int .i64 (mostN m), .slice none 0 0, .bool false], Tl.nil _ _, by have := (mostN_ok m).1; simpa using this, (mostN_ok m).2⟩
theorem Len22_any (g : Nat) (M : Int) (v : Value) (R : List UInt8) (s : Bool) (w : World) (h : Que w g M v R s) :
    Calls Try.prog 21 #[.pointer (some ⟨g, 0, none⟩)] w fun e w' => e = .returned (.int .i64 (R.length : Int)) ∧ w = w' := by
  obtain ⟨A, c, rfl, _, _, _⟩ := h.2.1.form
  obtain ⟨c0, c1, c2⟩ := cells3 h.1
  clear h
  go_enter Try.func21, Try.ntmps21
  go_wp2_with fail
  go_ret
  exact ⟨rfl, rfl⟩
theorem Room22_any (g : Nat) (M : Int) (v : Value) (R : List UInt8) (s : Bool) (w : World) (h : Que w g M v R s) :
    Calls Try.prog 22 #[.pointer (some ⟨g, 0, none⟩)] w fun e w' => e = .returned (.int .i64 (M - (R.length : Int))) ∧ Below w.heap.size w w' := by
  obtain ⟨A, c, rfl, _, _, _⟩ := h.2.1.form
  obtain ⟨c0, c1, c2⟩ := cells3 h.1
  have hM := h.2.2
  have hw : wrap64 (M - (R.length : Int)) = M - (R.length : Int) := by unfold wrap64; omega
  clear h
  go_enter Try.func22, Try.ntmps22
  go_wp2_with fail
  go_region
  all_goals
    go_wp2_with fail
    go_ret
    exact ⟨rfl, (Below.refl _ _).drew⟩
theorem Copied22_any (A : Option Addr) (c : Nat) (R : List UInt8) (w : World) (h : Bytes w A R) (hl : R.length ≤ 1000000) :
    Calls Try.prog 25 #[.slice A R.length c] w (RetBytes w R) := by
  go_enter Try.func25, Try.ntmps25
  go_wp2_with (first
    | (at_make; refine wpList_make_bytes isBytes rfl _ _ rfl w (R.length : Nat) (R.length : Nat) R.length R.length rfl (by first | rfl | simp) rfl (by simp) (by omega) (by omega) (Below.refl _ _) ?_; intro w1 hown1 hg1 hb1; have H1 := Lib.hid hown1; clear hown1 hg1)
    | (with_reducible refine wpList_copy_bytes isBytes rfl (.tmp 7) (.tmp 8) rfl w _ R.length R.length (List.replicate R.length 0) rfl H1.out A R.length c R rfl rfl (by simp) (h.below hb1) hb1 ?_; intro w2 hown2 hg2 hb2; have H2 := Lib.hid hown2; clear hown2 hg2 hb1 H1))
  go_ret
  exact ⟨_, _, rfl, Nat.le_refl _, by unfold maxLen; omega, H2.out, hb2⟩
theorem Bytes22_any (g : Nat) (M : Int) (v : Value) (R : List UInt8) (s : Bool) (w : World) (h : Que w g M v R s) :
    Calls Try.prog 20 #[.pointer (some ⟨g, 0, none⟩)] w (RetBytes w R) := by
  have hs := h.small
  obtain ⟨A, c, rfl, _, _, hy⟩ := h.2.1.form
  have Q := Lib.hid (Copied22_any A c R w hy (by omega))
  obtain ⟨c0, c1, c2⟩ := cells3 h.1
  clear h hy
  go_enter Try.func20, Try.ntmps20
  go_wp2_with fail
  refine Q.out.mono ?_
  rintro e w1 ⟨A1, k1, rfl, f1, f2, ho, hb⟩
  have HO := Lib.hid ho; have F1 := Lib.hid f1; have F2 := Lib.hid f2
  clear ho f1 f2
  go_wp2_with fail
  go_ret
  exact ⟨_, _, rfl, F1.out, F2.out, HO.out, hb⟩
theorem Clear22_any (g : Nat) (M : Int) (v : Value) (R : List UInt8) (s : Bool) (w : World) (h : Que w g M v R s) :
    Calls Try.prog 18 #[.pointer (some ⟨g, 0, none⟩)] w fun e w' => e = .returned (.int .i64 (R.length : Int)) ∧ Que w' g M (.slice none 0 0) [] false ∧ Keep w w' g v (.slice none 0 0) := by
  obtain ⟨A, c, rfl, _, _, hy⟩ := h.2.1.form
  obtain ⟨c0, c1, c2⟩ := cells3 h.1
  obtain ⟨f0, f1, f2⟩ := free3 h.1
  have H := Lib.hid h
  clear h hy
  go_enter Try.func18, Try.ntmps18
  go_wp2_with fail
  go_ret
  exact ⟨rfl, ⟨(H.out.1.set 1 (.slice none 0 0)).set 2 (.bool false), Tl.nil _ _, by have := H.out.2.2; simp; omega, H.out.2.2.2⟩, ((Keep.refl w g (.slice A R.length c)).set 1 (.slice none 0 0) (.slice none 0 0) (.inr rfl)).set 2 (.bool false) (.slice none 0 0) (.inr rfl)⟩
end Go.Proofs.Ytgbialnnfadlgaa

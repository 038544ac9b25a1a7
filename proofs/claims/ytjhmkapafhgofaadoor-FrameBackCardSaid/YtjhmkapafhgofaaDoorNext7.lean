/-
  The first message of bytes, as the program tells it.
-/
import Derived.Test.YtjhmkapafhgofaaDoorHead7
import Derived.RegionTactic
import Derived.ChangeAlike
namespace Go.Proofs.YtjhmkapafhgofaaDoor
set_option linter.unusedVariables false
open Go.RowKit

/-- What Next tells: its bytes are the call's own. -/
def NextVal (w : World) (x : Nx) (e : Ending) (w' : World) : Prop :=
  Below w.heap.size w w' ∧ ∃ A c A2 c2, e = .returned (.tuple #[.int .i64 (x.kind : Int), .slice A x.body.length c, .int .i64 (x.size : Int), .agg #[.int .i64 (x.code : Int), .int .i64 (x.sub : Int), .slice A2 x.data.length c2]]) ∧
    (x.body.length ≤ c ∧ c ≤ maxLen ∧ Own w' w.heap.size 5 (.slice A x.body.length c) x.body) ∧ (x.data.length ≤ c2 ∧ c2 ≤ maxLen ∧ Own w' w.heap.size 5 (.slice A2 x.data.length c2) x.data)
theorem nextF_short {l : List UInt8} (h : l.length < 19) : nextF l = ⟨0, [], 0, 0, 0, []⟩ := by unfold nextF; rw [if_pos h]
theorem nextF_fault {l d : List UInt8} {s : Nat} (h : ¬ l.length < 19) (hf : faultF l = some (s, d)) : nextF l = ⟨0, [], 0, 1, s, d⟩ := by unfold nextF; rw [if_neg h, hf]
theorem nextF_wait {l : List UInt8} (h : ¬ l.length < 19) (hf : faultF l = none) (hs : l.length < sizeF l) : nextF l = ⟨0, [], 0, 0, 0, []⟩ := by
  unfold nextF; rw [if_neg h, hf]; show (if _ then _ else _) = _; rw [if_pos hs]
theorem nextF_ok {l : List UInt8} (h : ¬ l.length < 19) (hf : faultF l = none) (hs : ¬ l.length < sizeF l) : nextF l = ⟨kindF l, (l.take (sizeF l)).drop 19, sizeF l, 0, 0, []⟩ := by
  unfold nextF; rw [if_neg h, hf]; show (if _ then _ else _) = _; rw [if_neg hs]

theorem next_val0 {w w' : World} (hb : Below w.heap.size w w') {x : Nx} (hx : x = ⟨0, [], 0, 0, 0, []⟩) :
    NextVal w x (.returned (.tuple #[.int .i64 0, .slice none 0 0, .int .i64 0, .agg #[.int .i64 0, .int .i64 0, .slice none 0 0]])) w' := by
  subst hx
  exact ⟨hb, none, 0, none, 0, rfl, ⟨Nat.le_refl _, Nat.zero_le _, Own.nil _ _ _⟩, Nat.le_refl _, Nat.zero_le _, Own.nil _ _ _⟩

theorem next_val1 {w w' : World} {x : Nx} {s c : Nat} {d : List UInt8} {A : Option Addr} (hx : x = ⟨0, [], 0, 1, s, d⟩) (hb : Below w.heap.size w w') (h1 : d.length ≤ c) (h2 : c ≤ maxLen) (ho : Own w' w.heap.size 5 (.slice A d.length c) d) :
    NextVal w x (.returned (.tuple #[.int .i64 0, .slice none 0 0, .int .i64 0, .agg #[.int .i64 1, .int .i64 (s : Int), .slice A d.length c]])) w' := by
  subst hx
  exact ⟨hb, none, 0, A, c, rfl, ⟨Nat.le_refl _, Nat.zero_le _, Own.nil _ _ _⟩, h1, h2, ho⟩
theorem next_val2 {w w' : World} {x : Nx} {K S n c : Nat} {T : List UInt8} {A : Option Addr} (hx : x = ⟨K, T, S, 0, 0, []⟩) (hn : n = T.length) (hb : Below w.heap.size w w') (h1 : T.length ≤ c) (h2 : c ≤ maxLen) (ho : Own w' w.heap.size 5 (.slice A T.length c) T) :
    NextVal w x (.returned (.tuple #[.int .i64 (K : Int), .slice A n c, .int .i64 (S : Int), .agg #[.int .i64 0, .int .i64 0, .slice none 0 0]])) w' := by
  subst hx; subst hn
  exact ⟨hb, A, c, none, 0, rfl, ⟨h1, h2, ho⟩, Nat.le_refl _, Nat.zero_le _, Own.nil _ _ _⟩

theorem next_short (A : Option Addr) (c : Nat) (l : List UInt8) (w : World) (hl : l.length < 19) :
    Calls Tryd.prog 14 #[.slice A l.length c] w (NextVal w (nextF l)) := by
  have HX := Lib.hid (nextF_short hl)
  go_enter Tryd.func14, Tryd.ntmps14
  go_wp2_with fail
  exact bodyPost_ret (v := .tuple #[.int .i64 0, .slice none 0 0, .int .i64 0, .agg #[.int .i64 0, .int .i64 0, .slice none 0 0]]) (by simp [results, Tryd.results14, go_sem]) rfl (next_val0 ((Below.refl _ _).alloc (Nat.le_refl _) _) HX.out)

set_option maxHeartbeats 3200000 in
theorem next_fault (A : Option Addr) (c : Nat) (l d : List UInt8) (s : Nat) (w : World) (h : Bytes w A l) (h1 : l.length ≤ c) (h2 : c ≤ maxLen) (hl : ¬ l.length < 19) (hm : l.length ≤ 1000000) (hf : faultF l = some (s, d)) (ht : TabL w) :
    Calls Tryd.prog 14 #[.slice A l.length c] w (NextVal w (nextF l)) := by
  have HX := Lib.hid (nextF_fault hl hf)
  have hb0 := (Below.refl w.heap.size w).alloc (Nat.le_refl _) (.cells #[.int .i64 0, .int .i64 0, .slice none 0 0] 33)
  have q := head_any A c l (w.alloc (.cells #[.int .i64 0, .int .i64 0, .slice none 0 0] 33)) (h.alloc _) h1 h2 (by omega) hm (ht.below hb0 ht.lt)
  rw [hf] at q
  have Q := Lib.hid q
  have HUP := Lib.hid (fun (W : World) (hB : Below (w.alloc (.cells #[.int .i64 0, .int .i64 0, .slice none 0 0] 33)).heap.size (w.alloc (.cells #[.int .i64 0, .int .i64 0, .slice none 0 0] 33)) W) => hb0.trans (hB.mono hb0.size))
  clear q h ht hf hb0
  go_enter Tryd.func14, Tryd.ntmps14
  go_wp2_with fail
  refine Q.out.mono ?_
  rintro e w1 ⟨hb1, A1, c1, rfl, f1, g1, ho1⟩
  have HB1 := Lib.hid hb1; have HO1 := Lib.hid ho1; clear hb1 ho1 Q
  have k7 := (show Blk (w.alloc (.cells #[.int .i64 0, .int .i64 0, .slice none 0 0] 33)) w.heap.size 33 [.int .i64 0, .int .i64 0, .slice none 0 0] from Blk.new w _ _).below (HB1.out.alloc HB1.out.size (.cells #[.int .i64 1, .int .i64 (s : Int), .slice A1 d.length c1] 33)) (by simp)
  have c7 := cells3 k7
  have f7 := free3 k7
  have HK7 := Lib.hid k7
  clear k7
  go_wp2_with fail
  go_region
  all_goals (go_wp2_with fail)
  have r7 := res3 (.int .i64 1) (.int .i64 (s : Int)) (.slice A1 d.length c1) HK7.out
  exact bodyPost_ret (v := .tuple #[.int .i64 0, .slice none 0 0, .int .i64 0, .agg #[.int .i64 1, .int .i64 (s : Int), .slice A1 d.length c1]]) (by simp [results, Tryd.results14, go_sem, r7.1, r7.2.1, r7.2.2]) rfl
    (next_val1 HX.out (below_set3' (HUP.out _ (HB1.out.alloc HB1.out.size _)) (Nat.le_refl _)).drew f1 g1 (((HO1.out.alloc _).beside (grown_set3 _ _ _ _ _) (by simp)).lower (by simp)))

set_option maxHeartbeats 3200000 in
theorem next_none (A : Option Addr) (c : Nat) (l : List UInt8) (w : World) (h : Bytes w A l) (h1 : l.length ≤ c) (h2 : c ≤ maxLen) (hl : ¬ l.length < 19) (hm : l.length ≤ 1000000) (hf : faultF l = none) (ht : TabL w) :
    Calls Tryd.prog 14 #[.slice A l.length c] w (NextVal w (nextF l)) := by
  have hN := faultF_none hf
  have hb0 := (Below.refl w.heap.size w).alloc (Nat.le_refl _) (.cells #[.int .i64 0, .int .i64 0, .slice none 0 0] 33)
  have HUP := Lib.hid (fun (W : World) (hB : Below (w.alloc (.cells #[.int .i64 0, .int .i64 0, .slice none 0 0] 33)).heap.size (w.alloc (.cells #[.int .i64 0, .int .i64 0, .slice none 0 0] 33)) W) => hb0.trans (hB.mono hb0.size))
  have q := head_any A c l (w.alloc (.cells #[.int .i64 0, .int .i64 0, .slice none 0 0] 33)) (h.alloc _) h1 h2 (by omega) hm (ht.below hb0 ht.lt)
  rw [hf] at q
  have hs1 := hN.2.1; have hs2 := hN.2.2.1
  have HX1 := Lib.hid (fun hs => nextF_wait hl hf hs)
  have HX2 := Lib.hid (fun hs => nextF_ok hl hf hs)
  have hmm : c ≤ 9223372036854775807 := by unfold maxLen at h2; omega
  obtain ⟨S, hS⟩ : ∃ S, S = sizeF l := ⟨_, rfl⟩
  obtain ⟨K, hK⟩ : ∃ K, K = kindF l := ⟨_, rfl⟩
  rw [← hS] at q hs1 hs2 HX1 HX2
  rw [← hK] at q HX2
  have Q := Lib.hid q
  have HBY := Lib.hid (fun (W : World) (hB : Below w.heap.size w W) => h.below hB)
  clear q h ht hf hN hS hK hb0
  by_cases hsl : l.length < S
  · have HX := Lib.hid (HX1.out hsl); clear HX1 HX2
    go_enter Tryd.func14, Tryd.ntmps14
    go_wp2_with fail
    refine Q.out.mono ?_
    rintro e w1 ⟨hb1, rfl⟩
    have HB1 := Lib.hid hb1; clear hb1 Q
    have k7 := (show Blk (w.alloc (.cells #[.int .i64 0, .int .i64 0, .slice none 0 0] 33)) w.heap.size 33 [.int .i64 0, .int .i64 0, .slice none 0 0] from Blk.new w _ _).below (HB1.out.alloc HB1.out.size (.cells #[.int .i64 0, .int .i64 0, .slice none 0 0] 33)) (by simp)
    have c7 := cells3 k7
    have f7 := free3 k7
    have HK7 := Lib.hid k7
    clear k7
    go_wp2_with fail
    go_region
    all_goals (go_wp2_with fail)
    have r7 := res3 (.int .i64 0) (.int .i64 0) (.slice none 0 0) HK7.out
    exact bodyPost_ret (v := .tuple #[.int .i64 0, .slice none 0 0, .int .i64 0, .agg #[.int .i64 0, .int .i64 0, .slice none 0 0]]) (by simp [results, Tryd.results14, go_sem, r7.1, r7.2.1, r7.2.2]) rfl
      (next_val0 (below_set3' (HUP.out _ (HB1.out.alloc HB1.out.size _)) (Nat.le_refl _)).drew HX.out)
  · have HX := Lib.hid (HX2.out hsl); clear HX1 HX2
    have hbl : ((l.take S).drop 19).length = S - 19 := by simp; omega
    have HDR := Lib.hid (fun (W : World) (hB : Below w.heap.size w W) => ((HBY.out _ hB).take S).drop (k := 19) (c := c) (by simp; omega))
    obtain ⟨T, hT⟩ : ∃ T, T = (l.take S).drop 19 := ⟨_, rfl⟩
    rw [← hT] at hbl HDR HX
    clear hT
    have HBL := Lib.hid hbl; clear hbl
    have hS1 : (19 : Int) ≤ (S : Int) := by omega
    have hS2 : (S : Int) ≤ (c : Int) := by omega
    by_cases hc : c = 19
    · subst hc
      obtain rfl : S = 19 := by omega
      go_enter Tryd.func14, Tryd.ntmps14
      go_wp2_with fail
      refine Q.out.mono ?_
      rintro e w1 ⟨hb1, rfl⟩
      have HB1 := Lib.hid hb1; clear hb1 Q
      have k7 := (show Blk (w.alloc (.cells #[.int .i64 0, .int .i64 0, .slice none 0 0] 33)) w.heap.size 33 [.int .i64 0, .int .i64 0, .slice none 0 0] from Blk.new w _ _).below (HB1.out.alloc HB1.out.size (.cells #[.int .i64 0, .int .i64 0, .slice none 0 0] 33)) (by simp)
      have c7 := cells3 k7
      have f7 := free3 k7
      have HK7 := Lib.hid k7
      clear k7
      go_wp2_with fail
      have hy := HDR.out _ (HUP.out _ (HB1.out.alloc HB1.out.size (.cells #[.int .i64 0, .int .i64 0, .slice none 0 0] 33)))
      first | rw [if_pos trivial] at hy | rw [if_pos rfl] at hy
      have HY := Lib.hid hy; clear hy
      refine (Clone_any _ _ _ T (by have := HBL.out; omega) _ HY.out (by have := HBL.out; omega)).mono ?_
      rintro e w2 ⟨A2, c2, rfl, f2, g2, ho2, hb2⟩
      have k8 := HK7.out.below hb2 (by simp; have := HB1.out.size; simp at this; omega)
      have c8 := cells3 k8
      have f8 := free3 k8
      have HB8 := Lib.hid (HUP.out _ ((HB1.out.alloc HB1.out.size _).trans (hb2.mono (by simp; have := HB1.out.size; simp at this; omega))))
      have HO8 := Lib.hid (ho2.lower (B' := w.heap.size + 1) (by simp; have := HB1.out.size; simp at this; omega))
      have r8 := res3 (.int .i64 0) (.int .i64 0) (.slice none 0 0) k8
      clear k8 hb2 ho2 c7 f7
      go_wp2_with fail
      exact bodyPost_ret (v := .tuple #[.int .i64 (K : Int), .slice A2 T.length c2, .int .i64 (19 : Int), .agg #[.int .i64 0, .int .i64 0, .slice none 0 0]]) (by simp [results, Tryd.results14, go_sem, r8.1, r8.2.1, r8.2.2]) rfl
        (next_val2 (S := 19) HX.out rfl (below_set3' HB8.out (Nat.le_refl _)) f2 g2 ((HO8.out.beside (grown_set3 _ _ _ _ _) (Nat.lt_succ_self _)).lower (Nat.le_succ _)))
    · go_enter Tryd.func14, Tryd.ntmps14
      go_wp2_with fail
      refine Q.out.mono ?_
      rintro e w1 ⟨hb1, rfl⟩
      have HB1 := Lib.hid hb1; clear hb1 Q
      have k7 := (show Blk (w.alloc (.cells #[.int .i64 0, .int .i64 0, .slice none 0 0] 33)) w.heap.size 33 [.int .i64 0, .int .i64 0, .slice none 0 0] from Blk.new w _ _).below (HB1.out.alloc HB1.out.size (.cells #[.int .i64 0, .int .i64 0, .slice none 0 0] 33)) (by simp)
      have c7 := cells3 k7
      have f7 := free3 k7
      have HK7 := Lib.hid k7
      clear k7
      go_wp2_with fail
      have hy := HDR.out _ (HUP.out _ (HB1.out.alloc HB1.out.size (.cells #[.int .i64 0, .int .i64 0, .slice none 0 0] 33)))
      rw [if_neg hc] at hy
      have HY := Lib.hid hy; clear hy
      refine (Clone_any _ _ _ T (by have := HBL.out; omega) _ HY.out (by have := HBL.out; omega)).mono ?_
      rintro e w2 ⟨A2, c2, rfl, f2, g2, ho2, hb2⟩
      have k8 := HK7.out.below hb2 (by simp; have := HB1.out.size; simp at this; omega)
      have c8 := cells3 k8
      have f8 := free3 k8
      have HB8 := Lib.hid (HUP.out _ ((HB1.out.alloc HB1.out.size _).trans (hb2.mono (by simp; have := HB1.out.size; simp at this; omega))))
      have HO8 := Lib.hid (ho2.lower (B' := w.heap.size + 1) (by simp; have := HB1.out.size; simp at this; omega))
      have r8 := res3 (.int .i64 0) (.int .i64 0) (.slice none 0 0) k8
      clear k8 hb2 ho2 c7 f7
      go_wp2_with fail
      exact bodyPost_ret (v := .tuple #[.int .i64 (K : Int), .slice A2 T.length c2, .int .i64 (S : Int), .agg #[.int .i64 0, .int .i64 0, .slice none 0 0]]) (by simp [results, Tryd.results14, go_sem, r8.1, r8.2.1, r8.2.2]) rfl
        (next_val2 (S := S) HX.out rfl (below_set3' HB8.out (Nat.le_refl _)) f2 g2 ((HO8.out.beside (grown_set3 _ _ _ _ _) (Nat.lt_succ_self _)).lower (Nat.le_succ _)))
theorem Next_any (A : Option Addr) (c : Nat) (l : List UInt8) (w : World) (h : Bytes w A l) (h1 : l.length ≤ c) (h2 : c ≤ maxLen) (hm : l.length ≤ 1000000) (ht : TabL w) :
    Calls Tryd.prog 14 #[.slice A l.length c] w (NextVal w (nextF l)) := by
  by_cases hl : l.length < 19
  · exact next_short A c l w hl
  · cases hf : faultF l with
    | none => exact next_none A c l w h h1 h2 hl hm hf ht
    | some p => exact next_fault A c l p.2 p.1 w h h1 h2 hl hm hf ht
end Go.Proofs.YtjhmkapafhgofaaDoor

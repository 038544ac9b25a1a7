/-
  Whether a number is in a path.
-/
import Derived.Test.YtlgfollajodpaaaDoorCnt
import Derived.Test.YtlgfollajodpaaaDoorOwnSeg
namespace Go.Proofs.YtlgfollajodpaaaDoor
set_option linter.unusedVariables false
set_option linter.unusedSimpArgs false
open Go.RowKit

/-- Is a number in a list? -/
def inB (z : List Nat) (v : Nat) : Bool := z.any fun x => x == v
theorem has_step {z : List Nat} {v j : Nat} (hj : j < z.length) (h : inB (z.take j) v = false) (hv : v ≠ z.getD j 0) : inB (z.take (j + 1)) v = false := by
  have e : z.getD j 0 = z[j] := by simp [List.getD, hj]
  rw [e] at hv
  unfold inB at h ⊢
  rw [List.take_succ_eq_append_getElem hj, List.any_append, h]
  simpa using fun e => hv e.symm
theorem has_now {z : List Nat} {v j : Nat} (hj : j < z.length) (hv : v = z.getD j 0) : inB z v = true := by
  have e : z.getD j 0 = z[j] := by simp [List.getD, hj]
  rw [e] at hv
  unfold inB
  rw [List.any_eq_true]
  exact ⟨z[j], List.getElem_mem hj, by simp [hv]⟩
/-- What a search leaves: the place where it found, or one below all. -/
def Found (b : Bool) (w : World) (e : Ending) (w' : World) : Prop := ∃ k : Int, e = .returned (.int .i64 k) ∧ -1 ≤ k ∧ k ≤ 1152921504606846976 ∧ decide (0 ≤ k) = b

set_option maxHeartbeats 1600000 in
theorem Index32_any (A : Option Addr) (c : Nat) (z : List Nat) (v : Nat) (w : World) (h : At32 w w.heap.size A z) (hl : z.length ≤ 1152921504606846976) :
    Calls Tryd.prog 47 #[.slice A z.length c, .int .u32 (v : Int)] w fun e w' => Found (inB z v) w e w' ∧ w = w' := by
  have HS := Lib.hid h; clear h
  go_enter Tryd.func47, Tryd.ntmps47
  go_wp2_with fail
  go_loop [8] (fun i => ∃ j : Nat, j ≤ z.length ∧ i = .int .i64 (j : Int) ∧ Hid (inB (z.take j) v = false)) (fun i => z.length - (intOf i).toNat)
  case atStart => exact ⟨0, Nat.zero_le _, rfl, Lib.hid (by simp [inB])⟩
  case round =>
    obtain ⟨j, hj, rfl, hno⟩ := hrel
    by_cases hlt : j < z.length
    · obtain ⟨b, off, rfl, hb, k1⟩ := HS.out.cell hlt
      by_cases he : v = z.getD j 0
      · have HN := Lib.hid (has_now hlt he)
        obtain ⟨x, hx⟩ : ∃ x, x = z.getD j 0 := ⟨_, rfl⟩
        rw [← hx] at k1 he
        subst he
        clear hx
        go_wp2_with fail
        go_ret
        exact ⟨⟨_, rfl, by omega, by omega, by rw [HN.out]; simp⟩, rfl⟩
      · have HN := Lib.hid (has_step hlt hno.out he)
        obtain ⟨x, hx⟩ : ∃ x, x = z.getD j 0 := ⟨_, rfl⟩
        rw [← hx] at k1 he
        have hk1 : ((v : Int) == (x : Int)) = false := by simp; omega
        clear hx he
        go_wp2_with fail
        go_round
        case rel => exact ⟨j + 1, by omega, by go_num, HN⟩
        case measure => simp [intOf]; omega
    · obtain rfl : j = z.length := by omega
      go_wp2_with fail
      go_ret
      exact ⟨⟨_, rfl, by omega, by omega, by have := hno.out; rw [List.take_length] at this; rw [this]; rfl⟩, rfl⟩

theorem Contains32_any (A : Option Addr) (c : Nat) (z : List Nat) (v : Nat) (w : World) (h : At32 w w.heap.size A z) (hl : z.length ≤ 1152921504606846976) :
    Calls Tryd.prog 32 #[.slice A z.length c, .int .u32 (v : Int)] w fun e w' => e = .returned (.bool (inB z v)) ∧ w = w' := by
  have Q := Lib.hid (Index32_any A c z v w h hl); clear h
  go_enter Tryd.func32, Tryd.ntmps32
  go_wp2_with fail
  refine Q.out.mono ?_
  rintro e w1 ⟨⟨k, rfl, f1, f2, hk⟩, rfl⟩
  have HK := Lib.hid hk; clear hk
  go_wp2_with fail
  go_ret
  exact ⟨by rw [← HK.out]; rfl, rfl⟩

theorem Has1_any (s : Sg) (g v : Nat) (w : World) (h : Sg.Ok w w.heap.size s) (hl : s.nums.length ≤ 1152921504606846976) (hg : w.cell? ⟨g, 0, none⟩ = some (.int .u32 (v : Int))) (hgl : g < w.heap.size) :
    Calls Tryd.prog 31 #[.agg #[.int .i64 s.kind, .slice s.adr s.nums.length s.cap], .pointer (some ⟨g, 0, none⟩)] w fun e w' => e = .returned (.bool (inB s.nums v)) ∧ Below w.heap.size w w' := by
  have hb := (Below.refl w.heap.size w).alloc (Nat.le_refl _) (.cells #[.int .i64 s.kind, .slice s.adr s.nums.length s.cap] 39)
  have Q := Lib.hid (Contains32_any s.adr s.cap s.nums v (w.alloc (.cells #[.int .i64 s.kind, .slice s.adr s.nums.length s.cap] 39)) ((h.2.2.1.below hb (Nat.le_refl _)).lift hb.size) hl)
  have c7 := (cells2 (Blk.new w 39 [.int .i64 s.kind, .slice s.adr s.nums.length s.cap])).2
  have g1 := (hb.cell (p := ⟨g, 0, none⟩) hgl).trans hg
  have HB := Lib.hid hb; clear h hg hb
  go_enter Tryd.func31, Tryd.ntmps31
  go_wp2_with fail
  refine Q.out.mono ?_
  rintro e w1 ⟨rfl, rfl⟩
  go_wp2_with fail
  go_ret
  exact ⟨rfl, HB.out⟩

/-- Is a number in a path? -/
def hasB (L : List Sg) (v : Nat) : Bool := L.any fun s => inB s.nums v
theorem hasB_step {L : List Sg} {v j : Nat} {s : Sg} (hs : L[j]? = some s) (h : hasB (L.take j) v = false) (hn : inB s.nums v = false) : hasB (L.take (j + 1)) v = false := by
  have hj := (List.getElem?_eq_some_iff.1 hs).1
  have e : L[j] = s := (List.getElem?_eq_some_iff.1 hs).2
  rw [List.take_succ_eq_append_getElem hj, e]
  unfold hasB at h ⊢
  rw [List.any_append, h]
  simpa using hn
theorem hasB_now {L : List Sg} {v j : Nat} {s : Sg} (hs : L[j]? = some s) (hn : inB s.nums v = true) : hasB L v = true := by
  unfold hasB
  rw [List.any_eq_true]
  exact ⟨s, List.mem_of_getElem? hs, hn⟩

set_option maxHeartbeats 1600000 in
theorem IndexFunc_any (A : Option Addr) (c : Nat) (L : List Sg) (g v : Nat) (w : World) (h : Segs w w.heap.size A L) (hl : L.length ≤ 1152921504606846976) (ht : totN L ≤ 1152921504606846976) (hg : w.cell? ⟨g, 0, none⟩ = some (.int .u32 (v : Int))) (hgl : g < w.heap.size) :
    Calls Tryd.prog 46 #[.slice A L.length c, .func (.func 31) #[] #[.pointer (some ⟨g, 0, none⟩)]] w fun e w' => Found (hasB L v) w e w' ∧ Below w.heap.size w w' := by
  have HS := Lib.hid h; clear h
  have HG := Lib.hid (And.intro hg hgl); clear hg
  go_enter Tryd.func46, Tryd.ntmps46
  go_wp2_with fail
  go_loopw [8] (fun i wr => Below w.heap.size w wr ∧ ∃ j : Nat, j ≤ L.length ∧ i = .int .i64 (j : Int) ∧ Hid (hasB (L.take j) v = false)) (fun i _ => L.length - (intOf i).toNat)
  case atStart => exact ⟨Below.refl _ _, 0, Nat.zero_le _, rfl, Lib.hid (by simp [hasB])⟩
  case round =>
    obtain ⟨hbr, j, hj, rfl, hno⟩ := hrel
    by_cases hlt : j < L.length
    · obtain ⟨s, hs⟩ : ∃ s, L[j]? = some s := ⟨_, List.getElem?_eq_getElem hlt⟩
      obtain ⟨b, off, rfl, hb, k1, k2, hok⟩ := (HS.out.below hbr (Nat.le_refl _)).at hs
      have Q := Lib.hid (Has1_any s g v wr (hok.lift hbr.size) (Nat.le_trans (nums_le hs) ht) ((hbr.cell (p := ⟨g, 0, none⟩) hgl).trans HG.out.1) (Nat.lt_of_lt_of_le hgl hbr.size))
      have HBR := Lib.hid hbr
      clear hok
      cases hn : inB s.nums v with
      | true =>
        rw [hn] at Q
        have HN := Lib.hid (hasB_now hs hn)
        clear hn hs
        go_wp2_with (go_at_call 31; refine Q.out.mono ?_; rintro e w2 ⟨rfl, hb2⟩)
        go_ret
        exact ⟨⟨_, rfl, by omega, by omega, by rw [HN.out]; simp⟩, HBR.out.trans (hb2.mono HBR.out.size)⟩
      | false =>
        rw [hn] at Q
        have HN := Lib.hid (hasB_step hs hno.out hn)
        clear hn hs
        go_wp2_with (go_at_call 31; refine Q.out.mono ?_; rintro e w2 ⟨rfl, hb2⟩)
        go_roundw
        case rel => exact ⟨HBR.out.trans (hb2.mono HBR.out.size), j + 1, by omega, by go_num, HN⟩
        case measure => simp [intOf]; omega
    · obtain rfl : j = L.length := by omega
      go_wp2_with fail
      go_ret
      exact ⟨⟨_, rfl, by omega, by omega, by have := hno.out; rw [List.take_length] at this; rw [this]; rfl⟩, hbr⟩

theorem ContainsFunc_any (A : Option Addr) (c : Nat) (L : List Sg) (g v : Nat) (w : World) (h : Segs w w.heap.size A L) (hl : L.length ≤ 1152921504606846976) (ht : totN L ≤ 1152921504606846976) (hg : w.cell? ⟨g, 0, none⟩ = some (.int .u32 (v : Int))) (hgl : g < w.heap.size) :
    Calls Tryd.prog 30 #[.slice A L.length c, .func (.func 31) #[] #[.pointer (some ⟨g, 0, none⟩)]] w fun e w' => e = .returned (.bool (hasB L v)) ∧ Below w.heap.size w w' := by
  have Q := Lib.hid (IndexFunc_any A c L g v w h hl ht hg hgl); clear h hg
  go_enter Tryd.func30, Tryd.ntmps30
  go_wp2_with fail
  refine Q.out.mono ?_
  rintro e w1 ⟨⟨k, rfl, f1, f2, hk⟩, hb1⟩
  have HK := Lib.hid hk; clear hk
  go_wp2_with fail
  go_ret
  exact ⟨by rw [← HK.out]; rfl, hb1⟩

theorem Has_any (A : Option Addr) (c : Nat) (L : List Sg) (v : Nat) (w : World) (h : Segs w w.heap.size A L) (hl : L.length ≤ 1152921504606846976) (ht : totN L ≤ 1152921504606846976) :
    Calls Tryd.prog 16 #[.slice A L.length c, .int .u32 (v : Int)] w fun e w' => e = .returned (.bool (hasB L v)) ∧ Below w.heap.size w w' := by
  have hb := (Below.refl w.heap.size w).alloc (Nat.le_refl _) (.cells #[.int .u32 (v : Int)] 23)
  have Q := Lib.hid (ContainsFunc_any A c L w.heap.size v (w.alloc (.cells #[.int .u32 (v : Int)] 23)) ((h.below hb (Nat.le_refl _)).lift hb.size) hl ht ((Blk.new w 23 [.int .u32 (v : Int)]).cell 0) (by simp))
  have HB := Lib.hid hb; clear h hb
  go_enter Tryd.func16, Tryd.ntmps16
  go_wp2_with fail
  refine Q.out.mono ?_
  rintro e w1 ⟨rfl, hb1⟩
  go_wp2_with fail
  go_ret
  exact ⟨rfl, HB.out.trans (hb1.mono HB.out.size)⟩
end Go.Proofs.YtlgfollajodpaaaDoor

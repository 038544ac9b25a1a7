/-
  The document's queue: drop, pass, Take, Clear, New.
-/
import Derived.Test.YtgbialnnfadlgaaLinesF22
namespace Go.Proofs.Ytgbialnnfadlgaa
set_option linter.unusedVariables false
set_option linter.unusedSimpArgs false
open Go.RowKit

/-- Block h holds the document's queue for M bytes, with R in it, in the slice v; s: what comes goes. -/
def RQ (w : World) (h : Nat) (M : Int) (v : Value) (R : List UInt8) (s : Bool) : Prop := Blk w h 40 [v, .int .i64 M, .bool s] ∧ Tl w (h + 1) v R ∧ (R.length : Int) ≤ M ∧ M ≤ 65536
theorem RQ.lt {w : World} {h : Nat} {M : Int} {v : Value} {R : List UInt8} {s : Bool} (q : RQ w h M v R s) : h < w.heap.size := q.1.lt
theorem RQ.below {w w' : World} {h : Nat} {M : Int} {v : Value} {R : List UInt8} {s : Bool} (q : RQ w h M v R s) (hb : Below w.heap.size w w') : RQ w' h M v R s := ⟨q.1.below hb q.1.lt, q.2.1.below hb, q.2.2⟩
theorem RQ.small {w : World} {h : Nat} {M : Int} {v : Value} {R : List UInt8} {s : Bool} (q : RQ w h M v R s) : R.length ≤ 65536 := by have := q.2.2; omega
theorem byN22_lt (l : List UInt8) (j : Nat) : byN22 l j < 256 := UInt8.toNat_lt _
theorem byN22_val (l : List UInt8) (j : Nat) : UInt8.ofNat (byN22 l j) = l.getD j 0 := by
  unfold byN22
  simp
theorem RQ.cell {w : World} {h : Nat} {M : Int} {A : Option Addr} {n c : Nat} {R : List UInt8} {s : Bool} (q : RQ w h M (.slice A n c) R s) {i : Nat} (hi : i < R.length) :
    n = R.length ∧ R.length ≤ c ∧ ∃ b off, A = some ⟨b, off, none⟩ ∧ b < w.heap.size ∧ w.cell? ⟨b, off + i, none⟩ = some (.int .u8 (byN22 R i : Int)) := by
  obtain ⟨A', c', e, f1, _, hy⟩ := q.2.1.form
  injection e with e1 e2 e3
  subst e1; subst e2; subst e3
  obtain ⟨b, off, rfl, hlt, hc⟩ := hy (fun e => by subst e; simp at hi)
  exact ⟨rfl, f1, b, off, rfl, hlt, hc i hi⟩
theorem RQ.put {w w' : World} {h : Nat} {M : Int} {v : Value} {R : List UInt8} {s : Bool} (q : RQ w h M v R s) (hb : Below w.heap.size w w') {v' : Value} {R' : List UInt8} (ho : Own w' w.heap.size 5 v' R') (hl : R'.length ≤ M.toNat) :
    RQ (w'.setCell ⟨h, 0, none⟩ v') h M v' R' s ∧ Keep w (w'.setCell ⟨h, 0, none⟩ v') h v v' := by
  have hM := q.2.2
  refine ⟨⟨((q.1.below hb q.1.lt).set 0 v'), (((Own.tail ho).lower q.lt).beside (grown_setCell (grown_refl _ _) _ _) (Nat.lt_succ_self _)), by omega, hM.2⟩, ?_⟩
  refine ⟨hb.os, hb.tape, hb.output, by simpa [World.setCell] using hb.size, fun k hk hg _ => ?_, .inr fun k hk => ho.blk hk⟩
  exact (Below.heap_setCell w' ⟨h, 0, none⟩ v' k (fun e => hg (by simp [e]))).trans (hb.block k hk)
theorem drop_take_snoc (R : List UInt8) (n i : Nat) (hn : n ≤ i) (hi : i < R.length) : (R.take (i + 1)).drop n = (R.take i).drop n ++ [R.getD i 0] := by
  rw [take_snoc22 R i hi 0, List.drop_append_of_le_length (by rw [List.length_take]; omega)]
set_option maxHeartbeats 1600000 in
theorem RefDrop22 (h : Nat) (M : Int) (v : Value) (R : List UInt8) (s : Bool) (n : Nat) (w : World) (q : RQ w h M v R s) (hn : n ≤ 100000) :
    Calls Try.prog 26 #[.pointer (some ⟨h, 0, none⟩), .int .i64 (n : Int)] w fun e w' => e = .returned (.tuple #[]) ∧ ∃ v', RQ w' h M v' (R.drop n) s ∧ Keep w w' h v v' := by
  have hsm := q.small
  obtain ⟨Av, cv, rfl, fv, gv, _⟩ := q.2.1.form
  have HQ := Lib.hid q; have HF := Lib.hid fv
  clear q fv gv
  go_enter Try.func26, Try.ntmps26
  go_wp2_with fail
  go_loopw [4, 5] (fun vo vi wr => ∃ i : Nat, n ≤ i ∧ (i ≤ R.length ∨ i = n) ∧ vi = .int .i64 (i : Int) ∧ Own wr w.heap.size 5 vo ((R.take i).drop n) ∧ Below w.heap.size w wr) (fun _ i _ => R.length - (intOf i).toNat)
  case atStart =>
    refine ⟨n, Nat.le_refl _, .inr rfl, rfl, ?_, Below.refl _ _⟩
    rw [List.drop_eq_nil_of_le (by rw [List.length_take]; omega)]
    exact Own.nil _ _ _
  case round =>
    obtain ⟨i, hni, hir, rfl, ho, hb⟩ := hrel
    have HB := Lib.hid hb
    obtain ⟨c0, c1, c2⟩ := cells3 (HQ.out.below hb).1
    by_cases hlt : i < R.length
    · have hi1 : (i : Int) < (R.length : Int) := by omega
      obtain ⟨_, _, b, off, rfl, hbl, hcell⟩ := HQ.out.cell hlt
      have hcell' := (hb.cell (p := ⟨b, off + i, none⟩) hbl).trans hcell
      have hby := byN22_lt R i
      have hval := byN22_val R i
      obtain ⟨N, hN⟩ : ∃ N, N = byN22 R i := ⟨_, rfl⟩
      rw [← hN] at hcell' hby hval
      have hlo : ((R.take i).drop n).length ≤ 65536 := by rw [List.length_drop, List.length_take]; omega
      have HO := Lib.hid ho; have HV := Lib.hid hval; have HBY := Lib.hid hby; have HLO := Lib.hid hlo
      clear ho hb hval hbl hcell hlo hby hN
      go_wp2_with (at_builtin; refine wpList_append_byte isBytes rfl (.tmp 16) (.tmp 24) rfl w _ _ rfl wr _ rfl HO.out rfl (by omega) (by have := HBY.out; omega) (by have := HLO.out; omega) HB.out ?_)
      · intro v' w' ho' _ hb'
        rw [HV.out, ← drop_take_snoc R n i hni hlt] at ho'
        have HO' := Lib.hid ho'; have HB' := Lib.hid hb'
        clear ho' hb' c0 c1 c2 hcell'
        go_wp2_with fail
        go_roundw
        case rel => exact ⟨i + 1, by omega, .inl hlt, by simp, HO'.out, HB'.out⟩
        case measure => simp only [intOf]; omega
    · have hi1 : ¬ (i : Int) < (R.length : Int) := by omega
      rw [List.take_of_length_le (by omega)] at ho
      obtain ⟨f0, f1, f2⟩ := free3 (HQ.out.below hb).1
      obtain ⟨AO, cO, rfl, _, _⟩ := ho.form
      rw [List.length_drop] at ho
      have hp := HQ.out.put hb ho (by have := HQ.out.2.2; rw [List.length_drop]; omega)
      have HP := Lib.hid hp
      clear hp ho hb
      go_wp2_with fail
      go_end0
      exact ⟨rfl, _, HP.out.1, HP.out.2⟩
theorem Own.keep' {w w' : World} {B g : Nat} {x v v' : Value} {l : List UInt8} (h : Own w B 5 x l) (k : Keep w w' g v v') (hg : g < B) (hv : ∀ i, v.ownBlock = some i → x.ownBlock ≠ some i) : Own w' B 5 x l := by
  obtain ⟨hl, h2⟩ := h
  refine ⟨hl, ?_⟩
  rcases h2 with h2 | ⟨i, cap, cur, e1, hbg, hi, r⟩
  · exact .inl h2
  · have hlt := (Array.getElem?_eq_some_iff.1 hi).1
    exact .inr ⟨i, cap, cur, e1, hbg, (k.block i hlt (by omega) (fun e => hv i e (by rw [e1]; rfl))).trans hi, r⟩
set_option maxHeartbeats 1600000 in
theorem RefTake22 (h : Nat) (M : Int) (v : Value) (R : List UInt8) (s : Bool) (n : Int) (w : World) (q : RQ w h M v R s) :
    Calls Try.prog 15 #[.pointer (some ⟨h, 0, none⟩), .int .i64 n] w fun e w' => ∃ A1 c1 v', e = .returned (.slice A1 (R.take (takeN n R)).length c1) ∧ (R.take (takeN n R)).length ≤ c1 ∧ c1 ≤ maxLen ∧ Own w' w.heap.size 5 (.slice A1 (R.take (takeN n R)).length c1) (R.take (takeN n R)) ∧ RQ w' h M v' (R.drop (takeN n R)) s ∧ Keep w w' h v v' ∧ ∀ i, v'.ownBlock = some i → (Value.slice A1 (R.take (takeN n R)).length c1).ownBlock ≠ some i := by
  have hsm := q.small
  have HV := Lib.hid (fun i => (q.2.1.lt (g := i)))
  obtain ⟨Av, cv, rfl, fv, gv, _⟩ := q.2.1.form
  have hT : takeN n R ≤ R.length ∧ ((takeN n R : Int) = n ∨ takeN n R = R.length ∨ (n < 0 ∧ takeN n R = 0)) ∧ ((takeN n R : Int) ≤ n ∨ n < 0 ∧ takeN n R = 0) := by unfold takeN; split <;> (try split) <;> omega
  obtain ⟨T, hTT⟩ : ∃ T, T = takeN n R := ⟨_, rfl⟩
  rw [← hTT] at hT ⊢
  have HQ := Lib.hid q; have HF := Lib.hid fv; have HT := Lib.hid hT
  clear q fv gv hT hTT
  go_enter Try.func15, Try.ntmps15
  go_wp2_with fail
  go_loopw [5, 6] (fun vo vi wr => ∃ i : Nat, i ≤ T ∧ vi = .int .i64 (i : Int) ∧ Own wr w.heap.size 5 vo (R.take i) ∧ Below w.heap.size w wr) (fun _ i _ => R.length - (intOf i).toNat)
  case atStart => exact ⟨0, Nat.zero_le _, rfl, Own.nil _ _ _, Below.refl _ _⟩
  case round =>
    obtain ⟨i, hiT, rfl, ho, hb⟩ := hrel
    have HB := Lib.hid hb
    obtain ⟨c0, c1, c2⟩ := cells3 (HQ.out.below hb).1
    by_cases hlt : i < T
    · have hiR : i < R.length := by have := HT.out; omega
      have hi1 : (i : Int) < (R.length : Int) := by omega
      have hi2 : (i : Int) < n := by have h2 := HT.out.2.2; have h3 := HT.out.2.1; omega
      have hi3 : decide ((i : Int) < n) = true := decide_eq_true hi2
      obtain ⟨_, _, b, off, rfl, hbl, hcell⟩ := HQ.out.cell hiR
      have hcell' := (hb.cell (p := ⟨b, off + i, none⟩) hbl).trans hcell
      have hby := byN22_lt R i
      have hval := byN22_val R i
      obtain ⟨N, hN⟩ : ∃ N, N = byN22 R i := ⟨_, rfl⟩
      rw [← hN] at hcell' hby hval
      have hlo : (R.take i).length ≤ 65536 := by rw [List.length_take]; omega
      have HO := Lib.hid ho; have HVL := Lib.hid hval; have HBY := Lib.hid hby; have HLO := Lib.hid hlo
      clear ho hb hval hbl hcell hlo hby hN
      go_wp2_with (at_builtin; refine wpList_append_byte isBytes rfl (.tmp 21) (.tmp 29) rfl w _ _ rfl wr _ rfl HO.out rfl (by omega) (by have := HBY.out; omega) (by have := HLO.out; omega) HB.out ?_)
      · intro v' w' ho' _ hb'
        rw [HVL.out, ← take_snoc22 R i hiR 0] at ho'
        have HO' := Lib.hid ho'; have HB' := Lib.hid hb'
        clear ho' hb' c0 c1 c2 hcell'
        go_wp2_with fail
        go_roundw
        case rel => exact ⟨i + 1, hlt, by simp, HO'.out, HB'.out⟩
        case measure => simp only [intOf]; omega
    · obtain rfl : i = T := by omega
      have hlT : (R.take i).length = i := by rw [List.length_take]; have := HT.out; omega
      have D := RefDrop22 h M (.slice Av R.length cv) R s i wr (HQ.out.below hb) (by have := HT.out; omega)
      have HD := Lib.hid D; have HO := Lib.hid ho
      obtain ⟨AO, cO, rfl, hO1, hO2⟩ := ho.form
      rw [hlT] at HO
      rw [hlT]
      have HLT := Lib.hid hlT
      have HOK := Lib.hid (fun (w2 : World) (v2 : Value) (k : Keep wr w2 h (.slice Av R.length cv) v2) => Own.keep HO.out k HQ.out.lt (fun j hj => (HV.out j hj).2))
      have HC := Lib.hid (And.intro (hlT ▸ hO1) hO2)
      have HSEP := Lib.hid (fun (w2 : World) (v2 : Value) (k : Keep wr w2 h (.slice Av R.length cv) v2) (j : Nat) (hj : v2.ownBlock = some j) => show (Value.slice AO i cO).ownBlock ≠ some j from fun e => by
        have h1 : w.heap.size ≤ j := HO.out.blk e
        have h2 : j < wr.heap.size := (Own.tail HO.out).lt e |>.2
        rcases k.own with h3 | h3
        · have := (HV.out j (h3 ▸ hj)).2; omega
        · have := h3 j hj; omega)
      clear hlT hO1 hO2 ho hb D
      by_cases hin : (i : Int) < n
      · have hi1 : ¬ (i : Int) < (R.length : Int) := by have := HT.out; omega
        have hi3 : decide ((i : Int) < n) = true := decide_eq_true hin
        go_wp2_with fail
        refine HD.out.mono ?_
        rintro e w2 ⟨rfl, v2, hq2, hk2⟩
        have HQ2 := Lib.hid hq2; have HK2 := Lib.hid hk2
        clear hq2 hk2
        go_wp2_with fail
        go_ret
        rw [HLT.out]
        exact ⟨AO, cO, v2, rfl, HC.out.1, HC.out.2, HOK.out _ _ HK2.out, HQ2.out, ((Keep.of_below HB.out).trans HK2.out), HSEP.out _ _ HK2.out⟩
      · have hi3 : decide ((i : Int) < n) = false := decide_eq_false hin
        go_wp2_with fail
        refine HD.out.mono ?_
        rintro e w2 ⟨rfl, v2, hq2, hk2⟩
        have HQ2 := Lib.hid hq2; have HK2 := Lib.hid hk2
        clear hq2 hk2
        go_wp2_with fail
        go_ret
        rw [HLT.out]
        exact ⟨AO, cO, v2, rfl, HC.out.1, HC.out.2, HOK.out _ _ HK2.out, HQ2.out, ((Keep.of_below HB.out).trans HK2.out), HSEP.out _ _ HK2.out⟩
theorem RefClear22 (h : Nat) (M : Int) (v : Value) (R : List UInt8) (s : Bool) (w : World) (q : RQ w h M v R s) :
    Calls Try.prog 19 #[.pointer (some ⟨h, 0, none⟩)] w fun e w' => e = .returned (.int .i64 (R.length : Int)) ∧ RQ w' h M (.slice none 0 0) [] false ∧ Keep w w' h v (.slice none 0 0) := by
  obtain ⟨Av, cv, rfl, fv, gv, _⟩ := q.2.1.form
  obtain ⟨c0, c1, c2⟩ := cells3 q.1
  obtain ⟨f0, f1, f2⟩ := free3 q.1
  have H := Lib.hid q
  clear q
  go_enter Try.func19, Try.ntmps19
  go_wp2_with fail
  go_ret
  exact ⟨rfl, ⟨(H.out.1.set 0 (.slice none 0 0)).set 2 (.bool false), Tl.nil _ _, by have := H.out.2.2; simp; omega, H.out.2.2.2⟩, ((Keep.refl w h (.slice Av R.length cv)).set 0 (.slice none 0 0) (.slice none 0 0) (.inr rfl)).set 2 (.bool false) (.slice none 0 0) (.inr rfl)⟩
theorem RefNew22 (m : Int) (w : World) :
    Calls Try.prog 10 #[.int .i64 m] w fun e w' => e = .returned (.pointer (some ⟨w.heap.size, 0, none⟩)) ∧ RQ w' w.heap.size (mostN m) (.slice none 0 0) [] false ∧ Below w.heap.size w w' := by
  have hm := mostN_ok m
  have hk := Blk.new w 40 [.slice none 0 0, .int .i64 m, .bool false]
  have hb := (Below.refl w.heap.size w).alloc (Nat.le_refl _) (.cells #[.slice none 0 0, .int .i64 m, .bool false] 40)
  obtain ⟨c0, c1, c2⟩ := cells3 hk
  obtain ⟨f0, f1, f2⟩ := free3 hk
  rcases (show m < 0 ∨ ¬ m < 0 ∧ 65536 < m ∨ ¬ m < 0 ∧ ¬ 65536 < m by omega) with h1 | ⟨h1, h2⟩ | ⟨h1, h2⟩
  · have e : mostN m = 0 := by unfold mostN; rw [if_pos h1]
    have h3 : ¬ 65536 < m := by omega
    rw [e]
    have HK := Lib.hid hk; have HB := Lib.hid hb
    clear hk hb hm e
    go_enter Try.func10, Try.ntmps10
    go_wp2_with fail
    go_ret
    exact ⟨rfl, ⟨Blk.new w 40 [.slice none 0 0, .int .i64 0, .bool false], Tl.nil _ _, by simp, by omega⟩, (Below.refl w.heap.size w).alloc (Nat.le_refl _) _⟩
  · have e : mostN m = 65536 := by unfold mostN; rw [if_neg h1, if_pos h2]
    rw [e]
    have HK := Lib.hid hk; have HB := Lib.hid hb
    clear hk hb hm e
    go_enter Try.func10, Try.ntmps10
    go_wp2_with fail
    go_ret
    exact ⟨rfl, ⟨Blk.new w 40 [.slice none 0 0, .int .i64 65536, .bool false], Tl.nil _ _, by simp, by omega⟩, (Below.refl w.heap.size w).alloc (Nat.le_refl _) _⟩
  · have e : mostN m = m := by unfold mostN; rw [if_neg h1, if_neg h2]
    rw [e]
    have HK := Lib.hid hk; have HB := Lib.hid hb
    clear hk hb hm e c0 c1 c2 f0 f1 f2
    go_enter Try.func10, Try.ntmps10
    go_wp2_with fail
    go_ret
    exact ⟨rfl, ⟨HK.out, Tl.nil _ _, by simp; omega, by omega⟩, HB.out⟩
end Go.Proofs.Ytgbialnnfadlgaa

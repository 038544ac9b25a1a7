/-
  OctetReads: what a reader tells of any calls is what the document says.
-/
import Derived.Test.YtjfbfboecpbgbaaDoorSim
namespace Go.Proofs.YtjfbfboecpbgbaaDoor.OctetReads
open Go.ChangeShapes Go.WideShapes Go.ChangeAt Go.RowKit
open Go.ChangeMaps (open_string shut_string)
set_option linter.unusedVariables false

/-! THE WALK. -/
theorem own_grown {w w' : World} {B e H : Nat} {v : Value} {l : List UInt8} (h : Own w B e v l) (hg : w.grownBy w' (some H)) (hH : H < B) : Own w' B e v l :=
  World.ownsRow.kept h hg (.inr (fun e => by have := h.blk e; omega))

def ReadRel (w : World) (H : Nat) (l : List UInt8) (z : List Int) (i : Value) (wr : World) : Prop :=
  Below w.heap.size w wr ∧ ∃ (j k : Nat) (s : Bool), j ≤ z.length ∧ i = .int .i64 (j : Int) ∧ k ≤ l.length ∧ Rd wr w.heap.size w.heap.size (before l k s) s ∧ RR wr w.heap.size H l k s

set_option maxRecDepth 100000 in
set_option maxHeartbeats 6400000 in
theorem walk (A0 : Option Addr) (c0 : Nat) (l0 : List UInt8) (A1 : Option Addr) (c1 : Nat) (z1 : List Int) (w : World) (hc0 : l0.length ≤ c0) (hm0 : c0 ≤ maxLen) (hb0 : Bytes w A0 l0) (hc1 : z1.length ≤ c1) (hm1 : c1 ≤ maxLen) (hb1 : Ints w A1 z1) (ht : Tab w) :
    Calls Tryd.prog 4 #[.slice A0 l0.length c0, .slice A1 z1.length c1] w fun e w' => e = .returned (.bool true) ∧ Below w.heap.size w w' := by
  have HT := Lib.hid ht; have HB := Lib.hid hb0; have HZ := Lib.hid hb1; clear ht hb0 hb1
  by_cases hl : 500 < l0.length
  · have hd : decide ((500 : Int) < (l0.length : Int)) = true := by simp; omega
    go_enter Tryd.func4, Tryd.ntmps4
    go_wp2_with fail
    refine (awake_any _ HT.out).mono ?_
    rintro e w1 ⟨rfl, hb1⟩
    have H1 := Lib.hid hb1; clear hb1
    go_wp2_with fail
    go_ret
    exact ⟨rfl, H1.out⟩
  · by_cases hz : 40 < z1.length
    · have hl2 : l0.length ≤ 500 := by omega
      go_enter Tryd.func4, Tryd.ntmps4
      go_wp2_with fail
      refine (awake_any _ HT.out).mono ?_
      rintro e w1 ⟨rfl, hb1⟩
      have H1 := Lib.hid hb1; clear hb1
      go_wp2_with fail
      go_ret
      exact ⟨rfl, H1.out⟩
    · have hl2 : l0.length ≤ 500 := by omega
      have hz2 : z1.length ≤ 40 := by omega
      go_enter Tryd.func4, Tryd.ntmps4
      go_wp2_with fail
      refine (New_any A0 _ c0 l0 rfl w HB.out hc0 hm0).mono ?_
      rintro e w1 ⟨rfl, hr1, hb1⟩
      have hx1 : RR (w1.alloc (.cells #[.slice A0 l0.length c0, .int .i64 0, .bool false] 34)) w.heap.size w1.heap.size l0 0 false :=
        ⟨hb1.size, A0, c0, Blk.new w1 _ [.slice A0 l0.length c0, .int .i64 ((0 : Nat) : Int), .bool false], Nat.zero_le _, hc0, hm0, (At.below HB.out hb1 (Nat.le_refl _)).below ((Below.refl _ _).alloc (Nat.le_refl _) _) hb1.size⟩
      have hlt := hr1.lt
      have X1 := Lib.hid hx1; have R1 := Lib.hid (hr1.below ((Below.refl _ _).alloc (Nat.le_refl _) (.cells #[.slice A0 l0.length c0, .int .i64 0, .bool false] 34)) hlt); have B1 := Lib.hid (hb1.alloc hb1.size (.cells #[.slice A0 l0.length c0, .int .i64 0, .bool false] 34)); clear hr1 hb1 hx1
      obtain ⟨H, hH⟩ : ∃ H, H = w1.heap.size := ⟨_, rfl⟩
      have HH := Lib.hid hH
      rw [← hH] at X1 hlt
      have hlt0 := hlt
      clear hH hlt
      go_wp2_with fail
      rw [← HH.out]
      go_loopw [7] (fun i wr => ReadRel w H l0 z1 i wr) (fun i _ => z1.length - (intOf i).toNat)
      case atStart => exact ⟨B1.out, 0, 0, false, Nat.zero_le _, rfl, Nat.zero_le _, R1.out, X1.out⟩
      case round =>
        obtain ⟨hbr, j, k, s, hj, rfl, hk, hr, hx⟩ := hrel
        have BR := Lib.hid hbr; have RR1 := Lib.hid hr; have XX1 := Lib.hid hx; clear hbr hr hx
        by_cases hlt : j < z1.length
        · obtain ⟨b, off, rfl, hbb, hc⟩ := (HZ.out.below BR.out).cell hlt
          obtain ⟨y, hy⟩ : ∃ y, y = z1.getD j 0 := ⟨_, rfl⟩
          rw [← hy] at hc
          have HY := Lib.hid hy; clear hy
          by_cases h0 : y = 0
          · subst h0
            obtain ⟨X, hX⟩ : ∃ X, X = refTake l0 k s 1 := ⟨_, rfl⟩
            have q1 := Byte_sim w.heap.size w.heap.size l0 k s wr RR1.out hk
            have q2 := fun w3 (h : RR w3 w.heap.size H l0 k s) => refNum_any 1 w.heap.size H l0 k s w3 h (by omega) (by omega)
            have q3 := (readers_same l0 k s 1 hk).2.2.2
            have q4 := refTake_len l0 k s 1
            rw [← hX] at q1 q2 q3 q4
            have Q1 := Lib.hid q1; have Q2 := Lib.hid q2; have Q3 := Lib.hid q3; clear q1 q2 q3 hX
            clear q4
            go_wp2_with fail
            refine Q1.out.mono ?_
            rintro e w3 ⟨rfl, hr3, hg3⟩
            have hx3 := XX1.out.grown hg3 (Nat.ne_of_gt hlt0) (Nat.le_refl _)
            have X3 := Lib.hid hx3; have R3 := Lib.hid hr3; have B3 := Lib.hid (BR.out.trans (below_of_grown hg3 BR.out.size (Nat.le_refl _))); clear hr3 hg3 hx3
            go_wp2_with fail
            refine (Q2.out _ X3.out).mono ?_
            rintro e w4 ⟨rfl, hx4, hg4⟩
            have hr4 := R3.out.grown hg4 (Nat.ne_of_lt hlt0) (Nat.le_of_lt hlt0)
            have X4 := Lib.hid hx4; have R4 := Lib.hid hr4; have B4 := Lib.hid (B3.out.trans (below_of_grown hg4 B3.out.size (Nat.le_of_lt hlt0)))
            clear hr4 hg4 hx4
            go_wp2_with fail
            refine (Left_any _ _ _ _ _ R4.out).mono ?_
            rintro e w5 ⟨rfl, rfl⟩
            go_wp2_with fail
            refine (refLeft_any _ _ _ _ _ _ X4.out (by omega)).mono ?_
            rintro e w5 ⟨rfl, n5, rfl⟩
            go_wp2_with fail
            refine (Err_any _ _ _ _ _ (R4.out.drewN n5)).mono ?_
            rintro e w5 ⟨rfl, rfl⟩
            go_wp2_with fail
            refine (refErr_any _ _ _ _ _ _ (show RR (w4.drewN n5) w.heap.size H l0 X.2.1 X.2.2 from X4.out)).mono ?_
            rintro e w5 ⟨rfl, rfl⟩
            go_wp2_with fail
            go_roundw
            case rel => exact ⟨below_drewN B4.out n5, j + 1, X.2.1, X.2.2, by omega, by go_num, Q3.out, R4.out.drewN n5, X4.out⟩
            case measure => simp [intOf]; omega
          · have h0b : (y == 0) = false := by simpa using h0
            by_cases h1 : y = 1
            · subst h1
              clear h0b h0
              obtain ⟨X, hX⟩ : ∃ X, X = refTake l0 k s 2 := ⟨_, rfl⟩
              have q1 := U16_sim w.heap.size w.heap.size l0 k s wr RR1.out hk
              have q2 := fun w3 (h : RR w3 w.heap.size H l0 k s) => refNum_any 2 w.heap.size H l0 k s w3 h (by omega) (by omega)
              have q3 := (readers_same l0 k s 2 hk).2.2.2
              have q4 := refTake_len l0 k s 2
              rw [← hX] at q1 q2 q3 q4
              have Q1 := Lib.hid q1; have Q2 := Lib.hid q2; have Q3 := Lib.hid q3; clear q1 q2 q3 hX
              clear q4
              go_wp2_with fail
              refine Q1.out.mono ?_
              rintro e w3 ⟨rfl, hr3, hg3⟩
              have hx3 := XX1.out.grown hg3 (Nat.ne_of_gt hlt0) (Nat.le_refl _)
              have X3 := Lib.hid hx3; have R3 := Lib.hid hr3; have B3 := Lib.hid (BR.out.trans (below_of_grown hg3 BR.out.size (Nat.le_refl _))); clear hr3 hg3 hx3
              go_wp2_with fail
              refine (Q2.out _ X3.out).mono ?_
              rintro e w4 ⟨rfl, hx4, hg4⟩
              have hr4 := R3.out.grown hg4 (Nat.ne_of_lt hlt0) (Nat.le_of_lt hlt0)
              have X4 := Lib.hid hx4; have R4 := Lib.hid hr4; have B4 := Lib.hid (B3.out.trans (below_of_grown hg4 B3.out.size (Nat.le_of_lt hlt0)))
              clear hr4 hg4 hx4
              go_wp2_with fail
              refine (Left_any _ _ _ _ _ R4.out).mono ?_
              rintro e w5 ⟨rfl, rfl⟩
              go_wp2_with fail
              refine (refLeft_any _ _ _ _ _ _ X4.out (by omega)).mono ?_
              rintro e w5 ⟨rfl, n5, rfl⟩
              go_wp2_with fail
              refine (Err_any _ _ _ _ _ (R4.out.drewN n5)).mono ?_
              rintro e w5 ⟨rfl, rfl⟩
              go_wp2_with fail
              refine (refErr_any _ _ _ _ _ _ (show RR (w4.drewN n5) w.heap.size H l0 X.2.1 X.2.2 from X4.out)).mono ?_
              rintro e w5 ⟨rfl, rfl⟩
              go_wp2_with fail
              go_roundw
              case rel => exact ⟨below_drewN B4.out n5, j + 1, X.2.1, X.2.2, by omega, by go_num, Q3.out, R4.out.drewN n5, X4.out⟩
              case measure => simp [intOf]; omega
            · have h1b : (y == 1) = false := by simpa using h1
              by_cases h2 : y = 2
              · subst h2
                clear h0b h0 h1b h1
                obtain ⟨X, hX⟩ : ∃ X, X = refTake l0 k s 4 := ⟨_, rfl⟩
                have q1 := U32_sim w.heap.size w.heap.size l0 k s wr RR1.out hk
                have q2 := fun w3 (h : RR w3 w.heap.size H l0 k s) => refNum_any 4 w.heap.size H l0 k s w3 h (by omega) (by omega)
                have q3 := (readers_same l0 k s 4 hk).2.2.2
                have q4 := refTake_len l0 k s 4
                rw [← hX] at q1 q2 q3 q4
                have Q1 := Lib.hid q1; have Q2 := Lib.hid q2; have Q3 := Lib.hid q3; clear q1 q2 q3 hX
                have hn4 := num_lt4 (l := X.1) (by omega)
                clear q4
                go_wp2_with fail
                refine Q1.out.mono ?_
                rintro e w3 ⟨rfl, hr3, hg3⟩
                have hx3 := XX1.out.grown hg3 (Nat.ne_of_gt hlt0) (Nat.le_refl _)
                have X3 := Lib.hid hx3; have R3 := Lib.hid hr3; have B3 := Lib.hid (BR.out.trans (below_of_grown hg3 BR.out.size (Nat.le_refl _))); clear hr3 hg3 hx3
                go_wp2_with fail
                refine (Q2.out _ X3.out).mono ?_
                rintro e w4 ⟨rfl, hx4, hg4⟩
                have hr4 := R3.out.grown hg4 (Nat.ne_of_lt hlt0) (Nat.le_of_lt hlt0)
                have X4 := Lib.hid hx4; have R4 := Lib.hid hr4; have B4 := Lib.hid (B3.out.trans (below_of_grown hg4 B3.out.size (Nat.le_of_lt hlt0)))
                clear hr4 hg4 hx4
                go_wp2_with fail
                refine (Left_any _ _ _ _ _ R4.out).mono ?_
                rintro e w5 ⟨rfl, rfl⟩
                go_wp2_with fail
                refine (refLeft_any _ _ _ _ _ _ X4.out (by omega)).mono ?_
                rintro e w5 ⟨rfl, n5, rfl⟩
                go_wp2_with fail
                refine (Err_any _ _ _ _ _ (R4.out.drewN n5)).mono ?_
                rintro e w5 ⟨rfl, rfl⟩
                go_wp2_with fail
                refine (refErr_any _ _ _ _ _ _ (show RR (w4.drewN n5) w.heap.size H l0 X.2.1 X.2.2 from X4.out)).mono ?_
                rintro e w5 ⟨rfl, rfl⟩
                go_wp2_with fail
                go_roundw
                case rel => exact ⟨below_drewN B4.out n5, j + 1, X.2.1, X.2.2, by omega, by go_num, Q3.out, R4.out.drewN n5, X4.out⟩
                case measure => simp [intOf]; omega
              · have h2b : (y == 2) = false := by simpa using h2
                clear h0 h1 h2
                obtain ⟨N, hN⟩ : ∃ N, N = bits .and .i64 y 63 := ⟨_, rfl⟩
                obtain ⟨X, hX⟩ : ∃ X, X = refTake l0 k s N := ⟨_, rfl⟩
                have q1 := Take_sim N w.heap.size w.heap.size l0 k s wr RR1.out hk (by omega)
                have q2 := fun w3 (h : RR w3 w.heap.size H l0 k s) => refTake_any N w.heap.size H l0 k s w3 h (by omega)
                have q3 := (readers_same l0 k s N hk).2.2.2
                rw [← hX] at q1 q2 q3
                have Q1 := Lib.hid q1; have Q2 := Lib.hid q2; have Q3 := Lib.hid q3; clear q1 q2 q3 hX
                have HN := Lib.hid hN; clear hN
                have hHr := XX1.out.lt
                go_wp2_with fail
                rw [← HN.out]
                refine Q1.out.mono ?_
                rintro e w3 ⟨P3, d3, rfl, _, _, ho3, hr3, hg3⟩
                have hx3 := XX1.out.grown hg3 (Nat.ne_of_gt hlt0) (Nat.le_refl _)
                have O3 := Lib.hid ho3; have X3 := Lib.hid hx3; have R3 := Lib.hid hr3; have B3 := Lib.hid (BR.out.trans (below_of_grown hg3 BR.out.size (Nat.le_refl _))); clear hr3 hg3 hx3 ho3
                go_wp2_with fail
                refine (Q2.out _ X3.out).mono ?_
                rintro e w4 ⟨P4, d4, rfl, _, _, ho4, hx4, hg4⟩
                have hr4 := R3.out.grown hg4 (Nat.ne_of_lt hlt0) (Nat.le_of_lt hlt0)
                have O4 := Lib.hid ho4.bytes; have O34 := Lib.hid (own_grown O3.out hg4 hHr).bytes
                have X4 := Lib.hid hx4; have R4 := Lib.hid hr4; have B4 := Lib.hid (B3.out.trans (below_of_grown hg4 B3.out.size (Nat.le_of_lt hlt0)))
                clear hr4 hg4 hx4 ho4
                go_wp2_with fail
                refine (Same_any P3 P4 _ _ d3 d4 _ _ rfl rfl w4 O34.out O4.out).mono ?_
                rintro e w5 ⟨rfl, rfl⟩
                go_wp2_with fail
                refine (Left_any _ _ _ _ _ R4.out).mono ?_
                rintro e w5 ⟨rfl, rfl⟩
                go_wp2_with fail
                refine (refLeft_any _ _ _ _ _ _ X4.out (by omega)).mono ?_
                rintro e w5 ⟨rfl, n5, rfl⟩
                go_wp2_with fail
                refine (Err_any _ _ _ _ _ (R4.out.drewN n5)).mono ?_
                rintro e w5 ⟨rfl, rfl⟩
                go_wp2_with fail
                refine (refErr_any _ _ _ _ _ _ (show RR (w4.drewN n5) w.heap.size H l0 X.2.1 X.2.2 from X4.out)).mono ?_
                rintro e w5 ⟨rfl, rfl⟩
                go_wp2_with fail
                go_roundw
                case rel => exact ⟨below_drewN B4.out n5, j + 1, X.2.1, X.2.2, by omega, by go_num, Q3.out, R4.out.drewN n5, X4.out⟩
                case measure => simp [intOf]; omega
        · go_wp2_with fail
          refine (awake_any _ (HT.out.below BR.out HT.out.lt)).mono ?_
          rintro e w2 ⟨rfl, hb2⟩
          have H2 := Lib.hid (BR.out.trans (hb2.mono BR.out.size)); clear hb2
          go_wp2_with fail
          go_ret
          exact ⟨rfl, H2.out⟩

theorem contract (H : Type) (enc : TypeId × Value → H) (W : World) (base : Nat) (args : Array Value) (ds gs : List (DataW H)) (before : List MemPlace)
    (hval : ∀ (j : Nat) t v, Tryd.f4.params[j]? = some t → args[j]? = some v → Value.okWide Tryd.prog W .any base t v)
    (hW : DataW.Whole enc Tryd.prog Tryd.f4.params.toList Rows.octetReadsSpec.vars false W args.toList ds gs before)
    (hL : laidMetH Tryd.prog Rows.octetReadsRow.laid W) :
    Calls Tryd.prog 4 args W fun e W' => ∃ v, e = .returned v ∧ Rows.octetReadsSpec.post enc Tryd.prog Tryd.f4 false true false false W args v W' := by
  have hW' := hW
  obtain ⟨p, q, hA0, hV, rfl, hfz, hnd⟩ := hW
  have hA : DataW.TrodAll enc Tryd.prog W 0 (fun _ => true) true Tryd.f4.params.toList args.toList ds p := hA0
  rw [Tryd.params4] at hA hval
  obtain ⟨v0, vs0, d0, ds0, p0, q0, hargs, rfl, rfl, h0, r0⟩ := trodAll_cons hA
  obtain ⟨v1, vs1, d1, ds1, p1, q1, rfl, rfl, rfl, h1, r1⟩ := trodAll_cons r0
  obtain ⟨rfl, rfl, rfl⟩ := trodAll_nil r1
  obtain rfl : args = #[v0, v1] := by cases args; simp_all
  obtain ⟨rfl, rfl⟩ := trodVars_none hV
  obtain ⟨a0, len0, cap0, rfl⟩ := okWide_slice Tryd.underlying22 (hval 0 22 v0 rfl rfl)
  have k0 := h0
  have lt0 : ∀ x ∈ p0, x.block < W.heap.size := by obtain ⟨m, hm⟩ := k0; exact DataW.trod_lt m _ _ _ hm
  obtain ⟨l0, hl0, w0, hcap0, hmax0⟩ : ∃ l : List UInt8, l.length = len0 ∧ Bytes W a0 l ∧ len0 ≤ cap0 ∧ cap0 ≤ maxLen := by
    obtain ⟨fuel, hf⟩ := h0
    rcases open_ints Tryd.underlying22 Tryd.underlying5 (by kernel_rfl) hf with ⟨hcs, _⟩ | ⟨x, l, c, zs, hcs, _, hl, hm, hz, _, hcell, hwz⟩
    · simp [Value.cells] at hcs
      obtain ⟨rfl, rfl, rfl⟩ := hcs
      exact ⟨[], rfl, Bytes.nil _ _, Nat.le_refl _, Nat.zero_le _⟩
    · simp [Value.cells] at hcs
      obtain ⟨rfl, rfl, rfl⟩ := hcs
      obtain ⟨l, h1, h2⟩ := bytes_in hl hz hcell hwz
      exact ⟨l, h1, h2, hl, hm⟩
  subst hl0
  obtain ⟨a1, len1, cap1, rfl⟩ := okWide_slice Tryd.underlying29 (hval 1 29 v1 rfl rfl)
  have k1 := h1
  have lt1 : ∀ x ∈ p1, x.block < W.heap.size := by obtain ⟨m, hm⟩ := k1; exact DataW.trod_lt m _ _ _ hm
  obtain ⟨l1, hl1, w1, hcap1, hmax1⟩ : ∃ l : List Int, l.length = len1 ∧ Ints W a1 l ∧ len1 ≤ cap1 ∧ cap1 ≤ maxLen := by
    obtain ⟨fuel, hf⟩ := h1
    rcases open_ints Tryd.underlying29 Tryd.underlying3 (by kernel_rfl) hf with ⟨hcs, _⟩ | ⟨x, l, c, zs, hcs, _, hl, hm, hz, _, hcell, hwz⟩
    · simp [Value.cells] at hcs
      obtain ⟨rfl, rfl, rfl⟩ := hcs
      exact ⟨[], rfl, Ints.nil _ _, Nat.le_refl _, Nat.zero_le _⟩
    · simp [Value.cells] at hcs
      obtain ⟨rfl, rfl, rfl⟩ := hcs
      obtain ⟨l, h1, h2⟩ := ints_in hl hz hcell hwz
      exact ⟨l, h1, h2, hl, hm⟩
  subst hl1
  clear hA0
  refine (walk a0 cap0 l0 a1 cap1 l1 W hcap0 hmax0 w0 hcap1 hmax1 w1 (tab_of_laid hL)).mono fun e W' ⟨he, bel⟩ => ?_
  subst he
  exact ⟨_, rfl, _, _, _, [], _, [], hW', trodAll_mk1 (shut_bool Tryd.underlying4 _), (trodAll_cons_mk (Below.trod laidOut (by kernel_rfl) (of_decide_eq_true (by kernel_rfl)) k0 bel lt0) (trodAll_cons_mk (Below.trod laidOut (by kernel_rfl) (of_decide_eq_true (by kernel_rfl)) k1 bel lt1) trodAll_mk0)), rfl, bel.frame _, fun h => by cases h⟩

noncomputable def laidWorld (os : Os) : World :=
  { World.holding Tryd.prog os ⟨#[], #[], []⟩ with heap := (World.holding Tryd.prog os ⟨#[], #[], []⟩).heap.modify 0 fun
      | .cells _ t frozen => .cells tabCells t frozen
      | o => o }
theorem laid_met (os : Os) : laidMet Tryd.prog Rows.octetReadsRow.laid ((laidWorld os).forCall (fun _ _ => 0) ⟨#[], #[.slice none 0 0, .slice none 0 0], []⟩).memory :=
  laidMet_of_run' 8 (by kernel_rfl) (by kernel_rfl)
theorem reads (os : Os) {H : Type} (enc : TypeId × Value → H) : ∃ places, DataW.whole enc Tryd.prog ((laidWorld os).forCall (fun _ _ => 0) ⟨#[], #[.slice none 0 0, .slice none 0 0], []⟩).memory Tryd.f4.params.toList Rows.octetReadsSpec.vars false (#[.slice none 0 0, .slice none 0 0] : Array Value).toList 8 = some ([.nil, .nil], [], places) :=
  ⟨[], by kernel_rfl⟩

set_option maxRecDepth 100000 in
theorem lifted (os : Os) (started : os.Started) (H : Type) (enc : TypeId × Value → H) (F : Stop.Interp) :
    ReturnsInHanded {} Tryd.checked os 4 .any ((OpenSpec.ofChange Rows.octetReadsSpec).preRow enc Tryd.prog Tryd.f4 Rows.octetReadsRow.domain false Rows.octetReadsRow.laid) (((OpenSpec.ofChange Rows.octetReadsSpec).at F).post enc Tryd.prog Tryd.f4 false true false false) := by
  obtain ⟨places, hx⟩ := reads os enc
  refine returnsInHanded_of_row (C := Tryd.checked) (s := OpenSpec.ofChange Rows.octetReadsSpec) own started (by kernel_rfl) Tryd.func4
    (witness_row_at (enc := enc) (C := Tryd.checked) false (laidWorld os) #[.slice none 0 0, .slice none 0 0] rfl (by kernel_rfl) (by kernel_rfl) (by kernel_rfl)
      (OpenSpec.preRow_of_cond 8 hx (by kernel_rfl) (fun k hk => by cases hk) (by kernel_rfl) (laid_met os))) ?_
  intro W base args ds gs before hval hW _ _ _ hL _ _
  exact contract H enc W base args ds gs before hval hW hL

theorem said : Rows.OctetReadsSaid :=
  OpenClaim.holds_of_cond 4 Tryd.f4 rfl rfl rfl rfl rfl rfl rfl ⟨rfl, rfl, rfl, rfl, rfl⟩ rfl rfl rfl rfl rfl (by kernel_rfl) Tryd.func4 (by kernel_rfl)
    (of_decide_eq_true (by kernel_rfl)) (by unfold Func.isWrapper; first | (rw [if_pos (by decide +kernel)]; kernel_rfl) | (rw [if_neg (by decide +kernel)]; exact ⟨rfl, rfl⟩))
    (fun os started H enc _ F => by rw [OpenClaim.pre_eq_preRow]; exact lifted os started H enc F)

/-- No parameter wants a stand-in; the program's own looks are off: what the card asks. -/
theorem plain (f : FuncId) (fn : Func) (hf : Tryd.pinned.checked.prog.funcNamed "speculum/speculumlaw01.OctetReads" = some f) (hfn : Tryd.pinned.checked.prog.funcs[f]? = some fn) :
    false = Tryd.pinned.checked.prog.looks [] ∧ ∀ (j : Nat) t, fn.params[j]? = some t → Tryd.pinned.checked.prog.wantsStandIn t = false := by
  obtain rfl : f = 4 := Option.some.inj ((show Tryd.prog.funcNamed "speculum/speculumlaw01.OctetReads" = some 4 by kernel_rfl).symm.trans hf) |>.symm
  obtain rfl : fn = Tryd.f4 := (Option.some.inj (Tryd.func4.symm.trans hfn)).symm
  refine ⟨by kernel_rfl, fun j t ht => ?_⟩
  rw [Tryd.params4] at ht
  have hm : t ∈ [22, 29] := by simpa using Array.mem_of_getElem? ht
  have hall : ([22, 29].all fun u => !Tryd.prog.wantsStandIn u) = true := by kernel_rfl
  exact (show Tryd.prog.wantsStandIn t = false by simpa using List.all_eq_true.1 hall t hm)

/-- ████ THE CARD ████ -/
theorem card : Rows.OctetReadsCardSaid :=
  Claim7.holds_tied_plain_at .later [] _ _ _ _ said (fun _ h => by cases h) (by kernel_rfl) (fun _ h => by cases h) octetReads_row_tie rfl ⟨rfl, rfl⟩ (by kernel_rfl) rfl plain (by kernel_rfl)
end Go.Proofs.YtjfbfboecpbgbaaDoor.OctetReads

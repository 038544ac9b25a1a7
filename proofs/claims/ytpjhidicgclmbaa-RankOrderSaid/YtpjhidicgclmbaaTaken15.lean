/-
  Which of some runners is taken.
-/
import Derived.Test.YtpjhidicgclmbaaNears15
namespace Go.Proofs.Ytpjhidicgclmbaa
set_option linter.unusedVariables false
set_option linter.unusedSimpArgs false
open Go.RowKit Go.Maps

/-- Which of the best were looked at. -/
def doneB (F : Int → Option Nat) (left : Lit → Bool) (k : Int) : Bool := (F k).isSome && !left (.int .u32 k)
theorem done_step {F : Int → Option Nat} {left : Lit → Bool} {x : Int} (k : Int) (h : doneB F (fun z => left z && !z.sameKey (.int .u32 x)) k = true) : doneB F left k = true ∨ k = x := by
  unfold doneB at *
  by_cases hx : k = x
  · exact .inr hx
  · left
    have : (Lit.int .u32 k).sameKey (.int .u32 x) = false := by simp [Lit.sameKey, hx]
    simpa [this] using h
theorem done_end {F : Int → Option Nat} {left : Lit → Bool} (h : ∀ kl, left kl = false) (n : Int) (i : Nat) (hF : F n = some i) : doneB F left n = true := by simp [doneB, hF, h]
theorem ranges_drewN {w : World} {B r n cnt : Nat} {D : DataW Unit} {left : Lit → Bool} (h : w.ranges Try.prog 27 (plainElem Try.prog 3) B r n D left cnt) (m : Nat) : (w.drewN m).ranges Try.prog 27 (plainElem Try.prog 3) B r n D left cnt := h
theorem below_of_grownR {B r : Nat} {w w1 w2 : World} (h : Below B w w1) (hg : w1.grownBy w2 (some r)) (hr : B ≤ r) (hB : B ≤ w1.heap.size) : Below B w w2 :=
  h.grown hg hB (fun k hk => by simp at hk; omega)
/-- What the loop over the best keeps. -/
def TakeRel (w : World) (X : List Rn) (F : Int → Option Nat) (D : DataW Unit) (B r n : Nat) (v : Value) (wr : World) : Prop :=
  Below w.heap.size w wr ∧ ∃ (left : Lit → Bool) (cnt : Nat) (best : Int), wr.ranges Try.prog 27 (plainElem Try.prog 3) B r n D left cnt ∧ (∀ k, left (.int .u32 k) = true → (F k).isSome = true) ∧ v = .int .i64 best ∧ Seen X F (doneB F left) best
theorem seen_ways {X : List Rn} {F : Int → Option Nat} {done : Int → Bool} {best : Int} (h : Seen X F done best) : best = -1 ∨ ∃ (i : Nat) (b : Rn), best = (i : Int) ∧ X[i]? = some b := by
  rcases h with ⟨e, _⟩ | ⟨n, i, b, e, _, h2, _⟩
  · exact .inl e
  · exact .inr ⟨i, b, e, h2⟩

set_option maxHeartbeats 12800000 in
theorem taken_any (A : Option Addr) (c : Nat) (X : List Rn) (w : World) (h : RunsAt w A X) (hw : ∀ x ∈ X, (Lit.int .u32 x.near).wf = true) (hl : X.length ≤ 1000000) :
    Calls Try.prog 20 #[.slice A X.length c] w fun e w' => (∃ best : Int, e = .returned (.int .i64 best) ∧ Taken X best) ∧ Below w.heap.size w w' := by
  have HS := Lib.hid h
  have Q := Lib.hid (nears_any A c X w h hw hl)
  clear h hw
  go_enter Try.func20, Try.ntmps20
  go_wp2_with fail
  refine Q.out.mono ?_
  rintro e w1 ⟨rfl, hb1, F, n, hN, hv, D, hown, hhas, hatk, hmx⟩
  have HB1 := Lib.hid hb1; have HNE := Lib.hid hN; have HV := Lib.hid hv; have HO := Lib.hid hown; have HH := Lib.hid hhas; have HA := Lib.hid hatk
  clear hb1 hN hv hown hhas hatk hmx Q
  go_wp2_with (at_range; refine wpList_range_own _ rfl _ 59 rfl 27 3 lawN Try.underlying59 _ w.heap.size n D rfl HO.out ?_)
  intro w0 hrg0 hg0 hs0
  have HR0 := Lib.hid hrg0
  have HB0 := Lib.hid (HB1.out.grown hg0 HB1.out.size (fun k hk => by cases hk))
  obtain ⟨r, hr⟩ : ∃ r, r = w1.heap.size := ⟨_, rfl⟩
  have HRG := Lib.hid (show w.heap.size ≤ r by rw [hr]; exact HB1.out.size)
  rw [← hr] at HR0
  rw [← hr]
  clear hr hrg0 hg0 hs0 HO
  go_wp2_with fail
  go_loopw [3] (fun v wr => TakeRel w X F D w.heap.size r n v wr) (fun _ wr => wr.rangeLeft w.heap.size r)
  case atStart => exact ⟨HB0.out, _, _, -1, HR0.out, fun k hk => by rw [← HH.out]; exact hk, rfl, .inl ⟨rfl, fun m hm => by
    unfold doneB at hm
    rw [HH.out] at hm
    cases hF : F m with
    | none => rfl
    | some i => rw [hF] at hm; simp at hm⟩⟩
  case round =>
    obtain ⟨hbr, left, cnt, best, hrg, hlf, rfl, hS⟩ := hrel
    have HBR := Lib.hid hbr; have HLF := Lib.hid hlf; have HSE := Lib.hid hS
    clear hbr hlf hS HR0 HB0
    go_wp2_with (at_next; refine wpList_next_ranges_ii _ rfl _ rfl 27 3 .u32 .i64 lawN Try.underlying27 Try.underlying3 w.heap.size r n _ _ _ rfl hrg ?_ ?_)
    · intro hc0 hl0
      have HT := Lib.hid (seen_end HSE.out HNE.out (done_end hl0))
      clear hl0 hc0 hrg HSE
      go_wp2_with fail
      go_ret
      exact ⟨⟨best, rfl, HT.out⟩, HBR.out⟩
    · intro x c1 w2 cnt1 hwx hwc hlx hat hrg1 hlt hg1 hs1 hen
      have HBW := Lib.hid (below_of_grownR HBR.out hg1 HRG.out HBR.out.size)
      obtain ⟨i, hi⟩ : ∃ i, F x = some i := by
        have := HLF.out x hlx
        cases h : F x with
        | none => rw [h] at this; cases this
        | some i => exact ⟨i, rfl⟩
      obtain rfl : c1 = (i : Int) := by
        have h1 := hat (.lit (.int .i64 0))
        rw [HA.out x i hi] at h1
        injection h1 with h1
        injection h1 with _ h1
        exact h1.symm
      obtain ⟨xi, hxi, hil⟩ := HV.out x i hi
      have HME := Lib.hid (show w2.rangeLeft w.heap.size r < wr.rangeLeft w.heap.size r by rw [hrg1.left_eq, hrg.left_eq]; omega)
      have HR1 := Lib.hid hrg1; have HI := Lib.hid hi; have HXI := Lib.hid hxi
      have HL1 := Lib.hid (fun (k : Int) (hk : (fun z : Lit => left z && !z.sameKey (.int .u32 x)) (.int .u32 k) = true) => HLF.out k (by simp at hk; exact hk.1))
      have HSS := Lib.hid (HS.out.go HBW.out)
      have hwy := seen_ways HSE.out
      clear hrg hrg1 hat hlx hwx hwc hlt hg1 hs1 hi hxi HBR HLF
      rcases hwy with rfl | ⟨j, b, rfl, hj⟩
      · have HS2 := Lib.hid (seen_first HSE.out (done_step (F := F) (left := left) (x := x)) HI.out HXI.out)
        go_wp2_with fail
        go_quiet (fail)
        go_wp2_with fail
        go_roundw
        case rel => exact ⟨below_drewN HBW.out _, _, cnt1, (i : Int), ranges_drewN HR1.out _, HL1.out, rfl, HS2.out⟩
        case measure => exact HME.out
      · obtain ⟨ab, off, rfl, hab, hrn⟩ := HSS.out.at hj
        have Q1 := fun m => Lib.hid (compare49 ab (off + i * 10) ab (off + j * 10) xi b (w2.drewN m) ((hrn i xi HXI.out).drewN m) ((hrn j b hj).drewN m))
        have HC := Lib.hid (lexP_suf xi b)
        have hjl := (List.getElem?_eq_some_iff.1 hj).1
        have HJ := Lib.hid hj
        obtain ⟨p, hp⟩ : ∃ p, p = lexP xi b 4 9 := ⟨_, rfl⟩
        have hpw := lexP_ways xi b 4 9
        rw [← hp] at HC hpw
        rw [← hp] at Q1
        have hneg : ¬ (j : Int) < 0 := by omega
        clear hrn hj hp
        rcases hpw with rfl | rfl | rfl
        · have HS2 := Lib.hid (seen_take HSE.out HJ.out (done_step (F := F) (left := left) (x := x)) HI.out HXI.out (HC.out.1 rfl))
          clear HC
          go_wp2_with fail
          go_quiet ((go_at_call 25; exact Calls.quiet_of (Q1 _).out))
          go_wp2_with fail
          go_roundw
          case rel => exact ⟨below_drewN HBW.out _, _, cnt1, (i : Int), ranges_drewN HR1.out _, HL1.out, rfl, HS2.out⟩
          case measure => exact HME.out
        · have HS2 := Lib.hid (seen_leave HSE.out HJ.out (done_step (F := F) (left := left) (x := x)) HI.out HXI.out (fun q => absurd (HC.out.2 q) (by decide)))
          clear HC
          go_wp2_with fail
          go_quiet ((go_at_call 25; exact Calls.quiet_of (Q1 _).out))
          go_wp2_with fail
          go_roundw
          case rel => exact ⟨below_drewN HBW.out _, _, cnt1, (j : Int), ranges_drewN HR1.out _, HL1.out, rfl, HS2.out⟩
          case measure => exact HME.out
        · have HS2 := Lib.hid (seen_leave HSE.out HJ.out (done_step (F := F) (left := left) (x := x)) HI.out HXI.out (fun q => absurd (HC.out.2 q) (by decide)))
          clear HC
          go_wp2_with fail
          go_quiet ((go_at_call 25; exact Calls.quiet_of (Q1 _).out))
          go_wp2_with fail
          go_roundw
          case rel => exact ⟨below_drewN HBW.out _, _, cnt1, (j : Int), ranges_drewN HR1.out _, HL1.out, rfl, HS2.out⟩
          case measure => exact HME.out
end Go.Proofs.Ytpjhidicgclmbaa

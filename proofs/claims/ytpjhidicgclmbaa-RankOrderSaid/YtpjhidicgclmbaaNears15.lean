/-
  The best of each Near, as the program finds it.
-/
import Derived.Test.YtpjhidicgclmbaaNInv15
namespace Go.Proofs.Ytpjhidicgclmbaa
set_option linter.unusedVariables false
set_option linter.unusedSimpArgs false
open Go.RowKit

theorem quiet_add {P : Program} {f : FuncId} {args : Array Value} {w : World} {a n : Nat} {v : Value}
    (h : Calls P f args (w.drewN (a + n)) fun e w' => e = .returned v ∧ ∃ m, w' = (w.drewN (a + n)).drewN m) :
    Calls P f args (w.drewN (a + n)) fun e w'' => e = .returned v ∧ ∃ m, w'' = w.drewN (a + m) :=
  h.mono fun _ _ ⟨he, m, hm⟩ => ⟨he, n + m, by rw [hm, World.drewN_drewN, Nat.add_assoc]⟩
theorem RnAt.drewN {w : World} {b off : Nat} {x : Rn} (h : RnAt w b off x) (n : Nat) : RnAt (w.drewN n) b off x := h
theorem RnAt.below {w w' : World} {B b off : Nat} {x : Rn} (h : RnAt w b off x) (hb : Below B w w') (hB : b < B) : RnAt w' b off x :=
  ⟨(hb.cell (p := ⟨b, off, none⟩) hB).trans h.1, fun j u hj => (hb.cell (p := ⟨b, off + 1 + j, none⟩) hB).trans (h.2 j u hj)⟩
theorem RunsAt.at {w : World} {A : Option Addr} {X : List Rn} (h : RunsAt w A X) {j : Nat} {x : Rn} (hj : X[j]? = some x) : ∃ b off, A = some ⟨b, off, none⟩ ∧ b < w.heap.size ∧ ∀ (j : Nat) (x : Rn), X[j]? = some x → RnAt w b (off + j * 10) x :=
  h (by intro e; subst e; simp at hj)
theorem RunsAt.go {w w' : World} {A : Option Addr} {X : List Rn} (h : RunsAt w A X) (hb : Below w.heap.size w w') : RunsAt w' A X := by
  intro hne
  obtain ⟨b, off, h1, h2, h3⟩ := h hne
  exact ⟨b, off, h1, Nat.lt_of_lt_of_le h2 hb.size, fun j x hj => (h3 j x hj).below hb h2⟩
/-- What the loop keeps: where the first stands, how many were seen, and the map. -/
def NearRel (w : World) (X : List Rn) (v i : Value) (wr : World) : Prop :=
  Below w.heap.size w wr ∧ ∃ (k f n : Nat) (F : Int → Option Nat), k ≤ X.length ∧ i = .int .i64 (k : Int) ∧ v = .int .i64 (f : Int) ∧ NInv X k f F ∧ MapN wr w.heap.size n F ∧ n ≤ k
/-- What the call leaves. -/
def RetNear (w : World) (X : List Rn) (e : Ending) (w' : World) : Prop :=
  e = .returned (.map (some w.heap.size)) ∧ Below w.heap.size w w' ∧ ∃ (F : Int → Option Nat) (n : Nat), Nears X F ∧ (∀ k i, F k = some i → ∃ x, X[i]? = some x ∧ i < X.length) ∧ MapN w' w.heap.size n F
theorem below_turned {B : Nat} {w w1 w2 : World} {b : Nat} (h : Below B w w1) (t : w1.mapTurned w2 b) (hb : B ≤ b) (hB : B ≤ w1.heap.size) : Below B w w2 :=
  h.grown t.grown hB (fun k hk => by simp at hk; omega)

set_option maxHeartbeats 12800000 in
theorem nears_any (A : Option Addr) (c : Nat) (X : List Rn) (w : World) (h : RunsAt w A X) (hw : ∀ x ∈ X, (Lit.int .u32 x.near).wf = true) (hl : X.length ≤ 1000000) :
    Calls Try.prog 28 #[.slice A X.length c] w (RetNear w X) := by
  have HS := Lib.hid h; have HW := Lib.hid hw
  have HB0 := Lib.hid ((Below.refl w.heap.size w).alloc (Nat.le_refl _) (.map #[] 0))
  have HM0 := Lib.hid (MapN.made w)
  clear h hw
  have hmm := @run_makeMap Try.prog
  go_enter Try.func28, Try.ntmps28
  go_wp2_with fail
  clear hmm
  go_loopw [4, 12] (fun v i wr => NearRel w X v i wr) (fun _ i _ => X.length - (intOf i).toNat)
  case atStart => exact ⟨HB0.out, 0, 0, 0, _, Nat.zero_le _, rfl, rfl, NInv.zero X, HM0.out, Nat.le_refl _⟩
  case round =>
    obtain ⟨hbr, k, f, n, F, hk, rfl, rfl, hI, hM, hn⟩ := hrel
    clear HB0 HM0
    by_cases hlt : k < X.length
    · obtain ⟨x, hx⟩ : ∃ x, X[k]? = some x := ⟨_, List.getElem?_eq_getElem hlt⟩
      obtain ⟨xf, hf, hfl⟩ := hI.first hx
      obtain ⟨b, off, rfl, hb, hat⟩ := HS.out.at hx
      have HAT := Lib.hid (fun (j : Nat) (x : Rn) (hj : X[j]? = some x) => (hat j x hj).below hbr hb)
      have HX := Lib.hid hx; have HF := Lib.hid hf; have HI := Lib.hid hI; have HM := Lib.hid hM; have HBR := Lib.hid hbr; have HLT := Lib.hid hlt; have HN := Lib.hid hn
      have HV := Lib.hid (show n < maxLen by unfold maxLen; omega)
      have near : wr.cell? ⟨b, off + k * 10, none⟩ = some (.int .u32 x.near) := (HAT.out k x hx).1
      have HWF := Lib.hid (HW.out x (List.mem_of_getElem? hx))
      have HI6 := Lib.hid (show k ≤ 1000000 by omega)
      have Q0 := fun n => Lib.hid (compare03 b (off + k * 10) b (off + f * 10) x xf (wr.drewN n) ((HAT.out k x hx).drewN n) ((HAT.out f xf hf).drewN n))
      have HC := Lib.hid (lexP_pre x xf)
      obtain ⟨p, hp⟩ : ∃ p, p = lexP x xf 0 3 := ⟨_, rfl⟩
      have hpw := lexP_ways x xf 0 3
      rw [← hp] at hpw HC
      rw [← hp] at Q0
      clear hx hf hI hM hbr hn hat hp
      rcases hpw with rfl | rfl | rfl
      · have HP := Lib.hid (HC.out.1.1 rfl)
        clear HC
        go_wp2_with fail
        go_quiet ((go_at_call 25; exact Calls.quiet_of (Q0 _).out))
        go_wp2_with (refine wpList_clearN _ rfl (.tmp 27) rfl w.heap.size n F rfl (HM.out.drewN _) ?_)
        intro w1 hm1 ht1
        have HB1 := Lib.hid (below_turned (below_drewN HBR.out _) ht1 (Nat.le_refl _) HBR.out.size)
        have HM1 := Lib.hid hm1
        have hlook := hm1.look HWF.out
        have near1 : w1.cell? ⟨b, off + k * 10, none⟩ = some (.int .u32 x.near) := ht1.grown.cell near (by simp; omega)
        clear hm1 ht1 HM HBR near Q0
        simp only [Option.getD_none, Option.isSome_none] at hlook
        go_wp2_with fail
        go_quiet (fail)
        go_wp2_with (at_mapUpdate; refine wpList_putN _ rfl (.tmp 50) (.tmp 55) (.tmp 56) rfl w.heap.size 0 _ rfl (HM1.out.drewN _) (by unfold maxLen; omega) x.near rfl HWF.out k rfl HI6.out ?_)
        intro w2 hm2 ht2
        have HB2 := Lib.hid (below_turned (below_drewN HB1.out _) ht2 (Nat.le_refl _) HB1.out.size)
        have HM2 := Lib.hid hm2
        clear hm2 ht2 HM1 HB1 near1 hlook
        go_wp2_with fail
        go_roundw
        case rel => exact ⟨HB2.out, k + 1, k, 1, _, HLT.out, by go_num, rfl, HI.out.better HX.out HF.out HP.out, HM2.out, by omega⟩
        case measure => have := HLT.out; simp [intOf]; omega
      · have HP1 := Lib.hid (fun q => absurd (HC.out.1.2 q) (by decide) : ¬ preLt x xf)
        have HP2 := Lib.hid (fun q => absurd (HC.out.2.2 q) (by decide) : ¬ preLt xf x)
        clear HC
        cases hFn : F x.near with
        | none =>
          have HFN := Lib.hid hFn
          clear hFn
          have hlook : ∀ m, (Instr.lookup 59 (.map (some w.heap.size)) (.int .u32 x.near) true).run Try.prog (wr.drewN m) = .ok (.tuple #[.int .i64 0, .bool false]) (wr.drewN m) := fun m => by
            have := (HM.out.drewN m).look HWF.out
            rw [HFN.out] at this
            exact this
          go_wp2_with fail
          go_quiet ((go_at_call 25; exact Calls.quiet_of (Q0 _).out))
          go_wp2_with fail
          go_quiet (fail)
          go_wp2_with (at_mapUpdate; refine wpList_putN _ rfl (.tmp 50) (.tmp 55) (.tmp 56) rfl w.heap.size n F rfl (HM.out.drewN _) HV.out x.near rfl HWF.out k rfl HI6.out ?_)
          intro w2 hm2 ht2
          have HB2 := Lib.hid (below_turned (below_drewN HBR.out _) ht2 (Nat.le_refl _) HBR.out.size)
          have HM2 := Lib.hid hm2
          clear hm2 ht2 HM HBR near hlook
          go_wp2_with fail
          go_roundw
          case rel => exact ⟨HB2.out, k + 1, f, n + 1, _, HLT.out, by go_num, rfl, HI.out.new HX.out HF.out HP1.out HP2.out HFN.out, HM2.out, by have := HN.out; omega⟩
          case measure => have := HLT.out; simp [intOf]; omega
        | some v =>
          obtain ⟨g, hg, hgl⟩ := HI.out.val hFn
          have HFN := Lib.hid hFn
          have HG := Lib.hid hg
          have hlook : ∀ m, (Instr.lookup 59 (.map (some w.heap.size)) (.int .u32 x.near) true).run Try.prog (wr.drewN m) = .ok (.tuple #[.int .i64 (v : Int), .bool true]) (wr.drewN m) := fun m => by
            have := (HM.out.drewN m).look HWF.out
            rw [HFN.out] at this
            exact this
          have Q1 := fun n => Lib.hid (compare39 b (off + k * 10) b (off + v * 10) x g (wr.drewN n) ((HAT.out k x HX.out).drewN n) ((HAT.out v g hg).drewN n))
          have HC := Lib.hid (lexP_med x g)
          obtain ⟨p, hp⟩ : ∃ p, p = lexP x g 3 9 := ⟨_, rfl⟩
          rw [← hp] at HC
          rw [← hp] at Q1
          have hpw := lexP_ways x g 3 9
          rw [← hp] at hpw
          clear hFn hg hp
          rcases hpw with rfl | rfl | rfl
          · have HD := Lib.hid (HC.out.1 rfl)
            clear HC
            go_wp2_with fail
            go_quiet ((go_at_call 25; exact Calls.quiet_of (Q0 _).out))
            go_wp2_with fail
            go_quiet ((go_at_call 25; first | exact quiet_add (Q1 _).out | exact Calls.quiet_of (Q1 _).out))
            go_wp2_with (at_mapUpdate; refine wpList_putN _ rfl (.tmp 50) (.tmp 55) (.tmp 56) rfl w.heap.size n F rfl (HM.out.drewN _) HV.out x.near rfl HWF.out k rfl HI6.out ?_)
            intro w2 hm2 ht2
            have HB2 := Lib.hid (below_turned (below_drewN HBR.out _) ht2 (Nat.le_refl _) HBR.out.size)
            have HM2 := Lib.hid hm2
            clear hm2 ht2 HM HBR near hlook
            go_wp2_with fail
            go_roundw
            case rel => exact ⟨HB2.out, k + 1, f, n + 1, _, HLT.out, by go_num, rfl, HI.out.take HX.out HF.out HP1.out HP2.out HFN.out HG.out HD.out, HM2.out, by have := HN.out; omega⟩
            case measure => have := HLT.out; simp [intOf]; omega
          · have hne : Hid (((0 : Int) = -1) ↔ medLt x g) → ¬ medLt x g := fun h q => absurd (h.out.2 q) (by decide)
            have HD := Lib.hid (hne HC)
            clear HC hne
            go_wp2_with fail
            go_quiet ((go_at_call 25; exact Calls.quiet_of (Q0 _).out))
            go_wp2_with fail
            go_quiet ((go_at_call 25; first | exact quiet_add (Q1 _).out | exact Calls.quiet_of (Q1 _).out))
            go_wp2_with fail
            go_roundw
            case rel => exact ⟨below_drewN HBR.out _, k + 1, f, n, F, HLT.out, by go_num, rfl, HI.out.leave HX.out HF.out HP1.out HP2.out HFN.out HG.out HD.out, HM.out.drewN _, by have := HN.out; omega⟩
            case measure => have := HLT.out; simp [intOf]; omega
          · have hne : Hid (((1 : Int) = -1) ↔ medLt x g) → ¬ medLt x g := fun h q => absurd (h.out.2 q) (by decide)
            have HD := Lib.hid (hne HC)
            clear HC hne
            go_wp2_with fail
            go_quiet ((go_at_call 25; exact Calls.quiet_of (Q0 _).out))
            go_wp2_with fail
            go_quiet ((go_at_call 25; first | exact quiet_add (Q1 _).out | exact Calls.quiet_of (Q1 _).out))
            go_wp2_with fail
            go_roundw
            case rel => exact ⟨below_drewN HBR.out _, k + 1, f, n, F, HLT.out, by go_num, rfl, HI.out.leave HX.out HF.out HP1.out HP2.out HFN.out HG.out HD.out, HM.out.drewN _, by have := HN.out; omega⟩
            case measure => have := HLT.out; simp [intOf]; omega
      · have HP := Lib.hid (HC.out.2.1 rfl)
        clear HC
        go_wp2_with fail
        go_quiet ((go_at_call 25; exact Calls.quiet_of (Q0 _).out))
        go_wp2_with fail
        go_roundw
        case rel => exact ⟨below_drewN HBR.out _, k + 1, f, n, F, HLT.out, by go_num, rfl, HI.out.worse HX.out HF.out HP.out, HM.out.drewN _, by have := HN.out; omega⟩
        case measure => have := HLT.out; simp [intOf]; omega
    · obtain rfl : k = X.length := by omega
      have HFI := Lib.hid hI.fin
      have HVA := Lib.hid (fun (k : Int) (i : Nat) (h : F k = some i) => hI.val h)
      clear hI
      go_wp2_with fail
      go_ret
      exact ⟨rfl, hbr, F, n, HFI.out, HVA.out, hM⟩
end Go.Proofs.Ytpjhidicgclmbaa

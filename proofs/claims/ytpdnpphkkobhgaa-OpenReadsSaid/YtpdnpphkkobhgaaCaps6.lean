/-
  A parameter's capabilities, by the code.
-/
import Derived.Test.YtpdnpphkkobhgaaCapsF6
namespace Go.Proofs.Ytpdnpphkkobhgaa
set_option linter.unusedVariables false
open Go.RowKit

def lenOf : Value → Nat
  | .slice _ n _ => n
  | _ => 0
/-- A world's first blocks. -/
def cutW (w : World) (n : Nat) : World := { w with heap := w.heap.extract 0 n }
theorem cutW_size {w : World} {n : Nat} (h : n ≤ w.heap.size) : (cutW w n).heap.size = n := by simp [cutW]; omega
theorem cutW_below {w : World} {n : Nat} (h : n ≤ w.heap.size) : Below n (cutW w n) w := by
  refine ⟨rfl, rfl, rfl, by rw [cutW_size h]; exact h, fun k hk => ?_⟩
  simp only [cutW]
  rw [Array.getElem?_extract]
  simp
  intro h1
  omega
/-- A capability of the call's own. -/
def CpOk (w : World) (B : Nat) (s : Cp) : Prop := DX w B s ∧ s.data.length ≤ s.cap ∧ s.cap ≤ maxLen
/-- What a list of capabilities that a call read is. -/
def RetCaps (w : World) (o : Option (List (Int × List UInt8))) (e : Ending) (w' : World) : Prop :=
  Below w.heap.size w w' ∧ ((o = none ∧ e = .returned (.tuple #[.slice none 0 0, .bool false])) ∨
   ∃ A c M, o = some (M.map Cp.abs) ∧ e = .returned (.tuple #[.slice A M.length c, .bool true]) ∧ M.length ≤ c ∧ c ≤ maxLen ∧ OwnC w' w.heap.size (.slice A M.length c) M ∧ ∀ s ∈ M, CpOk w' w.heap.size s)
def CapRel (w : World) (l : List UInt8) (B : Nat) (v : Value) (wr : World) : Prop :=
  Below w.heap.size w wr ∧ w.heap.size < B ∧ B ≤ wr.heap.size ∧ ∃ (M : List Cp) (R : List UInt8), CapInv l (M.map Cp.abs) R ∧ Rd wr w.heap.size w.heap.size R false ∧ OwnC wr B v M ∧ ∀ s ∈ M, CpOk wr B s
theorem caps_more {w w2 w3 w4 : World} {l R : List UInt8} {B c : Nat} {v v' : Value} {M : List Cp} {A : Option Addr} (hb2 : Below w.heap.size w w2) (hB : w.heap.size < B) (hBs : B ≤ w2.heap.size) (hi : CapInv l (M.map Cp.abs) R) (ho : OwnC w2 B v M) (hc : ∀ s ∈ M, CpOk w2 B s)
    (hr : R ≠ []) (hbad : (nextP R false).bad = false) (h1 : (nextP R false).val.length ≤ c) (h2 : c ≤ maxLen) (hv : Own w3 w2.heap.size 5 (.slice A (nextP R false).val.length c) (nextP R false).val) (hrd : Rd w3 w.heap.size w.heap.size (nextP R false).rest false) (hg : w2.grownBy w3 (some w.heap.size))
    (ho4 : w4.ownsRow B 54 2 v' (M.length + 1) (flatC M ++ Cp.two ⟨((nextP R false).kind : Int), A, c, (nextP R false).val⟩)) (hg4 : w3.grownBy w4 v.ownBlock) : CapRel w l B v' w4 := by
  have hO3 : OwnC w3 B v M := ho.beside hg hB
  have hb3 : Below w.heap.size w w3 := hb2.grown hg hb2.size (fun i hi => by cases hi; exact Nat.le_refl _)
  have hlt := fun i hi => (OwnC.lt hO3 (k := i) hi).1
  refine ⟨hb3.grown hg4 hb3.size (fun i hi => by have := hlt i hi; omega), hB, Nat.le_trans hBs (Nat.le_trans hg.size hg4.size), M ++ [⟨((nextP R false).kind : Int), A, c, (nextP R false).val⟩], (nextP R false).rest, ?_, ?_, OwnC.push ho4, ?_⟩
  · rw [List.map_append]
    exact hi.more hr hbad
  · cases hv4 : v.ownBlock with
    | none =>
      rw [hv4] at hg4
      exact hrd.below ⟨hg4.os, hg4.tape, hg4.output, hg4.size, fun k hk => hg4.block k hk (by simp)⟩ hrd.lt
    | some i =>
      rw [hv4] at hg4
      have := hlt i hv4
      exact hrd.grown hg4 (by omega) (by omega)
  · intro s hs
    rcases List.mem_append.1 hs with h | h
    · exact ⟨((hc s h).1.grown hg hB).row hO3 hg4, (hc s h).2⟩
    · rw [List.mem_singleton.1 h]
      exact ⟨((DX.own hv).lower hBs).row hO3 hg4, h1, h2⟩

set_option maxHeartbeats 6400000 in
theorem readCaps_any (A : Option Addr) (n c : Nat) (l : List UInt8) (hn : n = l.length) (w : World) (h : Bytes w A l) (h1 : l.length ≤ c) (h2 : c ≤ maxLen) (hl : l.length ≤ 1000000) :
    Calls Try.prog 42 #[.slice A n c] w (RetCaps w (capsP (l.length + 1) l)) := by
  subst hn
  have QN := Lib.hid (New_any A l.length c l rfl w h h1 h2)
  clear h h1 h2
  go_enter Try.func42, Try.ntmps42
  go_wp2_with fail
  refine QN.out.mono ?_
  rintro e w1 ⟨rfl, hrd, hb1⟩
  have HRD := Lib.hid hrd; have HB1 := Lib.hid hb1
  clear hrd hb1 QN
  go_wp2_with fail
  go_loopw [4] (fun v wr => CapRel w l w1.heap.size v wr) (fun v _ => l.length + 1 - lenOf v)
  case atStart => exact ⟨HB1.out, HRD.out.lt, Nat.le_refl _, [], l, CapInv.start l, HRD.out, OwnC.nil _ _, fun s hs => by cases hs⟩
  case round =>
    obtain ⟨hbr, hB, hBs, M, R, hi, hrd, ho, hc⟩ := hrel
    obtain ⟨Av, cv, rfl, fv, gv⟩ := ho.form
    have hM := hi.1
    rw [List.length_map] at hM
    have HI := Lib.hid hi; have HR := Lib.hid hrd; have HO := Lib.hid ho; have HC := Lib.hid hc; have HBR := Lib.hid hbr; have HB := Lib.hid hB; have HBS := Lib.hid hBs; have HFV := Lib.hid (And.intro fv gv)
    clear hi hrd ho hc hbr hB hBs fv gv HRD HB1
    by_cases hr : R = []
    · subst hr
      go_wp2_with fail
      refine (Left_any _ _ [] false _ HR.out).mono ?_
      rintro e w2 ⟨rfl, rfl⟩
      go_wp2_with fail
      exact bodyPost_ret (v := .tuple #[.slice Av M.length cv, .bool true]) (by simp [results, Try.results42, go_sem]) rfl ⟨HBR.out, .inr ⟨Av, cv, M, HI.out.fin, rfl, HFV.out.1, HFV.out.2, HO.out.lower (Nat.le_of_lt HB.out), fun s hs => ⟨(HC.out s hs).1.lower (Nat.le_of_lt HB.out), (HC.out s hs).2⟩⟩⟩
    · have hp : 0 < R.length := List.length_pos_iff.2 hr
      have hpI : (0 : Int) < (R.length : Int) := by omega
      have QX := Lib.hid (next6_any _ _ R false _ HR.out (by omega))
      have HNE := Lib.hid hr
      clear hr
      cases hbad : (nextP R false).bad with
      | true =>
        have HBD := Lib.hid hbad
        unfold PartPost at QX
        rw [hbad] at QX
        clear hbad
        go_wp2_with fail
        refine (Left_any _ _ R false _ HR.out).mono ?_
        rintro e w2 ⟨rfl, rfl⟩
        go_wp2_with fail
        refine QX.out.mono ?_
        rintro e w2 ⟨A3, c3, rfl, f3, g3, ho3, hr3, hg3⟩
        have HG3 := Lib.hid (HBR.out.grown hg3 HBR.out.size (fun i hi => by cases hi; exact Nat.le_refl _))
        clear f3 g3 ho3 hr3 hg3
        go_wp2_with fail
        exact bodyPost_ret (v := .tuple #[.slice none 0 0, .bool false]) (by simp [results, Try.results42, go_sem]) rfl ⟨HG3.out, .inl ⟨HI.out.bad HNE.out HBD.out, rfl⟩⟩
      | false =>
        have HBD := Lib.hid hbad
        unfold PartPost at QX
        rw [hbad] at QX
        clear hbad
        obtain ⟨X, hX⟩ : ∃ X, X = nextP R false := ⟨_, rfl⟩
        rw [← hX] at QX HBD
        have HX := Lib.hid hX
        clear hX
        go_wp2_with fail
        refine (Left_any _ _ R false _ HR.out).mono ?_
        rintro e w2 ⟨rfl, rfl⟩
        go_wp2_with fail
        refine QX.out.mono ?_
        rintro e w3 ⟨A3, c3, rfl, f3, g3, ho3, hr3, hg3⟩
        have hs3 := Nat.le_trans HBS.out hg3.size
        have HSZ := Lib.hid (show (M.length + 1) * 32 ≤ 140737488355328 by omega)
        have HBB := Lib.hid (show Below (cutW w3 w1.heap.size).heap.size (cutW w3 w1.heap.size) w3 by rw [cutW_size hs3]; exact cutW_below hs3)
        have HSE := Lib.hid (cutW_size hs3)
        have HO3 := Lib.hid (HO.out.beside hg3 HB.out)
        have HP := Lib.hid (And.intro f3 (And.intro g3 (And.intro ho3 (And.intro hr3 hg3))))
        clear f3 g3 ho3 hr3 hg3 hs3
        go_wp2_with (at_builtin; refine wpList_app_one isCap rfl (.tmp 22) (.tmp 26) rfl (cutW w3 w1.heap.size) _ M.length (flatC M) rfl w3 (Cp.two ⟨(X.kind : Int), A3, c3, X.val⟩) rfl (by rw [HSE.out]; exact HO3.out) rfl rfl (twoC_one _) HSZ.out HBB.out ?_)
        intro v' w4 hown4 hg4 hb4
        rw [HSE.out] at hown4
        have hfo : lenOf v' = M.length + 1 := by
          rcases hown4.2 with ⟨rfl, hn⟩ | ⟨g', cap, cur, rfl, _⟩
          · omega
          · rfl
        have HFI := Lib.hid (show CapRel w l w1.heap.size v' w4 from by
          have hx := HX.out
          subst hx
          obtain ⟨p1, p2, p3, p4, p5⟩ := HP.out
          exact caps_more HBR.out HB.out HBS.out HI.out HO.out HC.out HNE.out HBD.out p1 p2 p3 p4 p5 hown4 hg4)
        clear hown4 hg4 hb4
        go_wp2_with fail
        go_roundw
        case rel => exact HFI.out
        case measure =>
          show l.length + 1 - lenOf v' < l.length + 1 - M.length
          rw [hfo]
          omega
end Go.Proofs.Ytpdnpphkkobhgaa

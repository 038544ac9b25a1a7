/-
  The OPEN of a body, by the code.
-/
import Derived.Test.YtpdnpphkkobhgaaReadH6
import Derived.Test.YtpdnpphkkobhgaaCaps6
import Derived.Test.YtpdnpphkkobhgaaFault6
import Derived.Test.YtpdnpphkkobhgaaU16
import Derived.Test.YtpdnpphkkobhgaaU32
import Derived.Test.YtpdnpphkkobhgaaMine6
import Derived.Test.YtpdnpphkkobhgaaReadM6
namespace Go.Proofs.Ytpdnpphkkobhgaa
set_option linter.unusedVariables false
set_option linter.unusedSimpArgs false
open Go.RowKit

/-- How many bytes a reader has left. -/
def lenAt (w : World) (g : Nat) : Nat := match w.cell? ⟨g, 0, none⟩ with
  | some (.slice _ n _) => n
  | _ => 0
theorem lenAt_rd {w : World} {B g : Nat} {l : List UInt8} {s : Bool} (h : Rd w B g l s) : lenAt w g = l.length := by
  obtain ⟨_, A, c, hk, _⟩ := h
  unfold lenAt
  rw [hk.cell 0]
  rfl
theorem flatC_one (M : List Cp) : ∀ u ∈ flatC M, u.oneCell' = true := by
  intro u hu
  obtain ⟨s, _, hs⟩ := List.mem_flatMap.1 hu
  exact twoC_one s u hs
def retR (a b c d : Int) (v : Value) (f u : Int) : Value := .tuple #[.agg #[.int .i64 a, .int .i64 b, .int .i64 c, .int .u32 d, v], .agg #[.int .i64 f, .int .i64 u, .slice none 0 0]]
/-- What a call leaves that read an OPEN. -/
def RetRead (w : World) (x : Except Nat Op) (e : Ending) (w' : World) : Prop :=
  Below w.heap.size w w' ∧ ((∃ u : Nat, x = .error u ∧ e = .returned (retR 0 0 0 0 (.slice none 0 0) 2 (u : Int))) ∨
   ∃ o A c M, x = .ok o ∧ o.caps = M.map Cp.abs ∧ e = .returned (retR o.ver o.sys o.hold o.id (.slice A M.length c) 0 0) ∧ CpIn w' w'.heap.size A M ∧ M.length ≤ c ∧ c ≤ maxLen ∧ ∀ s ∈ M, s.data.length ≤ s.cap ∧ s.cap ≤ maxLen)

set_option maxRecDepth 100000 in
set_option maxHeartbeats 12800000 in
theorem Read6_any (A : Option Addr) (n c : Nat) (l : List UInt8) (hn : n = l.length) (w : World) (h : Bytes w A l) (h1 : l.length ≤ c) (h2 : c ≤ maxLen) (hl : l.length ≤ 1000000) :
    Calls Try.prog 12 #[.slice A n c] w (RetRead w (readF l)) := by
  subst hn
  have b0 := (Below.refl w.heap.size w).alloc (Nat.le_refl _) (.cells #[.int .i64 0, .int .i64 0, .int .i64 0, .int .u32 0, .slice none 0 0] 25)
  have hz : (w.alloc (.cells #[.int .i64 0, .int .i64 0, .int .i64 0, .int .u32 0, .slice none 0 0] 25)).heap.size = w.heap.size + 1 := by simp
  have k2 := Blk.new w 25 [.int .i64 0, .int .i64 0, .int .i64 0, .int .u32 0, .slice none 0 0]
  have k3 := Blk.new (w.alloc (.cells #[.int .i64 0, .int .i64 0, .int .i64 0, .int .u32 0, .slice none 0 0] 25)) 36 [.int .i64 0, .int .i64 0, .slice none 0 0]
  rw [hz] at k3
  have b1 := b0.alloc (by simp) (.cells #[.int .i64 0, .int .i64 0, .slice none 0 0] 36)
  have k2' := k2.below ((Below.refl _ _).alloc (Nat.le_refl _) (.cells #[.int .i64 0, .int .i64 0, .slice none 0 0] 36)) k2.lt
  have hz2 : ((w.alloc (.cells #[.int .i64 0, .int .i64 0, .int .i64 0, .int .u32 0, .slice none 0 0] 25)).alloc (.cells #[.int .i64 0, .int .i64 0, .slice none 0 0] 36)).heap.size = w.heap.size + 2 := by simp
  have q := New_any A l.length c l rfl _ (h.below b1) h1 h2
  rw [hz2] at q
  have QN := Lib.hid q; have HB1 := Lib.hid b1; have HK2 := Lib.hid k2'; have HK3 := Lib.hid k3; have HZ := Lib.hid hz2
  clear h h1 h2 b0 hz k2 k3 b1 k2' hz2 q
  go_enter Try.func12, Try.ntmps12
  go_wp2_with fail
  refine QN.out.mono ?_
  rintro e w1 ⟨rfl, hrd, hb1⟩
  rw [← HZ.out] at hb1
  have HRD := Lib.hid hrd
  have HBW := Lib.hid (HB1.out.trans (hb1.mono HB1.out.size))
  have HK2a := Lib.hid (HK2.out.below hb1 HK2.out.lt)
  have HK3a := Lib.hid (HK3.out.below hb1 HK3.out.lt)
  clear hrd hb1 QN
  have Q1 := Lib.hid (fun W (hr : Rd W (w.heap.size + 2) (w.heap.size + 2) l false) => Byte_any _ _ l false W hr)
  have Q2 := Lib.hid (fun W (hr : Rd W (w.heap.size + 2) (w.heap.size + 2) (t1 l).2.1 (t1 l).2.2) => U16_any _ _ _ _ W hr)
  have Q3 := Lib.hid (fun W (hr : Rd W (w.heap.size + 2) (w.heap.size + 2) (t2 l).2.1 (t2 l).2.2) => U16_any _ _ _ _ W hr)
  have Q4 := Lib.hid (fun W (hr : Rd W (w.heap.size + 2) (w.heap.size + 2) (t3 l).2.1 (t3 l).2.2) => U32_any _ _ _ _ W hr)
  have Q5 := Lib.hid (fun W (hr : Rd W (w.heap.size + 2) (w.heap.size + 2) (t4 l).2.1 (t4 l).2.2) => Byte_any _ _ _ _ W hr)
  go_wp2_with fail
  refine (Q1.out _ HRD.out).mono ?_
  rintro e w2 ⟨rfl, hr, hg1⟩
  have HR1 := Lib.hid (show Rd w2 (w.heap.size + 2) (w.heap.size + 2) (t1 l).2.1 (t1 l).2.2 from hr)
  obtain ⟨n1, e1⟩ : ∃ n, n = num (rdTake l false 1).1 := ⟨_, rfl⟩
  rw [← e1]
  have HE1 := Lib.hid e1; have HG1 := Lib.hid hg1
  clear hr e1 hg1
  go_wp2_with fail
  refine (Q2.out _ HR1.out).mono ?_
  rintro e w3 ⟨rfl, hr, hg2⟩
  have HR2 := Lib.hid (show Rd w3 (w.heap.size + 2) (w.heap.size + 2) (t2 l).2.1 (t2 l).2.2 from hr)
  obtain ⟨n2, e2⟩ : ∃ n, n = num (rdTake (t1 l).2.1 (t1 l).2.2 2).1 := ⟨_, rfl⟩
  rw [← e2]
  have HE2 := Lib.hid e2; have HG2 := Lib.hid (grown_trans HG1.out hg2)
  clear hr e2 hg2
  go_wp2_with fail
  refine (Q3.out _ HR2.out).mono ?_
  rintro e w4 ⟨rfl, hr, hg3⟩
  have HR3 := Lib.hid (show Rd w4 (w.heap.size + 2) (w.heap.size + 2) (t3 l).2.1 (t3 l).2.2 from hr)
  obtain ⟨n3, e3⟩ : ∃ n, n = num (rdTake (t2 l).2.1 (t2 l).2.2 2).1 := ⟨_, rfl⟩
  rw [← e3]
  have HE3 := Lib.hid e3; have HG3 := Lib.hid (grown_trans HG2.out hg3)
  clear hr e3 hg3
  go_wp2_with fail
  refine (Q4.out _ HR3.out).mono ?_
  rintro e w5 ⟨rfl, hr, hg4⟩
  have HR4 := Lib.hid (show Rd w5 (w.heap.size + 2) (w.heap.size + 2) (t4 l).2.1 (t4 l).2.2 from hr)
  obtain ⟨n4, e4⟩ : ∃ n, n = num (rdTake (t3 l).2.1 (t3 l).2.2 4).1 := ⟨_, rfl⟩
  rw [← e4]
  have HE4 := Lib.hid e4; have HG4 := Lib.hid (grown_trans HG3.out hg4)
  clear hr e4 hg4
  go_wp2_with fail
  obtain ⟨W6, hW6⟩ : ∃ W6, W6 = w5.alloc (.cells #[.int .i64 (n1 : Int), .int .i64 (n2 : Int), .int .i64 (n3 : Int), .int .u32 (n4 : Int), .slice none 0 0] 25) := ⟨_, rfl⟩
  have hb6 : Below w5.heap.size w5 W6 := by rw [hW6]; exact (Below.refl _ _).alloc (Nat.le_refl _) _
  have k8 : Blk W6 w5.heap.size 25 [.int .i64 (n1 : Int), .int .i64 (n2 : Int), .int .i64 (n3 : Int), .int .u32 (n4 : Int), .slice none 0 0] := by rw [hW6]; exact Blk.new w5 _ _
  have hs6 : W6.heap.size = w5.heap.size + 1 := by rw [hW6]; simp
  have hlt5 := HR4.out.lt
  have hs1 : w.heap.size + 2 ≤ w1.heap.size := by have := HBW.out.size; have := HK3a.out.lt; have := HRD.out.lt; omega
  have hs5 : w1.heap.size ≤ w5.heap.size := HG4.out.size
  have g6 : w1.grownBy W6 (some (w.heap.size + 2)) := grown_trans HG4.out ⟨hb6.os, hb6.tape, hb6.output, hb6.size, fun k hk _ => hb6.block k hk⟩
  have HR6 := Lib.hid (HR4.out.below hb6 HR4.out.lt)
  rw [← hW6]
  refine (Q5.out _ HR6.out).mono ?_
  rintro e w7 ⟨rfl, hr, hg5⟩
  have HR5 := Lib.hid (show Rd w7 (w.heap.size + 2) (w.heap.size + 2) (t5 l).2.1 (t5 l).2.2 from hr)
  have g7 := grown_trans g6 hg5
  have K8 := Lib.hid (k8.grown hg5 (by omega))
  have K2 := Lib.hid (HK2a.out.grown g7 (by omega))
  have K3 := Lib.hid (HK3a.out.grown g7 (by omega))
  have B7 := Lib.hid (HBW.out.grown g7 HBW.out.size (fun k hk => by cases hk; omega))
  have HT := Lib.hid (And.intro hlt5 (And.intro hs6 (And.intro hg5.size hs5)))
  obtain ⟨n5, e5⟩ : ∃ n, n = num (rdTake (t4 l).2.1 (t4 l).2.2 1).1 := ⟨_, rfl⟩
  rw [← e5]
  have HE5 := Lib.hid (show n5 = num (t5 l).1 from e5)
  clear hr e5 hg5 g6 g7 hb6 k8 hs6 hlt5 hs1 hs5 hW6
  by_cases hlen : l.length < 10
  · have HF := Lib.hid (show readF l = .error 0 from if_pos (.inl hlen))
    have hbad := head_bad hlen
    have QE := Lib.hid (Err_any _ _ _ _ _ HR5.out)
    rw [hbad] at QE
    rw [show errN true = 3 from rfl] at QE
    clear hbad hlen
    go_wp2_with fail
    refine QE.out.mono ?_
    rintro e wx ⟨rfl, rfl⟩
    go_wp2_with fail
    refine (fault6_any 0 none 0 0 _).mono ?_
    rintro e w8 ⟨rfl, hb8⟩
    have k2 := K2.out.below hb8 K2.out.lt
    have k3 := K3.out.below hb8 K3.out.lt
    have HBB := Lib.hid (below_set3' (g := w.heap.size + 1) (u := .int .i64 2) (v := .int .i64 0) (x := .slice none 0 0) (below5 (g := w.heap.size) (a := .int .i64 0) (b := .int .i64 0) (c := .int .i64 0) (d := .int .u32 0) (e := .slice none 0 0) (B7.out.trans (hb8.mono B7.out.size)) (Nat.le_refl _)) (Nat.le_succ _))
    have c2 := cells5 k2
    have f2 := free5 k2
    have k2s := k2.set5 (.int .i64 0) (.int .i64 0) (.int .i64 0) (.int .u32 0) (.slice none 0 0)
    have k3s := k3.grown (grown_set5 w8 w.heap.size (.int .i64 0) (.int .i64 0) (.int .i64 0) (.int .u32 0) (.slice none 0 0)) (by omega)
    have c3 := cells3 k3s
    have f3 := free3 k3s
    have k3t := k3s.set3 (.int .i64 2) (.int .i64 0) (.slice none 0 0)
    have k2t := k2s.grown (grown_set3 _ (w.heap.size + 1) (.int .i64 2) (.int .i64 0) (.slice none 0 0)) (by omega)
    have r2 := cells5 k2t
    have r3 := cells3 k3t
    clear hb8 k2 k3 k2s k3s k3t k2t
    go_wp2_with fail
    exact bodyPost_ret (v := retR 0 0 0 0 (.slice none 0 0) 2 0) (by simp [results, Try.results12, go_sem, retR, r2, r3]) rfl ⟨HBB.out, .inl ⟨0, HF.out, rfl⟩⟩
  · have hlen' : 10 ≤ l.length := by omega
    obtain ⟨h1, h2, h3, h4, h5⟩ := head_ok hlen'
    have hr5 := HR5.out
    rw [h5] at hr5
    have hn1 : n1 = num (l.take 1) := by rw [HE1.out, show rdTake l false 1 = t1 l from rfl, h1]
    have hn2 : n2 = num ((l.drop 1).take 2) := by rw [HE2.out, show rdTake (t1 l).2.1 (t1 l).2.2 2 = t2 l from rfl, h2]
    have hn3 : n3 = num ((l.drop 3).take 2) := by rw [HE3.out, show rdTake (t2 l).2.1 (t2 l).2.2 2 = t3 l from rfl, h3]
    have hn4 : n4 = num ((l.drop 5).take 4) := by rw [HE4.out, show rdTake (t3 l).2.1 (t3 l).2.2 4 = t4 l from rfl, h4]
    have hn5 : n5 = (l.getD 9 0).toNat := by rw [HE5.out, h5]; exact num_one l hlen'
    obtain ⟨R0, hR0⟩ : ∃ R0, R0 = l.drop 10 := ⟨_, rfl⟩
    have hRl : R0.length = l.length - 10 := by rw [hR0]; simp
    dsimp only at hr5
    rw [← hR0] at hr5
    have HR0 := Lib.hid hr5
    have HRF := Lib.hid (show n5 = R0.length → readF l = (match paramP (R0.length + 1) R0 with | .error e => .error e | .ok M => .ok ⟨n1, n2, n3, n4, M⟩) from fun h => by
      unfold readF
      rw [if_neg (by rw [← hn5, ← hRl]; omega), ← hR0, ← hRl, hn1, hn2, hn3, hn4]
      first | done | rfl)
    have HRN := Lib.hid (show n5 ≠ R0.length → readF l = .error 0 from fun h => by
      unfold readF
      rw [if_pos (.inr (by rw [← hn5, ← hRl]; exact h))])
    have HLL := Lib.hid (show R0.length ≤ 1000000 by omega)
    have QE := Lib.hid (Err_any _ _ _ _ _ hr5)
    rw [show errN false = 0 from rfl] at QE
    have QL := Lib.hid (Left_any _ _ _ _ _ hr5)
    clear hr5 h1 h2 h3 h4 h5 hn1 hn2 hn3 hn4 hn5 hR0 hRl hlen hlen'
    by_cases hsz : n5 = R0.length
    · have HRF2 := Lib.hid (HRF.out hsz)
      subst hsz
      go_wp2_with fail
      refine QE.out.mono ?_
      rintro e wx ⟨rfl, rfl⟩
      go_wp2_with fail
      refine QL.out.mono ?_
      rintro e wx ⟨rfl, rfl⟩
      go_wp2_with fail
      go_loopw [10] (fun _ wr => ReadRel w R0 w5.heap.size (n1 : Int) (n2 : Int) (n3 : Int) (n4 : Int) wr) (fun _ wr => lenAt wr (w.heap.size + 2))
      case atStart => exact ⟨B7.out, K2.out, K3.out, by have := HT.out; have := HR5.out.lt; omega, by have := HT.out; omega, 0, [], R0, _, ParInv.start R0, by simp, HR0.out, K8.out, OwnC.nil _ _, fun s hs => by cases hs⟩
      case round =>
        obtain ⟨hbr, hk2, hk3, hT1, hT2, k, M, R, v, hp, hML, hrd, hk8, ho, hc⟩ := hrel
        obtain ⟨Av, cv, rfl, fv, gv⟩ := ho.form
        have BR := Lib.hid hbr; have KR2 := Lib.hid hk2; have KR3 := Lib.hid hk3; have HT1 := Lib.hid hT1; have HT2 := Lib.hid hT2; have HP := Lib.hid hp; have HML := Lib.hid hML; have HRD := Lib.hid hrd; have HK8 := Lib.hid hk8; have HO := Lib.hid ho; have HCM := Lib.hid hc; have HFV := Lib.hid (And.intro fv gv)
        have HLA := Lib.hid (lenAt_rd hrd)
        clear hbr hk2 hk3 hT1 hT2 hp hML hrd hk8 ho hc fv gv QE QL HR5 K2 K3 K8 B7
        have QL := Lib.hid (Left_any _ _ _ _ _ HRD.out)
        by_cases hr : R = []
        · subst hr
          have HF := Lib.hid (show readF l = .ok ⟨n1, n2, n3, n4, M.map Cp.abs⟩ by rw [HRF2.out, HP.out.fin])
          have c8 := cells5 HK8.out
          have c2 := cells5 KR2.out
          have f2 := free5 KR2.out
          have k2s := KR2.out.set5 (.int .i64 (n1 : Int)) (.int .i64 (n2 : Int)) (.int .i64 (n3 : Int)) (.int .u32 (n4 : Int)) (.slice Av M.length cv)
          have k3s := KR3.out.grown (grown_set5 _ w.heap.size (.int .i64 (n1 : Int)) (.int .i64 (n2 : Int)) (.int .i64 (n3 : Int)) (.int .u32 (n4 : Int)) (.slice Av M.length cv)) (by omega)
          have c3 := cells3 k3s
          have f3 := free3 k3s
          have k3t := k3s.set3 (.int .i64 0) (.int .i64 0) (.slice none 0 0)
          have k2t := k2s.grown (grown_set3 _ (w.heap.size + 1) (.int .i64 0) (.int .i64 0) (.slice none 0 0)) (by omega)
          have r2 := cells5 k2t
          have r3 := cells3 k3t
          have HKS := Lib.hid (And.intro k2t k3t)
          clear k2s k3s k3t k2t
          go_wp2_with fail
          refine QL.out.mono ?_
          rintro e wx ⟨rfl, rfl⟩
          go_wp2_with fail
          refine bodyPost_ret (v := retR n1 n2 n3 n4 (.slice Av M.length cv) 0 0) (by simp [results, Try.results12, go_sem, retR, r2, r3]) rfl ⟨below_set3' (below5 BR.out (Nat.le_refl _)) (Nat.le_succ _), .inr ⟨⟨n1, n2, n3, n4, M.map Cp.abs⟩, Av, cv, M, HF.out, rfl, rfl, ?_, HFV.out.1, HFV.out.2, fun s hs => (HCM.out s hs).2⟩⟩
          have ho2 : OwnC _ _ _ M := (HO.out.beside (grown_set5 _ w.heap.size (.int .i64 (n1 : Int)) (.int .i64 (n2 : Int)) (.int .i64 (n3 : Int)) (.int .u32 (n4 : Int)) (.slice Av M.length cv)) (by have := HT1.out; omega)).beside (grown_set3 _ (w.heap.size + 1) (.int .i64 0) (.int .i64 0) (.slice none 0 0)) (by have := HT1.out; omega)
          exact cps_in ho2 fun s hs => ⟨((HCM.out s hs).1.grown (grown_set5 _ w.heap.size (.int .i64 (n1 : Int)) (.int .i64 (n2 : Int)) (.int .i64 (n3 : Int)) (.int .u32 (n4 : Int)) (.slice Av M.length cv)) (by have := HT1.out; omega)).grown (grown_set3 _ (w.heap.size + 1) (.int .i64 0) (.int .i64 0) (.slice none 0 0)) (by have := HT1.out; omega), (HCM.out s hs).2⟩
        · have hp0 : 0 < R.length := List.length_pos_iff.2 hr
          have hpI : (0 : Int) < (R.length : Int) := by omega
          have QX := Lib.hid (next6_any _ _ R false _ HRD.out (by have := HML.out; have := HLL.out; omega))
          have HNE := Lib.hid hr
          clear hr
          cases hbad : (nextP R false).bad with
          | true =>
            have HF := Lib.hid (show readF l = .error 0 by rw [HRF2.out, HP.out.bad HNE.out hbad])
            unfold PartPost at QX
            rw [hbad] at QX
            clear hbad
            go_wp2_with fail
            refine QL.out.mono ?_
            rintro e wx ⟨rfl, rfl⟩
            go_wp2_with fail
            refine QX.out.mono ?_
            rintro e wy ⟨A3, c3, rfl, f3, g3, ho3, hr3, hg3⟩
            have BX := Lib.hid (BR.out.grown hg3 BR.out.size (fun i hi => by cases hi; omega))
            have KX2 := Lib.hid (KR2.out.grown hg3 (by omega))
            have KX3 := Lib.hid (KR3.out.grown hg3 (by omega))
            clear f3 g3 ho3 hr3 hg3
            go_wp2_with fail
            refine (fault6_any 0 none 0 0 _).mono ?_
            rintro e w8 ⟨rfl, hb8⟩
            have k2 := KX2.out.below hb8 KX2.out.lt
            have k3 := KX3.out.below hb8 KX3.out.lt
            have HBB := Lib.hid (below_set3' (g := w.heap.size + 1) (u := .int .i64 2) (v := .int .i64 0) (x := .slice none 0 0) (below5 (g := w.heap.size) (a := .int .i64 0) (b := .int .i64 0) (c := .int .i64 0) (d := .int .u32 0) (e := .slice none 0 0) (BX.out.trans (hb8.mono BX.out.size)) (Nat.le_refl _)) (Nat.le_succ _))
            have c2 := cells5 k2
            have f2 := free5 k2
            have k2s := k2.set5 (.int .i64 0) (.int .i64 0) (.int .i64 0) (.int .u32 0) (.slice none 0 0)
            have k3s := k3.grown (grown_set5 w8 w.heap.size (.int .i64 0) (.int .i64 0) (.int .i64 0) (.int .u32 0) (.slice none 0 0)) (by omega)
            have c3 := cells3 k3s
            have f3 := free3 k3s
            have k3t := k3s.set3 (.int .i64 2) (.int .i64 0) (.slice none 0 0)
            have k2t := k2s.grown (grown_set3 _ (w.heap.size + 1) (.int .i64 2) (.int .i64 0) (.slice none 0 0)) (by omega)
            have r2 := cells5 k2t
            have r3 := cells3 k3t
            clear hb8 k2 k3 k2s k3s k3t k2t
            go_wp2_with fail
            exact bodyPost_ret (v := retR 0 0 0 0 (.slice none 0 0) 2 0) (by simp [results, Try.results12, go_sem, retR, r2, r3]) rfl ⟨HBB.out, .inl ⟨0, HF.out, rfl⟩⟩
          | false =>
            obtain ⟨X, hX⟩ : ∃ X, X = nextP R false := ⟨_, rfl⟩
            unfold PartPost at QX
            rw [hbad] at QX
            have HBD := Lib.hid hbad
            rw [← hX] at QX
            have HXX := Lib.hid hX
            have hlv : X.val.length ≤ 1000000 := by have := next_sum hbad; rw [← hX] at this; have := HML.out; have := HLL.out; omega
            have HLV := Lib.hid hlv
            clear hbad hX hlv
            by_cases hkd : X.kind = 2
            · have hkb : ((X.kind : Int) != 2) = false := by simp [hkd]
              have HKD := Lib.hid hkd
              clear hkd
              go_wp2_with fail
              refine QL.out.mono ?_
              rintro e wx ⟨rfl, rfl⟩
              go_wp2_with fail
              refine QX.out.mono ?_
              rintro e wy ⟨A3, c3, rfl, f3, g3, ho3, hr3, hg3⟩
              have QC := Lib.hid (readCaps_any A3 X.val.length c3 X.val rfl wy ho3.bytes f3 g3 HLV.out)
              unfold RetCaps at QC
              have HG := Lib.hid hg3
              have HR3 := Lib.hid hr3
              clear f3 g3 ho3 hr3 hg3
              go_wp2_with fail
              refine QC.out.mono ?_
              rintro e wz ⟨hb4, ⟨hcN, rfl⟩ | ⟨A4, c4, M4, hcS, rfl, f4, g4, ho4, hc4⟩⟩
              · have HF := Lib.hid (show readF l = .error 0 by
                  have hx := HXX.out
                  subst hx
                  rw [HRF2.out, HP.out.none HNE.out HBD.out HKD.out hcN])
                have BX := Lib.hid ((BR.out.grown HG.out BR.out.size (fun i hi => by cases hi; omega)))
                have BY := Lib.hid (BX.out.trans (hb4.mono BX.out.size))
                have KX2 := KR2.out.grown HG.out (by omega)
                have KX3 := KR3.out.grown HG.out (by omega)
                have KY2 := Lib.hid (KX2.below hb4 KX2.lt)
                have KY3 := Lib.hid (KX3.below hb4 KX3.lt)
                clear hb4 hcN KX2 KX3
                go_wp2_with fail
                refine (fault6_any 0 none 0 0 _).mono ?_
                rintro e w8 ⟨rfl, hb8⟩
                have k2 := KY2.out.below hb8 KY2.out.lt
                have k3 := KY3.out.below hb8 KY3.out.lt
                have HBB := Lib.hid (below_set3' (g := w.heap.size + 1) (u := .int .i64 2) (v := .int .i64 0) (x := .slice none 0 0) (below5 (g := w.heap.size) (a := .int .i64 0) (b := .int .i64 0) (c := .int .i64 0) (d := .int .u32 0) (e := .slice none 0 0) (BY.out.trans (hb8.mono BY.out.size)) (Nat.le_refl _)) (Nat.le_succ _))
                have c2 := cells5 k2
                have f2 := free5 k2
                have k2s := k2.set5 (.int .i64 0) (.int .i64 0) (.int .i64 0) (.int .u32 0) (.slice none 0 0)
                have k3s := k3.grown (grown_set5 w8 w.heap.size (.int .i64 0) (.int .i64 0) (.int .i64 0) (.int .u32 0) (.slice none 0 0)) (by omega)
                have c3 := cells3 k3s
                have f3 := free3 k3s
                have k3t := k3s.set3 (.int .i64 2) (.int .i64 0) (.slice none 0 0)
                have k2t := k2s.grown (grown_set3 _ (w.heap.size + 1) (.int .i64 2) (.int .i64 0) (.slice none 0 0)) (by omega)
                have r2 := cells5 k2t
                have r3 := cells3 k3t
                clear hb8 k2 k3 k2s k3s k3t k2t
                go_wp2_with fail
                exact bodyPost_ret (v := retR 0 0 0 0 (.slice none 0 0) 2 0) (by simp [results, Try.results12, go_sem, retR, r2, r3]) rfl ⟨HBB.out, .inl ⟨0, HF.out, rfl⟩⟩
              · have hT3 : w5.heap.size < wy.heap.size := Nat.lt_of_lt_of_le HT2.out HG.out.size
                have K83 := HK8.out.grown HG.out (by have := HT1.out; omega)
                have K84 := K83.below hb4 hT3
                have c8 := cells5 K84
                have f8 := free5 K84
                have hO4 : OwnC wz (w5.heap.size + 1) (.slice Av M.length cv) M := (HO.out.beside HG.out (by have := HT1.out; omega)).below hb4
                have hsz4 : w5.heap.size + 1 ≤ wz.heap.size := by have := hb4.size; omega
                have HBB := Lib.hid (show Below (cutW wz (w5.heap.size + 1)).heap.size (cutW wz (w5.heap.size + 1)) wz by rw [cutW_size hsz4]; exact cutW_below hsz4)
                have HSE := Lib.hid (cutW_size hsz4)
                have hl4 := caps_len _ _ _ hcS
                rw [List.length_map] at hl4
                have HSZ4 := Lib.hid (show (M.length + M4.length) * 32 ≤ 140737488355328 by have := HML.out; have := HLL.out; have := HLV.out; omega)
                have HO4 := Lib.hid hO4
                have HP4 := Lib.hid (And.intro hb4 (And.intro ho4 hc4))
                have HCS := Lib.hid hcS
                have HNW := Lib.hid (show M4.length ≠ 0 → ∃ ad, A4 = some ad ∧ ∀ j u, (flatC M4)[j]? = some u → wz.cell? (ad.add j) = some u from fun hne => by
                  rcases ho4.2 with ⟨_, hn0⟩ | ⟨g', cap, cur, hv, _⟩
                  · exact absurd hn0 hne
                  · have hA : A4 = some ⟨g', 0, none⟩ := by injection hv
                    exact ⟨_, hA, fun j u hu => World.ownsRow.cells ho4 (g := g') (by rw [hA]; rfl) j u hu⟩)
                have HK4 := Lib.hid K84
                clear hb4 ho4 hc4 hcS hl4 hsz4 hO4 K83 K84 hT3 f4 g4
                go_wp2_with (at_builtin; refine wpList_app isCap rfl (.tmp 72) (.tmp 73) rfl (cutW wz (w5.heap.size + 1)) _ M.length (flatC M) rfl (by rw [HSE.out]; exact HO4.out) A4 M4.length c4 (flatC M4) rfl (flatC_len M4) HNW.out (flatC_one M4) HSZ4.out HBB.out ?_)
                intro v' w6 hown6 hg6 hb6
                rw [HSE.out] at hown6
                obtain ⟨Av6, n6, cv6, rfl⟩ : ∃ A n c, v' = .slice A n c := by
                  rcases hown6.2 with ⟨hv, _⟩ | ⟨g', cap, cur, hv, _⟩
                  · exact ⟨_, _, _, hv⟩
                  · exact ⟨_, _, _, hv⟩
                have hlt6 := fun i hi => (OwnC.lt HO4.out (k := i) hi).1
                have K86 : Blk w6 w5.heap.size 25 _ := (hg6.block w5.heap.size HK4.out.lt (fun e => by have := hlt6 _ e.symm; omega)).trans HK4.out
                have c86 := cells5 K86
                have f86 := free5 K86
                have HFI := Lib.hid (show ReadRel w R0 w5.heap.size (n1 : Int) (n2 : Int) (n3 : Int) (n4 : Int) (w6.setCell ⟨w5.heap.size, 4, none⟩ (.slice Av6 n6 cv6)) ∧ lenAt (w6.setCell ⟨w5.heap.size, 4, none⟩ (.slice Av6 n6 cv6)) (w.heap.size + 2) < R.length from by
                  have hx := HXX.out
                  subst hx
                  obtain ⟨p1, p2, p3⟩ := HP4.out
                  have hrel := read_more BR.out KR2.out KR3.out HT1.out HT2.out HP.out HML.out HK8.out HO.out HCM.out HNE.out HBD.out HKD.out HCS.out HG.out HR3.out p1 p2 p3 hown6 hg6
                  refine ⟨hrel, ?_⟩
                  have hr5 : Rd (w6.setCell ⟨w5.heap.size, 4, none⟩ (.slice Av6 n6 cv6)) (w.heap.size + 2) (w.heap.size + 2) (nextP R false).rest false := by
                    have hT3 : w5.heap.size < wy.heap.size := Nat.lt_of_lt_of_le HT2.out HG.out.size
                    have hs4 := p1.size
                    have bT0 : Below w5.heap.size wy w6 := (p1.mono (Nat.le_of_lt hT3)).grown hg6 (by omega) (fun i hi => by have := hlt6 i hi; omega)
                    have bT : Below w5.heap.size wy (w6.setCell ⟨w5.heap.size, 4, none⟩ (.slice Av6 n6 cv6)) := bT0.setCell (p := ⟨w5.heap.size, 4, none⟩) (Nat.le_refl _) (.slice Av6 n6 cv6)
                    exact HR3.out.below bT (by have := HT1.out; omega)
                  rw [lenAt_rd hr5]
                  have := next_less HBD.out
                  omega)
                clear hown6 hg6 hb6 hlt6 K86
                go_wp2_with fail
                go_roundw
                case rel => exact HFI.out.1
                case measure =>
                  rw [HLA.out]
                  exact HFI.out.2
            · have hkb : ((X.kind : Int) != 2) = true := by simp; omega
              have HF := Lib.hid (show readF l = .error 4 by
                have hx := HXX.out
                subst hx
                rw [HRF2.out, HP.out.kind HNE.out HBD.out hkd])
              clear hkd
              go_wp2_with fail
              refine QL.out.mono ?_
              rintro e wx ⟨rfl, rfl⟩
              go_wp2_with fail
              refine QX.out.mono ?_
              rintro e wy ⟨A3, c3, rfl, f3, g3, ho3, hr3, hg3⟩
              have BX := Lib.hid (BR.out.grown hg3 BR.out.size (fun i hi => by cases hi; omega))
              have KX2 := Lib.hid (KR2.out.grown hg3 (by omega))
              have KX3 := Lib.hid (KR3.out.grown hg3 (by omega))
              clear f3 g3 ho3 hr3 hg3
              go_wp2_with fail
              refine (fault6_any 4 none 0 0 _).mono ?_
              rintro e w8 ⟨rfl, hb8⟩
              have k2 := KX2.out.below hb8 KX2.out.lt
              have k3 := KX3.out.below hb8 KX3.out.lt
              have HBB := Lib.hid (below_set3' (g := w.heap.size + 1) (u := .int .i64 2) (v := .int .i64 4) (x := .slice none 0 0) (below5 (g := w.heap.size) (a := .int .i64 0) (b := .int .i64 0) (c := .int .i64 0) (d := .int .u32 0) (e := .slice none 0 0) (BX.out.trans (hb8.mono BX.out.size)) (Nat.le_refl _)) (Nat.le_succ _))
              have c2 := cells5 k2
              have f2 := free5 k2
              have k2s := k2.set5 (.int .i64 0) (.int .i64 0) (.int .i64 0) (.int .u32 0) (.slice none 0 0)
              have k3s := k3.grown (grown_set5 w8 w.heap.size (.int .i64 0) (.int .i64 0) (.int .i64 0) (.int .u32 0) (.slice none 0 0)) (by omega)
              have c3 := cells3 k3s
              have f3 := free3 k3s
              have k3t := k3s.set3 (.int .i64 2) (.int .i64 4) (.slice none 0 0)
              have k2t := k2s.grown (grown_set3 _ (w.heap.size + 1) (.int .i64 2) (.int .i64 4) (.slice none 0 0)) (by omega)
              have r2 := cells5 k2t
              have r3 := cells3 k3t
              clear hb8 k2 k3 k2s k3s k3t k2t
              go_wp2_with fail
              exact bodyPost_ret (v := retR 0 0 0 0 (.slice none 0 0) 2 4) (by simp [results, Try.results12, go_sem, retR, r2, r3]) rfl ⟨HBB.out, .inl ⟨4, HF.out, rfl⟩⟩
    · have HF := Lib.hid (HRN.out hsz)
      have hne : ((R0.length : Int) != (n5 : Int)) = true := by simp; omega
      go_wp2_with fail
      refine QE.out.mono ?_
      rintro e wx ⟨rfl, rfl⟩
      go_wp2_with fail
      refine QL.out.mono ?_
      rintro e wx ⟨rfl, rfl⟩
      go_wp2_with fail
      refine (fault6_any 0 none 0 0 _).mono ?_
      rintro e w8 ⟨rfl, hb8⟩
      have k2 := K2.out.below hb8 K2.out.lt
      have k3 := K3.out.below hb8 K3.out.lt
      have HBB := Lib.hid (below_set3' (g := w.heap.size + 1) (u := .int .i64 2) (v := .int .i64 0) (x := .slice none 0 0) (below5 (g := w.heap.size) (a := .int .i64 0) (b := .int .i64 0) (c := .int .i64 0) (d := .int .u32 0) (e := .slice none 0 0) (B7.out.trans (hb8.mono B7.out.size)) (Nat.le_refl _)) (Nat.le_succ _))
      have c2 := cells5 k2
      have f2 := free5 k2
      have k2s := k2.set5 (.int .i64 0) (.int .i64 0) (.int .i64 0) (.int .u32 0) (.slice none 0 0)
      have k3s := k3.grown (grown_set5 w8 w.heap.size (.int .i64 0) (.int .i64 0) (.int .i64 0) (.int .u32 0) (.slice none 0 0)) (by omega)
      have c3 := cells3 k3s
      have f3 := free3 k3s
      have k3t := k3s.set3 (.int .i64 2) (.int .i64 0) (.slice none 0 0)
      have k2t := k2s.grown (grown_set3 _ (w.heap.size + 1) (.int .i64 2) (.int .i64 0) (.slice none 0 0)) (by omega)
      have r2 := cells5 k2t
      have r3 := cells3 k3t
      clear hb8 k2 k3 k2s k3s k3t k2t
      go_wp2_with fail
      exact bodyPost_ret (v := retR 0 0 0 0 (.slice none 0 0) 2 0) (by simp [results, Try.results12, go_sem, retR, r2, r3]) rfl ⟨HBB.out, .inl ⟨0, HF.out, rfl⟩⟩
end Go.Proofs.Ytpdnpphkkobhgaa

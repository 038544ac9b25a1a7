/-
  All messages of bytes, as the document tells them.
-/
import Derived.Test.YtjhmkapafhgofaaDoorAllF7
import Derived.Test.YtjhmkapafhgofaaDoorMsg7
import Derived.Test.YtjhmkapafhgofaaDoorRefNext7
namespace Go.Proofs.YtjhmkapafhgofaaDoor
set_option linter.unusedVariables false
set_option linter.unusedSimpArgs false
open Go.RowKit

/-- The messages' bodies lie below B. -/
def BodiesAt (w : World) (B : Nat) (M : List Ms) : Prop := ∀ s ∈ M, At w B s.adr s.body
theorem BodiesAt.below {w w' : World} {B B' : Nat} {M : List Ms} (h : BodiesAt w B M) (hb : Below B' w w') (hB : B ≤ B') : BodiesAt w' B M := fun s hs => (h s hs).below hb hB
/-- What All tells. -/
def AllVal (w : World) (x : List (Int × List UInt8) × (Nat × Nat × List UInt8) × Nat) (e : Ending) (w' : World) : Prop :=
  Below w.heap.size w w' ∧ ∃ (M : List Ms) (A : Option Addr) (c : Nat) (A2 : Option Addr) (c2 : Nat), e = .returned (.tuple #[.slice A M.length c, .agg #[.int .i64 (x.2.1.1 : Int), .int .i64 (x.2.1.2.1 : Int), .slice A2 x.2.1.2.2.length c2], .int .i64 (x.2.2 : Int)]) ∧
    M.map Ms.abs = x.1 ∧ OwnM w' w.heap.size (.slice A M.length c) M ∧ BodiesAt w' w.heap.size M ∧ Bytes w' A2 x.2.1.2.2
/-- What holds at the loop's head. -/
def AllRel (w : World) (l : List UInt8) (v a i : Value) (wr : World) : Prop :=
  Below (w.alloc (.cells #[.int .i64 0, .int .i64 0, .slice none 0 0] 33)).heap.size (w.alloc (.cells #[.int .i64 0, .int .i64 0, .slice none 0 0] 33)) wr ∧
  ∃ (k at_ : Nat) (M : List Ms), k ≤ l.length + 1 ∧ at_ ≤ l.length ∧ M.length = k ∧ i = .int .i64 (k : Int) ∧ a = .int .i64 (at_ : Int) ∧ OwnM wr (w.alloc (.cells #[.int .i64 0, .int .i64 0, .slice none 0 0] 33)).heap.size v M ∧ BodiesAt wr w.heap.size M ∧
    allF (l.length + 1) l = (M.map Ms.abs ++ (allF (l.length + 1 - k) (l.drop at_)).1, (allF (l.length + 1 - k) (l.drop at_)).2)

theorem all_end {w w' : World} {x : List (Int × List UInt8) × (Nat × Nat × List UInt8) × Nat} {M : List Ms} {A A2 : Option Addr} {c n2 c2 C U left : Nat} {D : List UInt8} {li : Int} (hx : x = (M.map Ms.abs ++ [], ((C, U, D), left))) (hb : Below w.heap.size w w')
    (hn : n2 = D.length) (hl : li = (left : Int)) (hz : True = True) (ho : OwnM w' w.heap.size (.slice A M.length c) M) (hbo : BodiesAt w' w.heap.size M) (hby : Bytes w' A2 D) :
    AllVal w x (.returned (.tuple #[.slice A M.length c, .agg #[.int .i64 (C : Int), .int .i64 (U : Int), .slice A2 n2 c2], .int .i64 li])) w' := by
  subst hx; subst hn; subst hl
  exact ⟨hb, M, A, c, A2, c2, rfl, by simp, ho, hbo, hby⟩

set_option maxHeartbeats 12800000 in
set_option maxRecDepth 100000 in
theorem All_any (A : Option Addr) (c : Nat) (l : List UInt8) (w : World) (h : Bytes w A l) (h1 : l.length ≤ c) (h2 : c ≤ maxLen) (hm : l.length ≤ 1000000) :
    Calls Tryd.prog 20 #[.slice A l.length c] w (AllVal w (allF (l.length + 1) l)) := by
  have hb0 := (Below.refl w.heap.size w).alloc (Nat.le_refl _) (.cells #[.int .i64 0, .int .i64 0, .slice none 0 0] 33)
  have hsz : (w.alloc (.cells #[.int .i64 0, .int .i64 0, .slice none 0 0] 33)).heap.size = w.heap.size + 1 := by simp
  have HK0 := Lib.hid (show Blk (w.alloc (.cells #[.int .i64 0, .int .i64 0, .slice none 0 0] 33)) w.heap.size 33 [.int .i64 0, .int .i64 0, .slice none 0 0] from Blk.new w _ _)
  have HUP := Lib.hid (fun W (hB : Below (w.alloc (.cells #[.int .i64 0, .int .i64 0, .slice none 0 0] 33)).heap.size (w.alloc (.cells #[.int .i64 0, .int .i64 0, .slice none 0 0] 33)) W) => hb0.trans (hB.mono hb0.size))
  have HSE := Lib.hid hsz
  have HLT := Lib.hid (show w.heap.size < (w.alloc (.cells #[.int .i64 0, .int .i64 0, .slice none 0 0] 33)).heap.size by rw [hsz]; omega)
  have HBY := Lib.hid (fun W (hB : Below w.heap.size w W) => At.below h hB (Nat.le_refl _))
  have hm1 : c ≤ 9223372036854775807 := by unfold maxLen at h2; omega
  have H2 := Lib.hid h2
  clear h hb0 hsz h2
  go_enter Tryd.func20, Tryd.ntmps20
  go_wp2_with fail
  go_loopw [5, 6, 7] (fun v a i wr => AllRel w l v a i wr) (fun _ _ i _ => l.length + 1 - (intOf i).toNat)
  case atStart => exact ⟨Below.refl _ _, 0, 0, [], by omega, by omega, rfl, rfl, rfl, OwnM.nil _ _, (fun s hs => by cases hs), by simp⟩
  case round =>
    obtain ⟨hbr, k, at_, M, hk, hat, hMl, rfl, rfl, hown, hbod, heq⟩ := hrel
    have HBR := Lib.hid hbr; have HO := Lib.hid hown; have HBO := Lib.hid hbod; have HEQ := Lib.hid heq; have HML := Lib.hid hMl
    clear hown hbod heq hMl hbr
    by_cases hlt : k ≤ l.length
    · have hatc : (at_ : Int) ≤ (c : Int) := by omega
      have hatl : (at_ : Int) ≤ (l.length : Int) := by omega
      have hdl : (l.drop at_).length = l.length - at_ := List.length_drop
      have hy := (HBY.out wr (HUP.out _ HBR.out)).drop (k := at_) h1
      have hsw : w.heap.size ≤ wr.heap.size := (HUP.out _ HBR.out).size
      obtain ⟨T, hT⟩ : ∃ T, T = l.drop at_ := ⟨_, rfl⟩
      rw [← hT] at hdl hy
      have HE2 := Lib.hid (show allF (l.length + 1) l = (M.map Ms.abs ++ (allF (l.length - k + 1) T).1, (allF (l.length - k + 1) T).2) from by
        rw [hT]
        have e : l.length + 1 - k = l.length - k + 1 := by omega
        rw [← e]; exact HEQ.out)
      have hx := nextF_size T
      have HC := Lib.hid (nextF_rest (l := T)); have HCC := Lib.hid (nextF_code T)
      have HAF := Lib.hid (fun n => allF_fault (n := n) (l := T)); have HAS := Lib.hid (fun n => allF_stop (n := n) (l := T)); have HAM := Lib.hid (fun n => allF_more (n := n) (l := T))
      have HTT := Lib.hid hT
      have HDL := Lib.hid hdl
      have hcc := HCC.out
      obtain ⟨A5, c5, rfl, f5, g5⟩ := HO.out.form
      by_cases hca : c = at_
      · -- nothing is left
        subst hca
        have hT0 : T = [] := List.eq_nil_of_length_eq_zero (by omega)
        have HX0 := Lib.hid (show nextF T = ⟨0, [], 0, 0, 0, []⟩ from nextF_short (by rw [hT0]; simp))
        have HA0 := Lib.hid (HAS.out (l.length - k) (by rw [HX0.out]) (by rw [HX0.out]))
        first | rw [if_pos trivial] at hy | rw [if_pos rfl] at hy
        have q := RefNext_any w.heap.size A 0 T wr hy hsw (by omega) (by omega) (by omega)
        rw [HX0.out, hdl] at q
        have hlc : l.length - c = 0 := by omega
        rw [hlc] at q
        have Q := Lib.hid q
        clear q hy hx HC HCC HAF HAS HAM hcc
        have hcl : (c : Int) ≤ (c : Int) := Int.le_refl _
        go_wp2_with fail
        refine Q.out.mono ?_
        rintro e w2 ⟨hb2, A1, c1, A2, c2, rfl, ⟨f1, g1, ho1⟩, ⟨f2, g2, ho2⟩⟩
        have hal2 := (Below.refl w2.heap.size w2).alloc (Nat.le_refl _) (.cells #[.int .i64 0, .int .i64 0, .slice A2 0 c2] 33)
        have hb2' := hb2.trans (hal2.mono hb2.size)
        have HB2 := Lib.hid (HBR.out.trans (hb2'.mono HBR.out.size))
        have k7 := HK0.out.below HB2.out HLT.out
        have c7 := cells3 k7
        have f7 := free3 k7
        have HK7 := Lib.hid k7
        have HO2 := Lib.hid (HO.out.below hb2')
        have HBO2 := Lib.hid (HBO.out.below hb2' hsw)
        have r7 := res3 (.int .i64 0) (.int .i64 0) (.slice A2 0 c2) HK7.out
        clear k7 hal2 hb2 hb2' ho1 ho2 Q
        go_wp2_with fail
        go_region
        all_goals (go_wp2_with fail)
        exact bodyPost_ret (v := .tuple #[.slice A5 M.length c5, .agg #[.int .i64 0, .int .i64 0, .slice A2 0 c2], .int .i64 ((l.length : Int) - (c : Int))]) (by simp [results, Tryd.results20, go_sem, r7.1, r7.2.1, r7.2.2]) rfl
          (all_end (HE2.out.trans (by rw [HA0.out])) (below_set3' (HUP.out _ HB2.out) (Nat.le_refl _)).drew rfl (by have := HDL.out; omega) rfl ((HO2.out.beside (grown_set3 _ _ _ _ _) HLT.out).lower (Nat.le_of_lt HLT.out)) (HBO2.out.below (below_set3' (Below.refl _ _) (Nat.le_refl _)).drew (Nat.le_refl _)) (Bytes.nil _ _))
      · rw [if_neg hca] at hy
        have q := RefNext_any w.heap.size (A.map (·.add at_)) (c - at_) T wr hy hsw (by omega) (by have := H2.out; omega) (by omega)
        obtain ⟨x, hxe⟩ : ∃ x, x = nextF T := ⟨_, rfl⟩
        rw [← hxe] at q hx hcc HC HAF HAS HAM
        clear hxe HCC
        obtain ⟨K, Bd, S, C, U, D⟩ := x
        rw [hdl] at q
        have Q := Lib.hid q
        clear q hy
        dsimp only at hx hcc
        rcases hcc with rfl | rfl
        · obtain ⟨hU, hD⟩ := HC.out rfl
          dsimp only at hU hD
          subst hU; subst hD
          by_cases hS0 : S = 0
          · subst hS0
            have HA0 := Lib.hid (HAS.out (l.length - k) rfl rfl)
            clear HC HAF HAS HAM hx
            go_wp2_with fail
            refine Q.out.mono ?_
            rintro e w2 ⟨hb2, A1, c1, A2, c2, rfl, ⟨f1, g1, ho1⟩, ⟨f2, g2, ho2⟩⟩
            have hal2 := (Below.refl w2.heap.size w2).alloc (Nat.le_refl _) (.cells #[.int .i64 0, .int .i64 0, .slice A2 0 c2] 33)
            have hb2' := hb2.trans (hal2.mono hb2.size)
            have HB2 := Lib.hid (HBR.out.trans (hb2'.mono HBR.out.size))
            have k7 := HK0.out.below HB2.out HLT.out
            have c7 := cells3 k7
            have f7 := free3 k7
            have HK7 := Lib.hid k7
            have HO2 := Lib.hid (HO.out.below hb2')
            have HBO2 := Lib.hid (HBO.out.below hb2' hsw)
            have HW2 := Lib.hid (hb2'.mono hsw)
            have r7 := res3 (.int .i64 0) (.int .i64 0) (.slice A2 0 c2) HK7.out
            clear k7 hal2 hb2 hb2' ho1 ho2 Q
            go_wp2_with fail
            go_region
            all_goals (go_wp2_with fail)
            exact bodyPost_ret (v := .tuple #[.slice A5 M.length c5, .agg #[.int .i64 0, .int .i64 0, .slice A2 0 c2], .int .i64 ((l.length : Int) - (at_ : Int))]) (by simp [results, Tryd.results20, go_sem, r7.1, r7.2.1, r7.2.2]) rfl
              (all_end (HE2.out.trans (by rw [HA0.out])) (below_set3' (HUP.out _ HB2.out) (Nat.le_refl _)).drew rfl (by have := HDL.out; omega) rfl ((HO2.out.beside (grown_set3 _ _ _ _ _) HLT.out).lower (Nat.le_of_lt HLT.out)) (HBO2.out.below (below_set3' (Below.refl _ _) (Nat.le_refl _)).drew (Nat.le_refl _)) (Bytes.nil _ _))
          · have hS : ((S : Int) == 0) = false := by simpa using hS0
            have HA0 := Lib.hid (HAM.out (l.length - k) hS0)
            have hS1 := hx.1
            clear HC HAF HAS HAM hx
            go_wp2_with fail
            refine Q.out.mono ?_
            rintro e w2 ⟨hb2, A1, c1, A2, c2, rfl, ⟨f1, g1, ho1⟩, ⟨f2, g2, ho2⟩⟩
            have hal2 := (Below.refl w2.heap.size w2).alloc (Nat.le_refl _) (.cells #[.int .i64 0, .int .i64 0, .slice A2 0 c2] 33)
            have hb2' := hb2.trans (hal2.mono hb2.size)
            have HB2 := Lib.hid (HBR.out.trans (hb2'.mono HBR.out.size))
            have k7 := HK0.out.below HB2.out HLT.out
            have c7 := cells3 k7
            have f7 := free3 k7
            have HK7 := Lib.hid k7
            have HO2 := Lib.hid (HO.out.below hb2')
            have HBO2 := Lib.hid (HBO.out.below hb2' hsw)
            have HW2 := Lib.hid (hb2'.mono hsw)
            have HO1 := Lib.hid (At.below ho1 (hal2.mono (Nat.le_trans hsw hb2.size)) (Nat.le_refl _))
            have HZ2 := Lib.hid (show (w2.alloc (.cells #[.int .i64 0, .int .i64 0, .slice A2 0 c2] 33)).heap.size = w2.heap.size + 1 by simp)
            have hkk : (M.length + 1) * 32 ≤ 140737488355328 := by have := HML.out; omega
            clear k7 hal2 hb2 hb2' ho1 ho2 Q hS0
            go_wp2_with (at_builtin; refine wpList_app_one isMsg rfl (.tmp 40) (.tmp 44) rfl (w.alloc (.cells #[.int .i64 0, .int .i64 0, .slice none 0 0] 33)) _ M.length (flatM M) rfl (w2.alloc (.cells #[.int .i64 0, .int .i64 0, .slice A2 0 c2] 33)) (Ms.two ⟨(K : Int), A1, c1, Bd⟩) rfl HO2.out (by rw [HZ2.out]; rfl) rfl (twoM_one _) hkk HB2.out ?_)
            intro v' w3 hown3 hg3 hb3
            have HO3 := Lib.hid (show OwnM w3 (w.alloc (.cells #[.int .i64 0, .int .i64 0, .slice none 0 0] 33)).heap.size v' (M ++ [⟨(K : Int), A1, c1, Bd⟩]) from OwnM.push (s := ⟨(K : Int), A1, c1, Bd⟩) (by rw [HSE.out]; exact hown3))
            have HB3 := Lib.hid (show Below (w.alloc (.cells #[.int .i64 0, .int .i64 0, .slice none 0 0] 33)).heap.size (w.alloc (.cells #[.int .i64 0, .int .i64 0, .slice none 0 0] 33)) w3 from by rw [HSE.out]; exact hb3)
            have HBO3 := Lib.hid (show BodiesAt w3 w.heap.size (M ++ [⟨(K : Int), A1, c1, Bd⟩]) from fun s hs => by
              have hk3 : Below w.heap.size (w2.alloc (.cells #[.int .i64 0, .int .i64 0, .slice A2 0 c2] 33)) w3 := (Below.refl _ _).grown hg3 (HUP.out _ HB2.out).size (fun k hk => Nat.le_trans (Nat.le_of_lt HLT.out) (HO2.out.lt hk).1)
              rcases List.mem_append.1 hs with h | h
              · exact (HBO2.out s h).below hk3 (Nat.le_refl _)
              · simp only [List.mem_singleton] at h
                subst h
                exact HO1.out.below hk3 (Nat.le_refl _))
            have HE3 := Lib.hid (show allF (l.length + 1) l = ((M ++ [(⟨(K : Int), A1, c1, Bd⟩ : Ms)]).map Ms.abs ++ (allF (l.length + 1 - (k + 1)) (l.drop (at_ + S))).1, (allF (l.length + 1 - (k + 1)) (l.drop (at_ + S))).2) from by
              rw [HE2.out, HA0.out, HTT.out, List.drop_drop, List.map_append, List.append_assoc]
              have e : l.length + 1 - (k + 1) = l.length - k := by omega
              rw [e]; rfl)
            have hdT := HDL.out
            clear hown3 hg3 hb3
            go_wp2_with fail
            go_roundw
            case rel => exact ⟨HB3.out, k + 1, at_ + S, _, by omega, by omega, by rw [List.length_append, HML.out]; rfl, by go_num, by go_num, HO3.out, HBO3.out, HE3.out⟩
            case measure => simp [intOf]; omega
        · have HA0 := Lib.hid (HAF.out (l.length - k) (by simp))
          clear HC HAF HAS HAM hx
          go_wp2_with fail
          refine Q.out.mono ?_
          rintro e w2 ⟨hb2, A1, c1, A2, c2, rfl, ⟨f1, g1, ho1⟩, ⟨f2, g2, ho2⟩⟩
          have hal2 := (Below.refl w2.heap.size w2).alloc (Nat.le_refl _) (.cells #[.int .i64 1, .int .i64 (U : Int), .slice A2 D.length c2] 33)
          have hb2' := hb2.trans (hal2.mono hb2.size)
          have HB2 := Lib.hid (HBR.out.trans (hb2'.mono HBR.out.size))
          have k7 := HK0.out.below HB2.out HLT.out
          have c7 := cells3 k7
          have f7 := free3 k7
          have HK7 := Lib.hid k7
          have HO2 := Lib.hid (HO.out.below hb2')
          have HBO2 := Lib.hid (HBO.out.below hb2' hsw)
          have HW2 := Lib.hid (hb2'.mono hsw)
          have HD2 := Lib.hid (ho2.below hal2)
          have r7 := res3 (.int .i64 1) (.int .i64 (U : Int)) (.slice A2 D.length c2) HK7.out
          clear k7 hal2 hb2 hb2' ho1 ho2 Q
          go_wp2_with fail
          go_region
          all_goals (go_wp2_with fail)
          exact bodyPost_ret (v := .tuple #[.slice A5 M.length c5, .agg #[.int .i64 1, .int .i64 (U : Int), .slice A2 D.length c2], .int .i64 0]) (by simp [results, Tryd.results20, go_sem, r7.1, r7.2.1, r7.2.2]) rfl
            (all_end (HE2.out.trans (by rw [HA0.out])) (below_set3' (HUP.out _ HB2.out) (Nat.le_refl _)).drew rfl rfl rfl ((HO2.out.beside (grown_set3 _ _ _ _ _) HLT.out).lower (Nat.le_of_lt HLT.out)) (HBO2.out.below (below_set3' (Below.refl _ _) (Nat.le_refl _)).drew (Nat.le_refl _)) ((HD2.out.set3 HK7.out _ _ _).drew))
    · obtain rfl : k = l.length + 1 := by omega
      obtain ⟨A5, c5, rfl, f5, g5⟩ := HO.out.form
      have HE2 := Lib.hid (show allF (l.length + 1) l = (M.map Ms.abs ++ [], ((0, 0, []), l.length - at_)) from by
        have h := HEQ.out
        rw [Nat.sub_self, allF, List.length_drop] at h
        exact h)
      have k7 := HK0.out.below HBR.out HLT.out
      have c7 := cells3 k7
      have f7 := free3 k7
      have r7 := res3 (.int .i64 0) (.int .i64 0) (.slice none 0 0) k7
      have hatl : (at_ : Int) ≤ (l.length : Int) := by omega
      clear k7
      go_wp2_with fail
      exact bodyPost_ret (v := .tuple #[.slice A5 M.length c5, .agg #[.int .i64 0, .int .i64 0, .slice none 0 0], .int .i64 ((l.length : Int) - (at_ : Int))]) (by simp [results, Tryd.results20, go_sem, r7.1, r7.2.1, r7.2.2]) rfl
        (all_end HE2.out (below_set3' (HUP.out _ HBR.out) (Nat.le_refl _)) rfl (by omega) rfl ((HO.out.beside (grown_set3 _ _ _ _ _) HLT.out).lower (Nat.le_of_lt HLT.out)) (HBO.out.below (below_set3' (Below.refl _ _) (Nat.le_refl _)) (Nat.le_refl _)) (Bytes.nil _ _))
end Go.Proofs.YtjhmkapafhgofaaDoor

/-
  A path whose sequences that follow one another are one (written by gen03n.py).
-/
import Derived.Test.YtlgfollajodpaaaDoorOwnL
import Derived.Deep.RegionLaw
namespace Go.Proofs.YtlgfollajodpaaaDoor
set_option linter.unusedVariables false
set_option linter.unusedSimpArgs false
open Go.RowKit

/-- A part more of a path whose sequences are one. -/
def normStep (acc : List (Int × List Nat)) (s : Int × List Nat) : List (Int × List Nat) := match acc.getLast? with
  | none => acc ++ [s]
  | some (k, z) => if k = 2 ∧ s.1 = 2 then acc.dropLast ++ [(2, z ++ s.2)] else acc ++ [s]
/-- A path whose sequences that follow one another are one. -/
def normL (L : List (Int × List Nat)) : List (Int × List Nat) := L.foldl normStep []
theorem normL_snoc (L : List (Int × List Nat)) (s : Int × List Nat) : normL (L ++ [s]) = normStep (normL L) s := by simp [normL]
theorem normL_take {L : List Sg} {j : Nat} {s : Sg} (h : L[j]? = some s) : normL ((L.take (j + 1)).map Sg.abs) = normStep (normL ((L.take j).map Sg.abs)) s.abs := by
  have hj := (List.getElem?_eq_some_iff.1 h).1
  have e : L[j] = s := (List.getElem?_eq_some_iff.1 h).2
  rw [List.take_succ_eq_append_getElem hj, List.map_append, ← normL_snoc, e]
  rfl
theorem step_nil (s : Int × List Nat) : normStep [] s = [s] := rfl
theorem step_push (acc : List (Int × List Nat)) (t s : Int × List Nat) (h : ¬ (t.1 = 2 ∧ s.1 = 2)) : normStep (acc ++ [t]) s = (acc ++ [t]) ++ [s] := by
  simp [normStep, h]
theorem step_more (acc : List (Int × List Nat)) (t s : Int × List Nat) (h1 : t.1 = 2) (h2 : s.1 = 2) : normStep (acc ++ [t]) s = acc ++ [(2, t.2 ++ s.2)] := by
  simp [normStep, h1, h2]

/-- 'x.f = append(x.f, y.f...)' over numbers: the append as one step of a region that draws its order. -/
theorem step_app32 {ops : Array Oper} {o : Oper} {a : Act} {w : World} {K : Act → World → Prop} {Q : Exit → Act → World → Prop} {E : Prop} (hgd : o.guard = none) (s x : Operand) (ho : o.op = .call { callee := .builtin .append, args := #[s, x], argTypes := #[37, 37] })
    (base : Nat) (v : Value) (z : List Nat) (hs : a.eval s = v) (hown : Own32 w base v z) (A : Option Addr) (m c B : Nat) (zs : List Nat) (hx : a.eval x = .slice A m c) (hm : m = zs.length) (hA : At32 w B A zs)
    (hsz : z.length + zs.length ≤ 100000000000) (hb : base ≤ w.heap.size)
    (h : ∀ v' w', Own32 w' base v' (z ++ zs) → w.grownBy w' v.ownBlock → K (a.put o.dst v') w') : if Region.wanted o (yielded ops a.tmps) = true then Oper.wp Tryd.prog o a w K Q else E := by
  have hw : Region.wanted o (yielded ops a.tmps) = true := by simp [Region.wanted, hgd]
  rw [if_pos hw]
  subst hm
  obtain ⟨i, hi, hz0, hz1, hz2⟩ := info_parts isU32.info
  by_cases hm0 : zs.length = 0
  · obtain rfl : zs = [] := List.eq_nil_of_length_eq_zero hm0
    cases A with
    | none =>
      have hrun : (Builtin.append_ #[37, 37] o.type #[v, .slice none 0 c]).run Tryd.prog w = .ok v w := by
        rcases hown.2 with ⟨rfl, _⟩ | ⟨g, cap, cur, rfl, _, _, hnc, _⟩
        · simp [Builtin.append_, run_underlying isU32.ht, sizeOf, typeInfo, hi, Builtin.lenOf, Builtin.firstCells]
        · simp [Builtin.append_, run_underlying isU32.ht, sizeOf, typeInfo, hi, Builtin.lenOf, Builtin.firstCells, hnc, storeCells]
      unfold Oper.wp
      have hx' : a.eval x = .slice none 0 c := hx
      simp [execOp, ho, resolve, invoke, builtin, hs, hx', hrun, Result.andThen]
      exact h v w (by simpa using hown) (World.grownBy.refl _ _)
    | some ad =>
      refine wp_append_own w s x _ ho base _ i _ 1 4 isU32.ht hi hz0 hz1 hz2 isU32.hzs isU32.pos v z.length _ hs hown ad 0 c [] hx (by simp) (by simp) (by simp) (by unfold maxLen; simp at hsz; omega) (by simp at hsz; omega) hb ?_
      intro v' w' ho' hg _
      exact h v' w' (by simpa [Own32] using ho') hg
  · obtain ⟨ad, rfl, hc⟩ := hA.news hm0
    refine wp_append_own w s x _ ho base _ i _ 1 4 isU32.ht hi hz0 hz1 hz2 isU32.hzs isU32.pos v z.length _ hs hown ad zs.length c (cells32 zs) hx (by simp [cells32]) hc (cells32_one zs) (by unfold maxLen; omega) (by omega) hb ?_
    intro v' w' ho' hg _
    refine h v' w' ?_ hg
    unfold Own32
    rw [List.length_append]
    simpa [cells32] using ho'
theorem OwnSegs.form1 {w : World} {B H : Nat} {v : Value} {M : List Sg} {t : Sg} (h : OwnSegs w B H v (M ++ [t])) : ∃ g c, v = .slice (some ⟨g, 0, none⟩) (M.length + 1) c ∧ M.length + 1 ≤ c ∧ c ≤ maxLen ∧ B ≤ g ∧ g < w.heap.size ∧
    w.cell? ⟨g, M.length * 2, none⟩ = some (.int .i64 t.kind) ∧ w.cell? ⟨g, M.length * 2 + 1, none⟩ = some t.sl ∧ (∀ j, w.frozen? ⟨g, j, none⟩ = false) := by
  rcases h.row.2 with ⟨hv, hn⟩ | ⟨g, cap, cur, rfl, hbg, hg, hnc, hcm, hcs, htake⟩
  · simp at hn
  · have hc := World.ownsRow.cells h.row (g := g) rfl
    have f := flat_at (M ++ [t]) M.length t (by simp)
    have c1 := hc _ _ f.1
    have c2 := hc _ _ f.2
    rw [Addr.add_lit] at c1 c2
    simp only [Nat.zero_add] at c1 c2
    refine ⟨g, cap, by simp, by simpa using hnc, hcm, hbg, (Array.getElem?_eq_some_iff.1 hg).1, c1, c2, fun j => ?_⟩
    exact World.ownsRow.frozenAt h.row j
theorem totN_snoc (M : List Sg) (s : Sg) : totN (M ++ [s]) = totN M + s.nums.length := by simp [totN]
theorem Own32.raise {w : World} {B H : Nat} {v : Value} {z : List Nat} (h : Own32 w B v z) (hH : ∀ k, v.ownBlock = some k → H ≤ k) : Own32 w H v z := by
  refine ⟨h.1, ?_⟩
  rcases h.2 with h2 | ⟨g, cap, cur, hv, hbg, r⟩
  · exact .inl h2
  · exact .inr ⟨g, cap, cur, hv, hH g (by rw [hv]; rfl), r⟩
theorem OwnSegs.drew {w : World} {B H : Nat} {v : Value} {M : List Sg} (h : OwnSegs w B H v M) : OwnSegs w.drew B H v M := ⟨h.row.drew, fun s hs => World.ownsRow.drew (h.own s hs), h.low, h.last, h.fit⟩
theorem grown_keeps {w w' : World} {row : Option Nat} {g i : Nat} (hg : w.grownBy w' row) (hlt : g < w.heap.size) (hne : some g ≠ row) : w'.cell? ⟨g, i, none⟩ = w.cell? ⟨g, i, none⟩ ∧ w'.frozen? ⟨g, i, none⟩ = w.frozen? ⟨g, i, none⟩ :=
  ⟨World.cell?_of_block (hg.block g hlt hne), World.frozen?_of_block (hg.block g hlt hne)⟩
/-- What a call leaves that returns a path of its own. -/
def RetSegs (w : World) (r : List (Int × List Nat)) (e : Ending) (w' : World) : Prop :=
  ∃ (M : List Sg) (A : Option Addr) (c : Nat), e = .returned (.slice A M.length c) ∧ M.map Sg.abs = r ∧ M.length ≤ c ∧ c ≤ maxLen ∧ Segs w' w'.heap.size A M ∧ Below w.heap.size w w'
/-- What the loop holds. -/
def NormRel (w : World) (L : List Sg) (v i : Value) (wr : World) : Prop :=
  Below w.heap.size w wr ∧ ∃ (M : List Sg) (H j : Nat), j ≤ L.length ∧ i = .int .i64 (j : Int) ∧ OwnSegs wr w.heap.size H v M ∧ w.heap.size ≤ H ∧ H ≤ wr.heap.size ∧ M.length ≤ j ∧ totN M ≤ totN (L.take j) ∧ Hid (M.map Sg.abs = normL ((L.take j).map Sg.abs))

set_option maxHeartbeats 12800000 in
theorem Norm_any (A : Option Addr) (c : Nat) (L : List Sg) (w : World) (h : Segs w w.heap.size A L) (hc : L.length ≤ c) (hm : c ≤ maxLen) (ht : totN L ≤ 2000000) (hL : L.length ≤ 2000000) :
    Calls Tryd.prog 9 #[.slice A L.length c] w (RetSegs w (normL (L.map Sg.abs))) := by
  have HL := Lib.hid h; clear h
  go_enter Tryd.func9, Tryd.ntmps9
  go_wp2_with fail
  go_loopw [3, 9] (fun v i wr => NormRel w L v i wr) (fun _ i _ => L.length - (intOf i).toNat)
  case atStart => exact ⟨Below.refl _ _, [], w.heap.size, 0, by omega, rfl, OwnSegs.nil _ _ _, Nat.le_refl _, Nat.le_refl _, by simp, by simp [totN], Lib.hid rfl⟩
  case round =>
    obtain ⟨hbr, M, H, j, hj, rfl, hown, hH, hH2, hMl, hMt, hab⟩ := hrel
    by_cases hlt : j < L.length
    · obtain ⟨s, hs⟩ : ∃ s, L[j]? = some s := ⟨_, List.getElem?_eq_getElem hlt⟩
      obtain ⟨b, off, rfl, hb, k1, k2, hok⟩ := (HL.out.below hbr (Nat.le_refl _)).at hs
      have hst := normL_take hs
      rw [← hab.out] at hst
      have HST := Lib.hid hst
      have HLT := Lib.hid hlt
      have hsl := nums_le hs
      have htk : totN (L.take (j + 1)) = totN (L.take j) + s.nums.length := sum_take hs
      have htk2 : totN (L.take (j + 1)) ≤ totN L := sum_take_le (fun s => s.nums.length) L (j + 1)
      have HTK := Lib.hid (And.intro htk htk2)
      have HFIT := Lib.hid (show Sg.Fit s from hok.2.2.2)
      have HOK := Lib.hid hok
      have hbox := Blk.new wr 39 [.int .i64 s.kind, .slice s.adr s.nums.length s.cap]
      have cb := cells2 hbox
      have hA1 : Sg.Ok (wr.alloc (.cells #[.int .i64 s.kind, .slice s.adr s.nums.length s.cap] 39)) (wr.alloc (.cells #[.int .i64 s.kind, .slice s.adr s.nums.length s.cap] 39)).heap.size s := (hok.below ((Below.refl wr.heap.size wr).alloc (Nat.le_refl _) _) (Nat.le_trans (Nat.le_refl _) hbr.size)).lift (by simp; have := hbr.size; omega)
      have HA1 := Lib.hid hA1
      have QO := Lib.hid (own_any s _ hA1 (by omega))
      have hS1 := hown.below ((Below.refl wr.heap.size wr).alloc (Nat.le_refl _) (.cells #[.int .i64 s.kind, .slice s.adr s.nums.length s.cap] 39))
      have HS1 := Lib.hid hS1
      have HBK := Lib.hid hown.blocks
      have hbr1 := hbr.alloc hbr.size (.cells #[.int .i64 s.kind, .slice s.adr s.nums.length s.cap] 39)
      have HBR := Lib.hid hbr
      have HBR1 := Lib.hid hbr1
      have hjb : (j : Int) ≤ 2000000 := by omega
      have HML := Lib.hid hMl; have HMT := Lib.hid hMt
      clear hst htk htk2 hok hbox hA1 hS1 hbr1
      rcases (show M = [] ∨ ∃ M0 t, M = M0 ++ [t] by
        rcases List.eq_nil_or_concat M with h | ⟨M0, t, h⟩
        · exact .inl h
        · exact .inr ⟨M0, t, by rw [h, List.concat_eq_append]⟩) with rfl | ⟨M0, t, rfl⟩
      · obtain ⟨A0, c0, rfl, g1, g2⟩ := hown.form
        clear hown
        go_wp2_with fail
        refine QO.out.mono ?_
        rintro e w2 ⟨A2, c2, rfl, f1, f2, ho2, hb2⟩
        have HS2 := Lib.hid (HS1.out.below hb2)
        have HO2 := Lib.hid (show Own32 w2 (wr.alloc (.cells #[.int .i64 s.kind, .slice s.adr s.nums.length s.cap] 39)).heap.size (Sg.sl ⟨s.kind, A2, c2, s.nums⟩) s.nums from ho2)
        have HBW := Lib.hid (HBR1.out.trans (hb2.mono HBR1.out.size))
        have HB2S := Lib.hid hb2.size
        clear ho2 hb2 cb k1 k2
        go_wp2_with (at_builtin; refine wpList_app_one' isSeg rfl (.tmp 43) (.tmp 46) rfl w.heap.size _ _ _ rfl w2 (Sg.two ⟨s.kind, A2, c2, s.nums⟩) rfl HS2.out.row rfl rfl (two_one _) ?sz HBW.out.size ?_)
        case sz => have := HML.out; first | (simp; done) | (simp at this ⊢; omega)
        intro v3 w3 hown3 hg3
        have HP := Lib.hid (OwnSegs.push (s := ⟨s.kind, A2, c2, s.nums⟩) HS2.out HO2.out HBR1.out.size (fun x hx k hk => HS1.out.blocks x hx k hk) HFIT.out (by first | exact hown3 | (rw [List.length_append]; exact hown3)) hg3)
        have HB3 := Lib.hid (HBW.out.grown hg3 HBW.out.size (fun k hk => (World.ownsRow.lt HS2.out.row k hk).1))
        have HH3 := Lib.hid (Nat.le_trans HB2S.out hg3.size)
        clear hown3 hg3
        go_wp2_with fail
        go_roundw
        case rel => exact ⟨HB3.out, _, _, j + 1, HLT.out, by go_num, HP.out, HBR1.out.size, HH3.out, (by have := HML.out; first | (simp; done) | (simp at this ⊢; omega)), (by rw [totN_snoc]; have h1 := HTK.out.1; have h2 := HMT.out; show totN _ + s.nums.length ≤ _; omega), Lib.hid (by rw [HST.out]; rw [show ([] : List Sg).map Sg.abs = [] from rfl, step_nil]; rfl)⟩
        case measure => have hm := HLT.out; simp [intOf] at hm ⊢; try omega
      · obtain ⟨g, c0, rfl, g1, g2, g3, g4, kt, ksl, kfr⟩ := hown.form1
        have kt1 : (wr.alloc (.cells #[.int .i64 s.kind, .slice s.adr s.nums.length s.cap] 39)).cell? ⟨g, M0.length * 2, none⟩ = some (.int .i64 t.kind) := (((Below.refl wr.heap.size wr).alloc (Nat.le_refl _) _).cell (p := ⟨g, M0.length * 2, none⟩) g4).trans kt
        have ksl1 : (wr.alloc (.cells #[.int .i64 s.kind, .slice s.adr s.nums.length s.cap] 39)).cell? ⟨g, M0.length * 2 + 1, none⟩ = some (.slice t.adr t.nums.length t.cap) := (((Below.refl wr.heap.size wr).alloc (Nat.le_refl _) _).cell (p := ⟨g, M0.length * 2 + 1, none⟩) g4).trans ksl
        have HMM := Lib.hid hMl
        have hM0 : (M0.length : Int) ≤ 2000000 := by simp at hMl; omega
        have hN0 : ¬ (M0.length : Int) < 0 := by omega
        have kfr1 : (wr.alloc (.cells #[.int .i64 s.kind, .slice s.adr s.nums.length s.cap] 39)).frozen? ⟨g, M0.length * 2 + 1, none⟩ = false := (((Below.refl wr.heap.size wr).alloc (Nat.le_refl _) _).frozen (p := ⟨g, M0.length * 2 + 1, none⟩) g4).trans (kfr _)
        have HG4 := Lib.hid g4
        clear hown kfr
        by_cases hsk : s.kind = 2
        · have es : (s.kind == 2) = true := by simpa using hsk
          by_cases htk : t.kind = 2
          · have et : (t.kind == 2) = true := by simpa using htk
            have HSK := Lib.hid hsk; have HTK2 := Lib.hid htk
            clear hsk htk
            have hi0 : (0 : Int) ≤ (M0.length : Int) := by omega
            have hi1 : (M0.length : Int) < (M0.length : Int) + 1 := by omega
            have HOWN := Lib.hid (show Own32 (wr.alloc (.cells #[.int .i64 s.kind, .slice s.adr s.nums.length s.cap] 39)).drew H t.sl t.nums from World.ownsRow.drew ((HS1.out.own t (by simp)).raise (HS1.out.last t (by simp))))
            have HAT := Lib.hid (show At32 (wr.alloc (.cells #[.int .i64 s.kind, .slice s.adr s.nums.length s.cap] 39)).drew (wr.alloc (.cells #[.int .i64 s.kind, .slice s.adr s.nums.length s.cap] 39)).heap.size s.adr s.nums from HA1.out.2.2.1)
            have HNE := Lib.hid (show some g ≠ t.sl.ownBlock from fun e => by
              rcases own_types HS1.out.row (HS1.out.own t (by simp)) (Ne.symm segNe) with h | h
              · cases h
              · exact h e)
            have HSZ := Lib.hid (show t.nums.length + s.nums.length ≤ 100000000000 from by
              have h1 := HMT.out
              rw [totN_snoc] at h1
              have h2 := HTK.out
              omega)
            have HHB := Lib.hid (show H ≤ (wr.alloc (.cells #[.int .i64 s.kind, .slice s.adr s.nums.length s.cap] 39)).drew.heap.size from Nat.le_trans hH2 (show wr.heap.size ≤ (wr.alloc _).heap.size by simp))
            go_wp2_with fail
            go_region_law ((refine step_app32 (by rfl) (.tmp 37) (.tmp 39) (by rfl) H (.slice t.adr t.nums.length t.cap) t.nums (by rfl) HOWN.out s.adr s.nums.length s.cap _ s.nums (by rfl) rfl HAT.out HSZ.out HHB.out ?_; intro v3 w3 ho3 hg3; obtain ⟨A3, c3, rfl, q1, q2⟩ := ho3.form; rw [List.length_append] at ho3 q1; have k3 := (grown_keeps (i := M0.length * 2 + 1) hg3 (Nat.lt_of_lt_of_le HG4.out (by simp)) HNE.out).1.trans ksl1; have f3 := (grown_keeps (i := M0.length * 2 + 1) hg3 (Nat.lt_of_lt_of_le HG4.out (by simp)) HNE.out).2.trans kfr1; have HO3 := Lib.hid ho3; have HG3 := Lib.hid hg3; clear ho3 hg3))
            all_goals
              have hm3 := OwnSegs.more (z := t.nums ++ s.nums) HS1.out.drew hH (by rw [List.length_append]; exact HO3.out) (fun x hx => by
                rcases List.mem_append.1 hx with h | h
                · exact (HS1.out.fit t (by simp)).1 x h
                · exact HFIT.out.1 x h) HG3.out
              rw [List.length_append] at hm3
              have HM3 := Lib.hid hm3
              have HB4 := Lib.hid ((HBR1.out.drew.grown HG3.out (show w.heap.size ≤ (wr.alloc _).heap.size by simp; have := HBR.out.size; omega) (fun k hk => (World.ownsRow.lt (HS1.out.own t (by simp)) k hk).1)).setCell (p := ⟨g, M0.length * 2 + 1, none⟩) g3 (.slice A3 (t.nums.length + s.nums.length) c3))
              have HH4 := Lib.hid (show H ≤ w3.heap.size from Nat.le_trans HHB.out HG3.out.size)
              clear hm3 k3 f3
              go_wp2_with fail
              go_roundw
              case rel => exact ⟨HB4.out, _, H, j + 1, HLT.out, by go_num, HM3.out, hH, by simpa [World.setCell] using HH4.out, (by have := HML.out; simp at this ⊢; omega), (by rw [totN_snoc]; have h1 := HTK.out.1; have h2 := HMT.out; rw [totN_snoc] at h2; show totN _ + (t.nums ++ s.nums).length ≤ _; rw [List.length_append]; omega), Lib.hid (by rw [HST.out]; simp only [List.map_append, List.map_cons, List.map_nil]; rw [step_more _ _ _ HTK2.out HSK.out]; simp only [Sg.abs, HTK2.out])⟩
              case measure => have hm := HLT.out; simp [intOf] at hm ⊢; try omega
          · have et : (t.kind == 2) = false := by simpa using htk
            have hno : ¬ (t.abs.1 = 2 ∧ s.abs.1 = 2) := fun h => htk h.1
            have HNO := Lib.hid hno
            clear hsk htk hno
            go_wp2_with fail
            refine QO.out.mono ?_
            rintro e w2 ⟨A2, c2, rfl, f1, f2, ho2, hb2⟩
            have HS2 := Lib.hid (HS1.out.below hb2)
            have HO2 := Lib.hid (show Own32 w2 (wr.alloc (.cells #[.int .i64 s.kind, .slice s.adr s.nums.length s.cap] 39)).heap.size (Sg.sl ⟨s.kind, A2, c2, s.nums⟩) s.nums from ho2)
            have HBW := Lib.hid (HBR1.out.trans (hb2.mono HBR1.out.size))
            have HB2S := Lib.hid hb2.size
            clear ho2 hb2 cb k1 k2
            go_wp2_with (at_builtin; refine wpList_app_one' isSeg rfl (.tmp 43) (.tmp 46) rfl w.heap.size _ _ _ rfl w2 (Sg.two ⟨s.kind, A2, c2, s.nums⟩) rfl HS2.out.row rfl rfl (two_one _) ?sz HBW.out.size ?_)
            case sz => have := HML.out; first | (simp; done) | (simp at this ⊢; omega)
            intro v3 w3 hown3 hg3
            have HP := Lib.hid (OwnSegs.push (s := ⟨s.kind, A2, c2, s.nums⟩) HS2.out HO2.out HBR1.out.size (fun x hx k hk => HS1.out.blocks x hx k hk) HFIT.out (by first | exact hown3 | (rw [List.length_append]; exact hown3)) hg3)
            have HB3 := Lib.hid (HBW.out.grown hg3 HBW.out.size (fun k hk => (World.ownsRow.lt HS2.out.row k hk).1))
            have HH3 := Lib.hid (Nat.le_trans HB2S.out hg3.size)
            clear hown3 hg3
            go_wp2_with fail
            go_roundw
            case rel => exact ⟨HB3.out, _, _, j + 1, HLT.out, by go_num, HP.out, HBR1.out.size, HH3.out, (by have := HML.out; first | (simp; done) | (simp at this ⊢; omega)), (by rw [totN_snoc]; have h1 := HTK.out.1; have h2 := HMT.out; show totN _ + s.nums.length ≤ _; omega), Lib.hid (by rw [HST.out]; simp only [List.map_append, List.map_cons, List.map_nil]; rw [step_push _ _ _ HNO.out]; rfl)⟩
            case measure => have hm := HLT.out; simp [intOf] at hm ⊢; try omega
        · have es : (s.kind == 2) = false := by simpa using hsk
          have hno : ¬ (t.abs.1 = 2 ∧ s.abs.1 = 2) := fun h => hsk h.2
          have HNO := Lib.hid hno
          clear hsk hno
          go_wp2_with fail
          refine QO.out.mono ?_
          rintro e w2 ⟨A2, c2, rfl, f1, f2, ho2, hb2⟩
          have HS2 := Lib.hid (HS1.out.below hb2)
          have HO2 := Lib.hid (show Own32 w2 (wr.alloc (.cells #[.int .i64 s.kind, .slice s.adr s.nums.length s.cap] 39)).heap.size (Sg.sl ⟨s.kind, A2, c2, s.nums⟩) s.nums from ho2)
          have HBW := Lib.hid (HBR1.out.trans (hb2.mono HBR1.out.size))
          have HB2S := Lib.hid hb2.size
          clear ho2 hb2 cb k1 k2
          go_wp2_with (at_builtin; refine wpList_app_one' isSeg rfl (.tmp 43) (.tmp 46) rfl w.heap.size _ _ _ rfl w2 (Sg.two ⟨s.kind, A2, c2, s.nums⟩) rfl HS2.out.row rfl rfl (two_one _) ?sz HBW.out.size ?_)
          case sz => have := HML.out; first | (simp; done) | (simp at this ⊢; omega)
          intro v3 w3 hown3 hg3
          have HP := Lib.hid (OwnSegs.push (s := ⟨s.kind, A2, c2, s.nums⟩) HS2.out HO2.out HBR1.out.size (fun x hx k hk => HS1.out.blocks x hx k hk) HFIT.out (by first | exact hown3 | (rw [List.length_append]; exact hown3)) hg3)
          have HB3 := Lib.hid (HBW.out.grown hg3 HBW.out.size (fun k hk => (World.ownsRow.lt HS2.out.row k hk).1))
          have HH3 := Lib.hid (Nat.le_trans HB2S.out hg3.size)
          clear hown3 hg3
          go_wp2_with fail
          go_roundw
          case rel => exact ⟨HB3.out, _, _, j + 1, HLT.out, by go_num, HP.out, HBR1.out.size, HH3.out, (by have := HML.out; first | (simp; done) | (simp at this ⊢; omega)), (by rw [totN_snoc]; have h1 := HTK.out.1; have h2 := HMT.out; show totN _ + s.nums.length ≤ _; omega), Lib.hid (by rw [HST.out]; simp only [List.map_append, List.map_cons, List.map_nil]; rw [step_push _ _ _ HNO.out]; rfl)⟩
          case measure => have hm := HLT.out; simp [intOf] at hm ⊢; try omega
    · obtain rfl : j = L.length := by omega
      have hab2 := hab.out
      rw [List.take_length] at hab2
      obtain ⟨A0, c0, rfl, g1, g2⟩ := hown.form
      have HR := Lib.hid (show RetSegs w (normL (L.map Sg.abs)) (.returned (.slice A0 M.length c0)) wr from ⟨M, A0, c0, rfl, hab2, g1, g2, hown.segs, hbr⟩)
      clear hown hab hab2 g1 g2 hMl hMt
      go_wp2_with fail
      go_ret
      exact HR.out
end Go.Proofs.YtlgfollajodpaaaDoor

/-
  P26.1, P26.2: what a table tells of any calls: the walk.
-/
import Derived.Test.YtgaoonnokhlgjaaSameL26
import Derived.Deep.DeepCutAuto
import Derived.Deep.CutBlock
namespace Go.Proofs.Ytgaoonnokhlgjaa
set_option linter.unusedVariables false
set_option linter.unusedSimpArgs false
open Go.RowKit

theorem wp_storeS {P : Program} {T : TypeId} {row : List Value} {K9 : Act → World → Prop} {o : Oper} {a : Act} {Q : Exit → Act → World → Prop} (w : World) (hT : IsS P T row.length) (h1 : ∀ v ∈ row, v.oneCell' = true) (hd : o.dst = none) (p x : Operand) (hop : o.op = Op.store T p x) (g T' : Nat) (cs : List Value) (hp : a.eval p = .pointer (some ⟨g, 0, none⟩)) (hx : a.eval x = aggS row) (h : Blk w g T' cs) (hl : cs.length = row.length)
    (hK : ∀ w', Blk w' g T' row → w.grownBy w' (some g) → w'.heap.size = w.heap.size → K9 (a.put o.dst undef) w') : Oper.wp P o a w K9 Q := by
  obtain ⟨w', hrun, r1, r2, r3⟩ := run_storeS hT h1 h hl
  unfold Oper.wp
  simp [execOp, hop, hp, hx, hrun, Result.andThen]
  exact hK w' r1 r2 r3
structure PRel (W : World) (g h : Nat) (mo li : Int) (wr : World) (k : Nat) (la : Int) (L : List Cu) (v rv : Value) : Prop where
  laB : 0 ≤ la ∧ la ≤ (k : Int)
  tab : Tab wr g mo li la v L
  ref : RT wr h mo li la rv L
  good : Good mo li la L
  bel : Below W.heap.size W wr
  oks : ∀ c ∈ L, CuOk W W.heap.size c
section
variable {w w' w'' : World} {g h : Nat} {mo li la lb : Int} {v v' rv : Value} {L M : List Cu} {W : World}
theorem SlU.keepA {T B : Nat} {x : Value} {K : List Cu} (hs : SlU w T B x K) (ht : T ≠ 67 ∧ T ≠ 36) (hk : KeepA w w' g v v') (hT : Tab w g mo li la v L) : SlU w' T B x K := by
  obtain ⟨A, c, rfl, hr⟩ := hs
  refine ⟨A, c, rfl, hr.same fun b o _ ho ⟨cur, fr, e⟩ => ?_⟩
  refine (hk.block b (lt_of_some ho) (fun e2 => ?_) (fun e2 => ?_)).trans ho
  · subst e2
    have := ho.symm.trans hT.blk
    rw [e] at this
    simp at this
    exact ht.1 this.2.1
  · obtain ⟨cur2, hc⟩ := hT.own.typ e2
    have := ho.symm.trans hc
    rw [e] at this
    simp at this
    exact ht.2 this.2.1
theorem RT.keepA (hR : RT w h mo li lb rv M) (hk : KeepA w w' g v v') (hT : Tab w g mo li la v L) : RT w' h mo li lb rv M :=
  ⟨hR.blk.keepA hk (by decide) hT, hR.rows.keepA (by decide) hk hT, hR.few⟩
theorem Blk.apartH {T T' b : Nat} {cs cs' : List Value} (hb : Blk w b T cs) (hh : Blk w h T' cs') (ht : T ≠ T') : b ≠ h := by
  intro e
  subst e
  have := hb.symm.trans hh
  simp at this
  exact ht this.2
theorem Tab.past (hT : Tab w g mo li la v L) (hR : RT w h mo li lb rv M) (hg : w.grownBy w' (some h)) : Tab w' g mo li la v L := by
  refine ⟨hT.blk.grown hg (hT.blk.apartH hR.blk (by decide)), World.ownsRow.kept hT.own hg ?_, hT.few⟩
  refine .inr fun e => ?_
  obtain ⟨cur, hc⟩ := hT.own.typ e
  have := hc.symm.trans hR.blk
  simp at this
theorem Blk.pastH {T b : Nat} {cs : List Value} (hb : Blk w b T cs) (hR : RT w h mo li lb rv M) (hg : w.grownBy w' (some h)) (ht : T ≠ 60) : Blk w' b T cs := hb.grown hg (hb.apartH hR.blk ht)
theorem Below.pastH (hb : Below W.heap.size W w) (hg : w.grownBy w' (some h)) (hh : W.heap.size ≤ h) : Below W.heap.size W w' := hb.grown hg hb.size (fun k hk => by cases hk; exact hh)
theorem PRel.go {k : Nat} (S : PRel W g h mo li w k la L v rv) (hb : Below w.heap.size w w') : PRel W g h mo li w' k la L v rv :=
  ⟨S.laB, S.tab.below hb, S.ref.below hb, S.good, S.bel.trans (hb.mono S.bel.size), S.oks⟩
theorem PRel.up {k : Nat} (S : PRel W g h mo li w k la L v rv) : PRel W g h mo li w (k + 1) la L v rv := ⟨by have := S.laB; omega, S.tab, S.ref, S.good, S.bel, S.oks⟩
end
theorem Cu0_ok (w : World) (B : Nat) : CuOk w B Cu0 := ⟨At32.nil _ _ _, by decide⟩
theorem opened_ok {w : World} {B : Nat} {c : Cu} {n : Int} (h : CuOk w B c) : CuOk w B (openedU c n) := h
theorem moved_ok {w : World} {B : Nat} {c : Cu} {a l : Int} (h : CuOk w B c) : CuOk w B (movedU c a l) := h
theorem mostC_ok (m : Int) : 0 ≤ mostC m ∧ mostC m ≤ 8 := by unfold mostC; split <;> (try split) <;> omega
theorem lifeC_ok {l : Int} (h : l ≤ 9223372036854775807) : 1 ≤ lifeC l ∧ lifeC l ≤ 9223372036854775807 := by unfold lifeC; split <;> omega
set_option maxRecDepth 100000 in
set_option maxHeartbeats 51200000 in
theorem CursorPlays.walk (most life : Int) (A : Option Addr) (d : Nat) (L : List A26) (W : World) (hlife : -9223372036854775808 ≤ life ∧ life ≤ 9223372036854775807) (hd : L.length ≤ d) (hd2 : d ≤ maxLen) (hA : ActsIn26 W A L) (hok : ∀ s ∈ L, s.ok W) :
    Calls Try.prog 3 #[.int .i64 most, .int .i64 life, .slice A L.length d] W fun e w' => e = .returned (.bool true) ∧ Below W.heap.size W w' := by
  have QF := Lib.hid (few26_any A d L W hA)
  have HA := Lib.hid hA; have HOKS := Lib.hid hok
  clear hA hok hd hd2
  go_enter Try.func3, Try.ntmps3
  go_wp2_with fail
  refine QF.out.mono ?_
  rintro e w1 ⟨q, rfl, hq, hb1⟩
  have B1 := Lib.hid hb1
  cases q with
  | false =>
    clear hq hb1
    go_wp2_with fail
    refine (awake26_any _).mono ?_
    rintro e w2 ⟨rfl, hb2⟩
    have B2 := Lib.hid (B1.out.trans (hb2.mono B1.out.size))
    clear hb2
    go_wp2_with fail
    go_ret
    exact ⟨rfl, B2.out⟩
  | true =>
    have HQ := Lib.hid (hq rfl)
    clear hq hb1 QF
    go_wp2_with fail
    obtain ⟨mo, hmo⟩ : ∃ mo, mo = mostC most := ⟨_, rfl⟩
    obtain ⟨li, hli⟩ : ∃ li, li = lifeC life := ⟨_, rfl⟩
    have hmb : 0 ≤ mo ∧ mo ≤ 8 := by rw [hmo]; exact mostC_ok _
    have hlb : 1 ≤ li ∧ li ≤ 9223372036854775807 := by rw [hli]; exact lifeC_ok hlife.2
    refine (New26_any most life w1).mono ?_
    rintro e w2 ⟨rfl, ht, hb2⟩
    rw [← hmo, ← hli] at ht
    have T2 := Lib.hid ht; have B2 := Lib.hid (B1.out.trans (hb2.mono B1.out.size)); have HMO := Lib.hid hmo; have HLI := Lib.hid hli
    have HGE := Lib.hid (show W.heap.size ≤ w1.heap.size from B1.out.size)
    clear ht hb2 hmo hli
    generalize w1.heap.size = g at *
    go_wp2_with fail
    refine (RefNew26_any most life w2).mono ?_
    rintro e w3 ⟨rfl, hr, hb3⟩
    rw [← HMO.out, ← HLI.out] at hr
    have HHE := Lib.hid (show W.heap.size ≤ w2.heap.size from B2.out.size)
    have S3 := Lib.hid (show PRel W g w2.heap.size mo li w3 0 0 [] _ _ from ⟨by simp, T2.out.below hb3, hr, Good.nil hmb hlb, B2.out.trans (hb3.mono B2.out.size), fun c hc => by cases hc⟩)
    clear hr hb3 T2 HMO HLI B1 B2
    generalize w2.heap.size = h at *
    go_wp2_with fail
    go_loopw [9] (fun i wr => ∃ j : Nat, i = .int .i64 (j : Int) ∧ j ≤ L.length ∧ ∃ la Lc v rv, PRel W g h mo li wr j la Lc v rv) (fun i _ => L.length - (intOf i).toNat)
    case atStart => exact ⟨0, rfl, Nat.zero_le _, 0, [], _, _, S3.out⟩
    case round =>
      obtain ⟨j, rfl, hj, la, Lc, v, rv, S⟩ := hrel
      have S0 := Lib.hid S
      clear S S3
      by_cases hlt : j < L.length
      · obtain ⟨s, hs⟩ : ∃ s, L[j]? = some s := ⟨_, List.getElem?_eq_getElem hlt⟩
        obtain ⟨b, off, rfl, hb, hr⟩ := HA.out.at S0.out.bel hs
        have HR := Lib.hid hr; have HLT := Lib.hid hlt
        have HOKA := Lib.hid (HOKS.out s (List.mem_of_getElem? hs))
        have HCO := Lib.hid (show CuOk W W.heap.size s.c from ⟨HOKA.out.2.1, by have := HQ.out.2 s (List.mem_of_getElem? hs); omega⟩)
        have hjb : (j : Int) ≤ 60 := by have := HQ.out.1; omega
        have hi0 : (0 : Int) ≤ (j : Int) := by omega
        have hi1 : (j : Int) < (L.length : Int) := by omega
        have hkb : s.kind < 256 := HOKA.out.1
        clear hr hb hj hs
        go_wp2_with (first
          | (refine wpList_loadS _ (isA26 s) rfl (.tmp 45) rfl b (off + j * 21) rfl HR.out ?_)
          | (refine wpList_storeNewS (row := s.row) _ wr (List.append [.int .u8 0] (zerosU ++ [.int .i64 0, .int .i64 0, .int .u32 0, .int .i64 0])) 38 rfl (isA26 s) s.one rfl rfl (.tmp 10) (.tmp 46) rfl rfl rfl rfl ?_))
        intro w2 k2 hb2 hz2
        have S2 := Lib.hid (S0.out.go hb2); have K2 := Lib.hid k2
        have k0 : w2.cell? ⟨wr.heap.size, 0, none⟩ = some (.int .u8 (s.kind : Int)) := k2.cell 0
        clear k2 hb2 hz2 S0 HR
        generalize wr.heap.size = N at *
        go_upto_block 2 with fail
        go_cut [11, 49] (fun okv k9 wc => okv = .bool true ∧ ∃ la' L' v' rv', PRel W g h mo li wc (j + 1) la' L' v' rv')
        case first =>
          have hk6 : (s.kind : Int) % 6 = 0 ∨ (s.kind : Int) % 6 = 1 ∨ (s.kind : Int) % 6 = 2 ∨ (s.kind : Int) % 6 = 3 ∨ (s.kind : Int) % 6 = 4 ∨ (s.kind : Int) % 6 = 5 := by omega
          have T2 := Lib.hid S2.out.tab; have R2 := Lib.hid S2.out.ref; have G2 := Lib.hid S2.out.good; have B2 := Lib.hid S2.out.bel; have OK2 := Lib.hid S2.out.oks
          have hla := S2.out.laB
          clear k0
          have hdw := Below.drew (Below.refl w2.heap.size w2)
          have T2d := Lib.hid (T2.out.below hdw); have R2d := Lib.hid (R2.out.below hdw); have B2d := Lib.hid (show Below W.heap.size W w2.drew from B2.out.drew); have K2d := Lib.hid (show Blk w2.drew N 38 s.row from K2.out)
          clear hdw
          rcases hk6 with hk | hk | hk | hk | hk | hk
          · as_aux_lemma =>
              obtain ⟨L5, G9, hot, G5, hm9, hm5, _, _⟩ := open_to G2.out hla.1 s.c
              have QO := Lib.hid (Open26_to g mo li la v Lc s.c L5 G9 w2 T2.out G2.out (by omega) hot)
              have HOW := Lib.hid hot.how
              have OK5 := Lib.hid (show ∀ c ∈ L5, CuOk W W.heap.size c from fun c hc => (hm5 c hc).elim (OK2.out c) (fun e => by rw [e]; exact opened_ok HCO.out))
              have OK9 := Lib.hid (show ∀ c ∈ G9, CuOk W W.heap.size c from fun c hc => (hm9 c hc).elim (OK2.out c) (fun e => by rw [e]; exact opened_ok HCO.out))
              have G5 := Lib.hid G5
              have hL9 : G9.length ≤ 1000 := by
                rcases HOW.out with ⟨_, _, h⟩ | ⟨_, _, h⟩
                · rw [h, List.length_take]; omega
                · rw [h]; decide
              have HL9 := Lib.hid hL9
              clear hot hm9 hm5 hL9
              go_wp2_with (refine wpList_loadS _ (isP s.c) rfl (.tmp 59) rfl N 1 rfl (by have := A26.sub K2.out.rowAt; simpa using this) ?_)
              refine QO.out.mono ?_
              rintro e w3 ⟨u, v3, rfl, ht, hsl, hkp⟩
              have T3 := Lib.hid ht; have R3 := Lib.hid (R2.out.keepA hkp T2.out); have B3 := Lib.hid (B2.out.trans (T2.out.keep hkp HGE.out)); have K3 := Lib.hid (K2.out.keepA hkp (by decide) T2.out); have SL3 := Lib.hid hsl
              obtain ⟨Au, du, rfl, _⟩ := id hsl
              clear ht hsl hkp QO T2 R2 B2 K2 S2
              go_wp2_with (refine wpList_loadS _ (isP s.c) rfl (.tmp 66) rfl N 1 rfl (by have := A26.sub K3.out.rowAt; simpa using this) ?_)
              refine (told26_any s.c w3).mono ?_
              rintro e w4 ⟨rfl, hb4⟩
              have T4 := Lib.hid (T3.out.below hb4); have R4 := Lib.hid (R3.out.below hb4); have B4 := Lib.hid (B3.out.trans (hb4.mono B3.out.size)); have SL4 := Lib.hid (SL3.out.below hb4)
              have QR := Lib.hid (RefOpen26_any h mo li la rv Lc s.c L5 G9 w4 (R3.out.below hb4) (by omega) (by have := G2.out.short; omega) (by rcases HOW.out with q | q; exact .inl q; exact .inr ⟨by omega, q.2⟩))
              clear hb4 T3 R3 B3 K3 SL3
              go_wp2_with fail
              refine QR.out.mono ?_
              rintro e w5 ⟨u', rv5, rfl, hrt, hsl, hg⟩
              have T5 := Lib.hid (T4.out.past R4.out hg); have B5 := Lib.hid (Below.pastH B4.out hg HHE.out); have SL5 := Lib.hid (SL4.out.grown R4.out.blk (by decide) hg); have R5 := Lib.hid hrt
              obtain ⟨A', d', rfl, hrA'⟩ := hsl
              obtain ⟨A9, d9, hv9, hrA9⟩ := SL5.out
              injection hv9 with e1 e2 e3
              subst e1; subst e3
              have QS := Lib.hid (sameL26_any Au A' du d' _ _ G9 w5 hrA9 hrA' HL9.out (fun c hc => (OK9.out c hc).below B5.out (Nat.le_refl _) |>.lift B5.out.size))
              have P5 := Lib.hid (show PRel W g h mo li w5 (j + 1) (la + 1) L5 v3 rv5 from ⟨by omega, T5.out, R5.out, G5.out, B5.out, OK5.out⟩)
              clear hrt hg hrA' hrA9 e2 QR T4 R4 B4 SL4 T5 B5 SL5 R5
              go_wp2_with fail
              refine QS.out.mono ?_
              rintro e w6 ⟨rfl, hb6⟩
              have P6 := Lib.hid (P5.out.go hb6)
              clear hb6 QS P5
              go_wp2_with fail
              go_meet
              case rel => exact ⟨rfl, _, _, _, _, P6.out⟩
          · as_aux_lemma =>
              have a17 : w2.cell? ⟨N, 17, none⟩ = some (.int .i64 s.owner) := K2.out.cell 17
              have a18 : w2.cell? ⟨N, 18, none⟩ = some (.int .i64 s.id) := K2.out.cell 18
              cases hp : posU Lc s.owner s.id with
              | none =>
                have HP := Lib.hid hp
                have QG := Lib.hid (Get26_none g mo li la v Lc s.owner s.id w2 T2.out hp)
                clear hp
                go_wp2_with fail
                refine QG.out.mono ?_
                rintro e w3 ⟨rfl, hb3⟩
                have S3 := Lib.hid (S2.out.go hb3); have K3 := Lib.hid (K2.out.below hb3 K2.out.lt)
                clear hb3 QG S2 K2 T2 R2 B2 a17 a18
                go_wp2_with (refine wpList_storeNewS (row := Cu0.row) _ w3 zerosU 36 rfl (isP Cu0) (Cu.one Cu0) rfl rfl (.tmp 16) (.tmp 89) rfl rfl rfl rfl ?_)
                intro w4 k4 hb4 hz4
                have S4 := Lib.hid (S3.out.go hb4); have K4 := Lib.hid (K3.out.below hb4 K3.out.lt); have KP4 := Lib.hid k4
                have QR := Lib.hid (RefGet26_any h mo li la rv Lc s.owner s.id Cu0 false w4 S4.out.ref (.inr ⟨rfl, rfl, HP.out⟩))
                generalize w3.heap.size = NP at *
                clear k4 hb4 hz4 S3 K3
                have a17 : w4.cell? ⟨N, 17, none⟩ = some (.int .i64 s.owner) := K4.out.cell 17
                have a18 : w4.cell? ⟨N, 18, none⟩ = some (.int .i64 s.id) := K4.out.cell 18
                go_wp2_with fail
                refine QR.out.mono ?_
                rintro e w5 ⟨rfl, hb5⟩
                have S5 := Lib.hid (S4.out.go hb5); have KP5 := Lib.hid (KP4.out.below hb5 KP4.out.lt)
                clear hb5 QR S4 K4 KP4 a17 a18
                go_wp2_with (refine wpList_storeNewS (row := Cu0.row) _ w5 zerosU 45 rfl (isR Cu0) (Cu.one Cu0) rfl rfl (.tmp 18) (.tmp 98) rfl rfl rfl rfl ?_)
                intro w6 k6 hb6 hz6
                have HSS := Lib.hid (fun (w' : World) (q : Below w6.heap.size w6 w') => And.intro ((KP5.out.below hb6 KP5.out.lt).rowAt.below q (KP5.out.below hb6 KP5.out.lt).lt) (k6.rowAt.below q k6.lt))
                have S6 := Lib.hid (S5.out.go hb6)
                generalize w5.heap.size = NQ at *
                clear k6 hb6 hz6 S5 KP5
                have HZO := Lib.hid (fun (w' : World) (q : Below w6.heap.size w6 w') => ((Cu0_ok W _ : CuOk W W.heap.size Cu0).below (S6.out.bel.trans (q.mono S6.out.bel.size)) (Nat.le_refl _)).lift (S6.out.bel.trans (q.mono S6.out.bel.size)).size)
                have PRN := Lib.hid (fun (w' : World) (q : Below w6.heap.size w6 w') => (S6.out.go q).up)
                clear S6
                go_wp2_with fail
                have hD0 := Below.drew (Below.refl w6.heap.size w6)
                refine wp_region_held_drew (S := fun w' => RowAt w' NP 0 Cu0.row ∧ RowAt w' NQ 0 Cu0.row) (by kernel_rfl) (HSS.out _ hD0) (fun hHeld => ?_)
                refine wpAnyH_take (i := 0) (v := ?_) rfl (by kernel_rfl) (by kernel_rfl) (by kernel_rfl) (fun _ _ _ h => h) (Or.inl ⟨by rfl, ?_⟩) (by assumption) ?_
                rotate_left
                · intro w hSw; (try dsimp only at hSw); obtain ⟨hS1, hS2⟩ := hSw; go_simp; (try with_reducible rfl)
                try simp only [List.getElem_toArray, List.getElem_cons_zero, List.getElem_cons_succ, Act.put, List.setIfInBounds_toArray, List.set_cons_zero, List.set_cons_succ]
                refine wpAnyH_take (i := 1) (v := ?_) rfl (by kernel_rfl) (by kernel_rfl) (by kernel_rfl) (fun _ _ _ h => h) (Or.inl ⟨by rfl, ?_⟩) (by assumption) ?_
                rotate_left
                · intro w hSw; (try dsimp only at hSw); obtain ⟨hS1, hS2⟩ := hSw; go_simp; (try with_reducible rfl)
                try simp only [List.getElem_toArray, List.getElem_cons_zero, List.getElem_cons_succ, Act.put, List.setIfInBounds_toArray, List.set_cons_zero, List.set_cons_succ]
                refine wpAnyH_take (i := 2) (v := ?_) rfl (by kernel_rfl) (by kernel_rfl) (by kernel_rfl) (fun _ _ _ h => h) (Or.inl ⟨by rfl, ?_⟩) (by assumption) ?_
                rotate_left
                · intro w hSw; (try dsimp only at hSw); obtain ⟨hS1, hS2⟩ := hSw; go_simp; (try with_reducible rfl)
                try simp only [List.getElem_toArray, List.getElem_cons_zero, List.getElem_cons_succ, Act.put, List.setIfInBounds_toArray, List.set_cons_zero, List.set_cons_succ]
                refine wpAnyH_take (i := 3) (v := ?_) rfl (by kernel_rfl) (by kernel_rfl) (by kernel_rfl) (fun _ _ _ h => h) (Or.inl ⟨by rfl, ?_⟩) (by assumption) ?_
                rotate_left
                · intro w hSw; (try dsimp only at hSw); obtain ⟨hS1, hS2⟩ := hSw; go_simp; (try with_reducible rfl)
                try simp only [List.getElem_toArray, List.getElem_cons_zero, List.getElem_cons_succ, Act.put, List.setIfInBounds_toArray, List.set_cons_zero, List.set_cons_succ]
                refine wpAnyH_take (i := 4) (v := aggS Cu0.row) rfl (by kernel_rfl) (by kernel_rfl) (by kernel_rfl) (fun _ _ _ h => h) (Or.inl ⟨by rfl, ?_⟩) (by assumption) ?_
                · intro w hSw; exact load_execS _ (isP Cu0) rfl rfl hSw.1
                try simp only [List.getElem_toArray, List.getElem_cons_zero, List.getElem_cons_succ, Act.put, List.setIfInBounds_toArray, List.set_cons_zero, List.set_cons_succ]
                refine wpAnyH_take (i := 6) (v := aggS Cu0.row) rfl (by kernel_rfl) (by kernel_rfl) (by kernel_rfl) (fun _ _ _ h => h) (Or.inl ⟨by rfl, ?_⟩) (by assumption) ?_
                · intro w hSw; exact load_execS _ (isR Cu0) rfl rfl hSw.2
                try simp only [List.getElem_toArray, List.getElem_cons_zero, List.getElem_cons_succ, Act.put, List.setIfInBounds_toArray, List.set_cons_zero, List.set_cons_succ]
                refine wpAnyH_ready (rs := [5]) (by kernel_rfl) (by simp) ?_
                refine AllReadyH.cons (o := _) rfl (fun K hK => ?_) AllReadyH.nil
                rw [if_pos (by rfl)]
                go_simp
                go_at_call 13
                refine (told26_any Cu0 _).mono ?_
                rintro e wa ⟨rfl, hg⟩
                have hD1 := below2 hD0 hg
                clear hg
                go_wp2_with fail
                refine hK.out _ _ (HSS.out _ hD1) (fun hHeld2 => ?_)
                clear hK K hHeld
                have hHeld := hHeld2
                clear hHeld2
                try simp only [List.getElem_toArray, List.getElem_cons_zero, List.getElem_cons_succ, Act.put, List.setIfInBounds_toArray, List.set_cons_zero, List.set_cons_succ]
                refine wpAnyH_ready (rs := [7]) (by kernel_rfl) (by simp) ?_
                refine AllReadyH.cons (o := _) rfl (fun K hK => ?_) AllReadyH.nil
                rw [if_pos (by rfl)]
                go_simp
                go_at_call 17
                refine (Same26_same Cu0 _ (HZO.out _ hD1)).mono ?_
                rintro e wb ⟨rfl, hg⟩
                have hD2 := below2 hD1 hg
                clear hg
                go_wp2_with fail
                refine hK.out _ _ (HSS.out _ hD2) (fun hHeld2 => ?_)
                clear hK K hHeld
                have hHeld := hHeld2
                clear hHeld2
                try simp only [List.getElem_toArray, List.getElem_cons_zero, List.getElem_cons_succ, Act.put, List.setIfInBounds_toArray, List.set_cons_zero, List.set_cons_succ]
                refine wpAnyH_take (i := 8) (v := ?_) rfl (by kernel_rfl) (by kernel_rfl) (by kernel_rfl) (fun _ _ _ h => h) (Or.inl ⟨by rfl, ?_⟩) (by assumption) ?_
                rotate_left
                · intro w hSw; (try dsimp only at hSw); obtain ⟨hS1, hS2⟩ := hSw; go_simp; (try with_reducible rfl)
                try simp only [List.getElem_toArray, List.getElem_cons_zero, List.getElem_cons_succ, Act.put, List.setIfInBounds_toArray, List.set_cons_zero, List.set_cons_succ]
                refine wpAnyH_take (i := 9) (v := ?_) rfl (by kernel_rfl) (by kernel_rfl) (by kernel_rfl) (fun _ _ _ h => h) (Or.inl ⟨by rfl, ?_⟩) (by assumption) ?_
                rotate_left
                · intro w hSw; (try dsimp only at hSw); obtain ⟨hS1, hS2⟩ := hSw; go_simp; (try with_reducible rfl)
                try simp only [List.getElem_toArray, List.getElem_cons_zero, List.getElem_cons_succ, Act.put, List.setIfInBounds_toArray, List.set_cons_zero, List.set_cons_succ]
                refine wpAnyH_done (by kernel_rfl) ?_ _
                have PR := Lib.hid (PRN.out _ hD2)
                clear hHeld hD0 hD1 hD2 HSS HZO PRN
                go_wp2_with fail
                go_meet
                case rel => exact ⟨rfl, _, _, _, _, PR.out⟩
              | some k9 =>
                obtain ⟨z, hz9, _⟩ := posU_some hp
                have HP := Lib.hid hp; have HZ9 := Lib.hid hz9
                clear hz9
                have QG := Lib.hid (Get26_some g mo li la v Lc k9 z s.owner s.id w2 T2.out hp HZ9.out)
                clear hp
                go_wp2_with fail
                refine QG.out.mono ?_
                rintro e w3 ⟨rfl, hb3⟩
                have S3 := Lib.hid (S2.out.go hb3); have K3 := Lib.hid (K2.out.below hb3 K2.out.lt)
                clear hb3 QG S2 K2 T2 R2 B2 a17 a18
                go_wp2_with (refine wpList_storeNewS (row := z.row) _ w3 zerosU 36 rfl (isP z) (Cu.one z) rfl rfl (.tmp 16) (.tmp 89) rfl rfl rfl rfl ?_)
                intro w4 k4 hb4 hz4
                have S4 := Lib.hid (S3.out.go hb4); have K4 := Lib.hid (K3.out.below hb4 K3.out.lt); have KP4 := Lib.hid k4
                have QR := Lib.hid (RefGet26_any h mo li la rv Lc s.owner s.id z true w4 S4.out.ref (.inl ⟨rfl, k9, HP.out, HZ9.out⟩))
                generalize w3.heap.size = NP at *
                clear k4 hb4 hz4 S3 K3
                have a17 : w4.cell? ⟨N, 17, none⟩ = some (.int .i64 s.owner) := K4.out.cell 17
                have a18 : w4.cell? ⟨N, 18, none⟩ = some (.int .i64 s.id) := K4.out.cell 18
                go_wp2_with fail
                refine QR.out.mono ?_
                rintro e w5 ⟨rfl, hb5⟩
                have S5 := Lib.hid (S4.out.go hb5); have KP5 := Lib.hid (KP4.out.below hb5 KP4.out.lt)
                clear hb5 QR S4 K4 KP4 a17 a18
                go_wp2_with (refine wpList_storeNewS (row := z.row) _ w5 zerosU 45 rfl (isR z) (Cu.one z) rfl rfl (.tmp 18) (.tmp 98) rfl rfl rfl rfl ?_)
                intro w6 k6 hb6 hz6
                have HSS := Lib.hid (fun (w' : World) (q : Below w6.heap.size w6 w') => And.intro ((KP5.out.below hb6 KP5.out.lt).rowAt.below q (KP5.out.below hb6 KP5.out.lt).lt) (k6.rowAt.below q k6.lt))
                have S6 := Lib.hid (S5.out.go hb6)
                generalize w5.heap.size = NQ at *
                clear k6 hb6 hz6 S5 KP5
                have HZO := Lib.hid (fun (w' : World) (q : Below w6.heap.size w6 w') => ((OK2.out z (List.mem_of_getElem? HZ9.out) : CuOk W W.heap.size z).below (S6.out.bel.trans (q.mono S6.out.bel.size)) (Nat.le_refl _)).lift (S6.out.bel.trans (q.mono S6.out.bel.size)).size)
                have PRN := Lib.hid (fun (w' : World) (q : Below w6.heap.size w6 w') => (S6.out.go q).up)
                clear S6
                go_wp2_with fail
                have hD0 := Below.drew (Below.refl w6.heap.size w6)
                refine wp_region_held_drew (S := fun w' => RowAt w' NP 0 z.row ∧ RowAt w' NQ 0 z.row) (by kernel_rfl) (HSS.out _ hD0) (fun hHeld => ?_)
                refine wpAnyH_take (i := 0) (v := ?_) rfl (by kernel_rfl) (by kernel_rfl) (by kernel_rfl) (fun _ _ _ h => h) (Or.inl ⟨by rfl, ?_⟩) (by assumption) ?_
                rotate_left
                · intro w hSw; (try dsimp only at hSw); obtain ⟨hS1, hS2⟩ := hSw; go_simp; (try with_reducible rfl)
                try simp only [List.getElem_toArray, List.getElem_cons_zero, List.getElem_cons_succ, Act.put, List.setIfInBounds_toArray, List.set_cons_zero, List.set_cons_succ]
                refine wpAnyH_take (i := 1) (v := ?_) rfl (by kernel_rfl) (by kernel_rfl) (by kernel_rfl) (fun _ _ _ h => h) (Or.inl ⟨by rfl, ?_⟩) (by assumption) ?_
                rotate_left
                · intro w hSw; (try dsimp only at hSw); obtain ⟨hS1, hS2⟩ := hSw; go_simp; (try with_reducible rfl)
                try simp only [List.getElem_toArray, List.getElem_cons_zero, List.getElem_cons_succ, Act.put, List.setIfInBounds_toArray, List.set_cons_zero, List.set_cons_succ]
                refine wpAnyH_take (i := 2) (v := ?_) rfl (by kernel_rfl) (by kernel_rfl) (by kernel_rfl) (fun _ _ _ h => h) (Or.inl ⟨by rfl, ?_⟩) (by assumption) ?_
                rotate_left
                · intro w hSw; (try dsimp only at hSw); obtain ⟨hS1, hS2⟩ := hSw; go_simp; (try with_reducible rfl)
                try simp only [List.getElem_toArray, List.getElem_cons_zero, List.getElem_cons_succ, Act.put, List.setIfInBounds_toArray, List.set_cons_zero, List.set_cons_succ]
                refine wpAnyH_take (i := 3) (v := ?_) rfl (by kernel_rfl) (by kernel_rfl) (by kernel_rfl) (fun _ _ _ h => h) (Or.inl ⟨by rfl, ?_⟩) (by assumption) ?_
                rotate_left
                · intro w hSw; (try dsimp only at hSw); obtain ⟨hS1, hS2⟩ := hSw; go_simp; (try with_reducible rfl)
                try simp only [List.getElem_toArray, List.getElem_cons_zero, List.getElem_cons_succ, Act.put, List.setIfInBounds_toArray, List.set_cons_zero, List.set_cons_succ]
                refine wpAnyH_take (i := 4) (v := aggS z.row) rfl (by kernel_rfl) (by kernel_rfl) (by kernel_rfl) (fun _ _ _ h => h) (Or.inl ⟨by rfl, ?_⟩) (by assumption) ?_
                · intro w hSw; exact load_execS _ (isP z) rfl rfl hSw.1
                try simp only [List.getElem_toArray, List.getElem_cons_zero, List.getElem_cons_succ, Act.put, List.setIfInBounds_toArray, List.set_cons_zero, List.set_cons_succ]
                refine wpAnyH_take (i := 6) (v := aggS z.row) rfl (by kernel_rfl) (by kernel_rfl) (by kernel_rfl) (fun _ _ _ h => h) (Or.inl ⟨by rfl, ?_⟩) (by assumption) ?_
                · intro w hSw; exact load_execS _ (isR z) rfl rfl hSw.2
                try simp only [List.getElem_toArray, List.getElem_cons_zero, List.getElem_cons_succ, Act.put, List.setIfInBounds_toArray, List.set_cons_zero, List.set_cons_succ]
                refine wpAnyH_ready (rs := [5]) (by kernel_rfl) (by simp) ?_
                refine AllReadyH.cons (o := _) rfl (fun K hK => ?_) AllReadyH.nil
                rw [if_pos (by rfl)]
                go_simp
                go_at_call 13
                refine (told26_any z _).mono ?_
                rintro e wa ⟨rfl, hg⟩
                have hD1 := below2 hD0 hg
                clear hg
                go_wp2_with fail
                refine hK.out _ _ (HSS.out _ hD1) (fun hHeld2 => ?_)
                clear hK K hHeld
                have hHeld := hHeld2
                clear hHeld2
                try simp only [List.getElem_toArray, List.getElem_cons_zero, List.getElem_cons_succ, Act.put, List.setIfInBounds_toArray, List.set_cons_zero, List.set_cons_succ]
                refine wpAnyH_ready (rs := [7]) (by kernel_rfl) (by simp) ?_
                refine AllReadyH.cons (o := _) rfl (fun K hK => ?_) AllReadyH.nil
                rw [if_pos (by rfl)]
                go_simp
                go_at_call 17
                refine (Same26_same z _ (HZO.out _ hD1)).mono ?_
                rintro e wb ⟨rfl, hg⟩
                have hD2 := below2 hD1 hg
                clear hg
                go_wp2_with fail
                refine hK.out _ _ (HSS.out _ hD2) (fun hHeld2 => ?_)
                clear hK K hHeld
                have hHeld := hHeld2
                clear hHeld2
                try simp only [List.getElem_toArray, List.getElem_cons_zero, List.getElem_cons_succ, Act.put, List.setIfInBounds_toArray, List.set_cons_zero, List.set_cons_succ]
                refine wpAnyH_take (i := 8) (v := ?_) rfl (by kernel_rfl) (by kernel_rfl) (by kernel_rfl) (fun _ _ _ h => h) (Or.inl ⟨by rfl, ?_⟩) (by assumption) ?_
                rotate_left
                · intro w hSw; (try dsimp only at hSw); obtain ⟨hS1, hS2⟩ := hSw; go_simp; (try with_reducible rfl)
                try simp only [List.getElem_toArray, List.getElem_cons_zero, List.getElem_cons_succ, Act.put, List.setIfInBounds_toArray, List.set_cons_zero, List.set_cons_succ]
                refine wpAnyH_take (i := 9) (v := ?_) rfl (by kernel_rfl) (by kernel_rfl) (by kernel_rfl) (fun _ _ _ h => h) (Or.inl ⟨by rfl, ?_⟩) (by assumption) ?_
                rotate_left
                · intro w hSw; (try dsimp only at hSw); obtain ⟨hS1, hS2⟩ := hSw; go_simp; (try with_reducible rfl)
                try simp only [List.getElem_toArray, List.getElem_cons_zero, List.getElem_cons_succ, Act.put, List.setIfInBounds_toArray, List.set_cons_zero, List.set_cons_succ]
                refine wpAnyH_done (by kernel_rfl) ?_ _
                have PR := Lib.hid (PRN.out _ hD2)
                clear hHeld hD0 hD1 hD2 HSS HZO PRN
                go_wp2_with fail
                go_meet
                case rel => exact ⟨rfl, _, _, _, _, PR.out⟩
          · as_aux_lemma =>
              cases hp : posU Lc s.owner s.id with
              | none =>
                have HPK := Lib.hid hp
                have HP := Lib.hid (move_none (a := s.aa) (l := s.al) hp)
                clear hp
                have HC2 := Lib.hid (And.intro (K2.out.cell 17) (And.intro (K2.out.cell 18) (And.intro (K2.out.cell 19) (K2.out.cell 20))))
                have Q1 := Lib.hid (fun (_ : True) => Move26_none g mo li la v Lc s.owner s.id s.aa s.al w2.drew T2d.out HPK.out)
                go_wp2_with fail
                refine wp_region_held_drew (S := fun w' => w'.cell? ⟨N, 17, none⟩ = some (.int .i64 s.owner) ∧ w'.cell? ⟨N, 18, none⟩ = some (.int .i64 s.id) ∧ w'.cell? ⟨N, 19, none⟩ = some (.int .u32 s.aa) ∧ w'.cell? ⟨N, 20, none⟩ = some (.int .i64 s.al)) (by kernel_rfl) (HC2.out) (fun hHeld => ?_)
                refine wpAnyH_take (i := 0) (v := ?_) rfl (by kernel_rfl) (by kernel_rfl) (by kernel_rfl) (fun _ _ _ h => h) (Or.inl ⟨by rfl, ?_⟩) (by assumption) ?_
                rotate_left
                · intro w hSw; (try dsimp only at hSw); obtain ⟨hS1, hS2, hS3, hS4⟩ := hSw; go_simp; (try with_reducible rfl)
                try simp only [List.getElem_toArray, List.getElem_cons_zero, List.getElem_cons_succ, Act.put, List.setIfInBounds_toArray, List.set_cons_zero, List.set_cons_succ]
                refine wpAnyH_take (i := 1) (v := ?_) rfl (by kernel_rfl) (by kernel_rfl) (by kernel_rfl) (fun _ _ _ h => h) (Or.inl ⟨by rfl, ?_⟩) (by assumption) ?_
                rotate_left
                · intro w hSw; (try dsimp only at hSw); obtain ⟨hS1, hS2, hS3, hS4⟩ := hSw; go_simp; (try with_reducible rfl)
                try simp only [List.getElem_toArray, List.getElem_cons_zero, List.getElem_cons_succ, Act.put, List.setIfInBounds_toArray, List.set_cons_zero, List.set_cons_succ]
                refine wpAnyH_take (i := 2) (v := ?_) rfl (by kernel_rfl) (by kernel_rfl) (by kernel_rfl) (fun _ _ _ h => h) (Or.inl ⟨by rfl, ?_⟩) (by assumption) ?_
                rotate_left
                · intro w hSw; (try dsimp only at hSw); obtain ⟨hS1, hS2, hS3, hS4⟩ := hSw; go_simp; (try with_reducible rfl)
                try simp only [List.getElem_toArray, List.getElem_cons_zero, List.getElem_cons_succ, Act.put, List.setIfInBounds_toArray, List.set_cons_zero, List.set_cons_succ]
                refine wpAnyH_take (i := 3) (v := ?_) rfl (by kernel_rfl) (by kernel_rfl) (by kernel_rfl) (fun _ _ _ h => h) (Or.inl ⟨by rfl, ?_⟩) (by assumption) ?_
                rotate_left
                · intro w hSw; (try dsimp only at hSw); obtain ⟨hS1, hS2, hS3, hS4⟩ := hSw; go_simp; (try with_reducible rfl)
                try simp only [List.getElem_toArray, List.getElem_cons_zero, List.getElem_cons_succ, Act.put, List.setIfInBounds_toArray, List.set_cons_zero, List.set_cons_succ]
                refine wpAnyH_take (i := 4) (v := ?_) rfl (by kernel_rfl) (by kernel_rfl) (by kernel_rfl) (fun _ _ _ h => h) (Or.inl ⟨by rfl, ?_⟩) (by assumption) ?_
                rotate_left
                · intro w hSw; (try dsimp only at hSw); obtain ⟨hS1, hS2, hS3, hS4⟩ := hSw; go_simp; (try with_reducible rfl)
                try simp only [List.getElem_toArray, List.getElem_cons_zero, List.getElem_cons_succ, Act.put, List.setIfInBounds_toArray, List.set_cons_zero, List.set_cons_succ]
                refine wpAnyH_take (i := 5) (v := ?_) rfl (by kernel_rfl) (by kernel_rfl) (by kernel_rfl) (fun _ _ _ h => h) (Or.inl ⟨by rfl, ?_⟩) (by assumption) ?_
                rotate_left
                · intro w hSw; (try dsimp only at hSw); obtain ⟨hS1, hS2, hS3, hS4⟩ := hSw; go_simp; (try with_reducible rfl)
                try simp only [List.getElem_toArray, List.getElem_cons_zero, List.getElem_cons_succ, Act.put, List.setIfInBounds_toArray, List.set_cons_zero, List.set_cons_succ]
                refine wpAnyH_take (i := 6) (v := ?_) rfl (by kernel_rfl) (by kernel_rfl) (by kernel_rfl) (fun _ _ _ h => h) (Or.inl ⟨by rfl, ?_⟩) (by assumption) ?_
                rotate_left
                · intro w hSw; (try dsimp only at hSw); obtain ⟨hS1, hS2, hS3, hS4⟩ := hSw; go_simp; (try with_reducible rfl)
                try simp only [List.getElem_toArray, List.getElem_cons_zero, List.getElem_cons_succ, Act.put, List.setIfInBounds_toArray, List.set_cons_zero, List.set_cons_succ]
                refine wpAnyH_take (i := 8) (v := ?_) rfl (by kernel_rfl) (by kernel_rfl) (by kernel_rfl) (fun _ _ _ h => h) (Or.inl ⟨by rfl, ?_⟩) (by assumption) ?_
                rotate_left
                · intro w hSw; (try dsimp only at hSw); obtain ⟨hS1, hS2, hS3, hS4⟩ := hSw; go_simp; (try with_reducible rfl)
                try simp only [List.getElem_toArray, List.getElem_cons_zero, List.getElem_cons_succ, Act.put, List.setIfInBounds_toArray, List.set_cons_zero, List.set_cons_succ]
                refine wpAnyH_take (i := 9) (v := ?_) rfl (by kernel_rfl) (by kernel_rfl) (by kernel_rfl) (fun _ _ _ h => h) (Or.inl ⟨by rfl, ?_⟩) (by assumption) ?_
                rotate_left
                · intro w hSw; (try dsimp only at hSw); obtain ⟨hS1, hS2, hS3, hS4⟩ := hSw; go_simp; (try with_reducible rfl)
                try simp only [List.getElem_toArray, List.getElem_cons_zero, List.getElem_cons_succ, Act.put, List.setIfInBounds_toArray, List.set_cons_zero, List.set_cons_succ]
                refine wpAnyH_take (i := 10) (v := ?_) rfl (by kernel_rfl) (by kernel_rfl) (by kernel_rfl) (fun _ _ _ h => h) (Or.inl ⟨by rfl, ?_⟩) (by assumption) ?_
                rotate_left
                · intro w hSw; (try dsimp only at hSw); obtain ⟨hS1, hS2, hS3, hS4⟩ := hSw; go_simp; (try with_reducible rfl)
                try simp only [List.getElem_toArray, List.getElem_cons_zero, List.getElem_cons_succ, Act.put, List.setIfInBounds_toArray, List.set_cons_zero, List.set_cons_succ]
                refine wpAnyH_take (i := 11) (v := ?_) rfl (by kernel_rfl) (by kernel_rfl) (by kernel_rfl) (fun _ _ _ h => h) (Or.inl ⟨by rfl, ?_⟩) (by assumption) ?_
                rotate_left
                · intro w hSw; (try dsimp only at hSw); obtain ⟨hS1, hS2, hS3, hS4⟩ := hSw; go_simp; (try with_reducible rfl)
                try simp only [List.getElem_toArray, List.getElem_cons_zero, List.getElem_cons_succ, Act.put, List.setIfInBounds_toArray, List.set_cons_zero, List.set_cons_succ]
                refine wpAnyH_take (i := 12) (v := ?_) rfl (by kernel_rfl) (by kernel_rfl) (by kernel_rfl) (fun _ _ _ h => h) (Or.inl ⟨by rfl, ?_⟩) (by assumption) ?_
                rotate_left
                · intro w hSw; (try dsimp only at hSw); obtain ⟨hS1, hS2, hS3, hS4⟩ := hSw; go_simp; (try with_reducible rfl)
                try simp only [List.getElem_toArray, List.getElem_cons_zero, List.getElem_cons_succ, Act.put, List.setIfInBounds_toArray, List.set_cons_zero, List.set_cons_succ]
                refine wpAnyH_take (i := 13) (v := ?_) rfl (by kernel_rfl) (by kernel_rfl) (by kernel_rfl) (fun _ _ _ h => h) (Or.inl ⟨by rfl, ?_⟩) (by assumption) ?_
                rotate_left
                · intro w hSw; (try dsimp only at hSw); obtain ⟨hS1, hS2, hS3, hS4⟩ := hSw; go_simp; (try with_reducible rfl)
                try simp only [List.getElem_toArray, List.getElem_cons_zero, List.getElem_cons_succ, Act.put, List.setIfInBounds_toArray, List.set_cons_zero, List.set_cons_succ]
                refine wpAnyH_take (i := 14) (v := ?_) rfl (by kernel_rfl) (by kernel_rfl) (by kernel_rfl) (fun _ _ _ h => h) (Or.inl ⟨by rfl, ?_⟩) (by assumption) ?_
                rotate_left
                · intro w hSw; (try dsimp only at hSw); obtain ⟨hS1, hS2, hS3, hS4⟩ := hSw; go_simp; (try with_reducible rfl)
                try simp only [List.getElem_toArray, List.getElem_cons_zero, List.getElem_cons_succ, Act.put, List.setIfInBounds_toArray, List.set_cons_zero, List.set_cons_succ]
                refine wpAnyH_ready (rs := [7]) (by kernel_rfl) (by simp) ?_
                refine AllReadyH.cons (o := _) rfl (fun K hK => ?_) AllReadyH.nil
                rw [if_pos (by rfl)]
                go_simp
                go_at_call 18
                refine ((Q1.out trivial)).mono ?_
                rintro e wa ⟨rfl, ht, hkp⟩
                have T3 := Lib.hid ht; have R3 := Lib.hid (R2d.out.keepA hkp T2d.out); have B3 := Lib.hid (B2d.out.trans (T2d.out.keep hkp HGE.out)); have K3 := Lib.hid (K2d.out.keepA hkp (by decide) T2d.out)
                have Q2 := Lib.hid (show Calls Try.prog 19 _ wa (RetRefM wa h mo li la Lc false) from by have := RefMove26_any h mo li la rv Lc s.owner s.id s.aa s.al wa R3.out; rw [HP.out.1, HP.out.2] at this; exact this)
                clear ht hkp
                go_wp2_with fail
                refine hK.out _ _ (⟨K3.out.cell 17, K3.out.cell 18, K3.out.cell 19, K3.out.cell 20⟩) (fun hHeld2 => ?_)
                clear hK K hHeld
                have hHeld := hHeld2
                clear hHeld2
                try simp only [List.getElem_toArray, List.getElem_cons_zero, List.getElem_cons_succ, Act.put, List.setIfInBounds_toArray, List.set_cons_zero, List.set_cons_succ]
                refine wpAnyH_ready (rs := [15]) (by kernel_rfl) (by simp) ?_
                refine AllReadyH.cons (o := _) rfl (fun K hK => ?_) AllReadyH.nil
                rw [if_pos (by rfl)]
                go_simp
                go_at_call 19
                refine (Q2.out).mono ?_
                rintro e wb ⟨rfl, rv5, hrt, hg⟩
                have P5 := Lib.hid (show PRel W g h mo li wb (j + 1) la Lc v rv5 from ⟨by omega, T3.out.past R3.out hg, hrt, G2.out, Below.pastH B3.out hg HHE.out, OK2.out⟩)
                have K5 := Lib.hid (K3.out.pastH R3.out hg (by decide))
                clear hrt hg
                go_wp2_with fail
                refine hK.out _ _ (⟨K5.out.cell 17, K5.out.cell 18, K5.out.cell 19, K5.out.cell 20⟩) (fun hHeld2 => ?_)
                clear hK K hHeld
                have hHeld := hHeld2
                clear hHeld2
                try simp only [List.getElem_toArray, List.getElem_cons_zero, List.getElem_cons_succ, Act.put, List.setIfInBounds_toArray, List.set_cons_zero, List.set_cons_succ]
                refine wpAnyH_take (i := 16) (v := ?_) rfl (by kernel_rfl) (by kernel_rfl) (by kernel_rfl) (fun _ _ _ h => h) (Or.inl ⟨by rfl, ?_⟩) (by assumption) ?_
                rotate_left
                · intro w hSw; (try dsimp only at hSw); obtain ⟨hS1, hS2, hS3, hS4⟩ := hSw; go_simp; (try with_reducible rfl)
                try simp only [List.getElem_toArray, List.getElem_cons_zero, List.getElem_cons_succ, Act.put, List.setIfInBounds_toArray, List.set_cons_zero, List.set_cons_succ]
                refine wpAnyH_take (i := 17) (v := ?_) rfl (by kernel_rfl) (by kernel_rfl) (by kernel_rfl) (fun _ _ _ h => h) (Or.inl ⟨by rfl, ?_⟩) (by assumption) ?_
                rotate_left
                · intro w hSw; (try dsimp only at hSw); obtain ⟨hS1, hS2, hS3, hS4⟩ := hSw; go_simp; (try with_reducible rfl)
                try simp only [List.getElem_toArray, List.getElem_cons_zero, List.getElem_cons_succ, Act.put, List.setIfInBounds_toArray, List.set_cons_zero, List.set_cons_succ]
                refine wpAnyH_done (by kernel_rfl) ?_ _
                go_wp2_with fail
                go_meet
                case rel => exact ⟨rfl, _, _, _, _, P5.out⟩
              | some k9 =>
                obtain ⟨z, hz9, _⟩ := posU_some hp
                have HZ9 := Lib.hid hz9
                have HPK := Lib.hid hp
                have HP := Lib.hid (move_some G2.out (a := s.aa) (l := s.al) hp hz9)
                clear hz9
                clear hp
                have HC2 := Lib.hid (And.intro (K2.out.cell 17) (And.intro (K2.out.cell 18) (And.intro (K2.out.cell 19) (K2.out.cell 20))))
                have Q1 := Lib.hid (fun (_ : True) => Move26_some g mo li la v Lc k9 z s.owner s.id s.aa s.al w2.drew T2d.out HPK.out HZ9.out)
                go_wp2_with fail
                refine wp_region_held_drew (S := fun w' => w'.cell? ⟨N, 17, none⟩ = some (.int .i64 s.owner) ∧ w'.cell? ⟨N, 18, none⟩ = some (.int .i64 s.id) ∧ w'.cell? ⟨N, 19, none⟩ = some (.int .u32 s.aa) ∧ w'.cell? ⟨N, 20, none⟩ = some (.int .i64 s.al)) (by kernel_rfl) (HC2.out) (fun hHeld => ?_)
                refine wpAnyH_take (i := 0) (v := ?_) rfl (by kernel_rfl) (by kernel_rfl) (by kernel_rfl) (fun _ _ _ h => h) (Or.inl ⟨by rfl, ?_⟩) (by assumption) ?_
                rotate_left
                · intro w hSw; (try dsimp only at hSw); obtain ⟨hS1, hS2, hS3, hS4⟩ := hSw; go_simp; (try with_reducible rfl)
                try simp only [List.getElem_toArray, List.getElem_cons_zero, List.getElem_cons_succ, Act.put, List.setIfInBounds_toArray, List.set_cons_zero, List.set_cons_succ]
                refine wpAnyH_take (i := 1) (v := ?_) rfl (by kernel_rfl) (by kernel_rfl) (by kernel_rfl) (fun _ _ _ h => h) (Or.inl ⟨by rfl, ?_⟩) (by assumption) ?_
                rotate_left
                · intro w hSw; (try dsimp only at hSw); obtain ⟨hS1, hS2, hS3, hS4⟩ := hSw; go_simp; (try with_reducible rfl)
                try simp only [List.getElem_toArray, List.getElem_cons_zero, List.getElem_cons_succ, Act.put, List.setIfInBounds_toArray, List.set_cons_zero, List.set_cons_succ]
                refine wpAnyH_take (i := 2) (v := ?_) rfl (by kernel_rfl) (by kernel_rfl) (by kernel_rfl) (fun _ _ _ h => h) (Or.inl ⟨by rfl, ?_⟩) (by assumption) ?_
                rotate_left
                · intro w hSw; (try dsimp only at hSw); obtain ⟨hS1, hS2, hS3, hS4⟩ := hSw; go_simp; (try with_reducible rfl)
                try simp only [List.getElem_toArray, List.getElem_cons_zero, List.getElem_cons_succ, Act.put, List.setIfInBounds_toArray, List.set_cons_zero, List.set_cons_succ]
                refine wpAnyH_take (i := 3) (v := ?_) rfl (by kernel_rfl) (by kernel_rfl) (by kernel_rfl) (fun _ _ _ h => h) (Or.inl ⟨by rfl, ?_⟩) (by assumption) ?_
                rotate_left
                · intro w hSw; (try dsimp only at hSw); obtain ⟨hS1, hS2, hS3, hS4⟩ := hSw; go_simp; (try with_reducible rfl)
                try simp only [List.getElem_toArray, List.getElem_cons_zero, List.getElem_cons_succ, Act.put, List.setIfInBounds_toArray, List.set_cons_zero, List.set_cons_succ]
                refine wpAnyH_take (i := 4) (v := ?_) rfl (by kernel_rfl) (by kernel_rfl) (by kernel_rfl) (fun _ _ _ h => h) (Or.inl ⟨by rfl, ?_⟩) (by assumption) ?_
                rotate_left
                · intro w hSw; (try dsimp only at hSw); obtain ⟨hS1, hS2, hS3, hS4⟩ := hSw; go_simp; (try with_reducible rfl)
                try simp only [List.getElem_toArray, List.getElem_cons_zero, List.getElem_cons_succ, Act.put, List.setIfInBounds_toArray, List.set_cons_zero, List.set_cons_succ]
                refine wpAnyH_take (i := 5) (v := ?_) rfl (by kernel_rfl) (by kernel_rfl) (by kernel_rfl) (fun _ _ _ h => h) (Or.inl ⟨by rfl, ?_⟩) (by assumption) ?_
                rotate_left
                · intro w hSw; (try dsimp only at hSw); obtain ⟨hS1, hS2, hS3, hS4⟩ := hSw; go_simp; (try with_reducible rfl)
                try simp only [List.getElem_toArray, List.getElem_cons_zero, List.getElem_cons_succ, Act.put, List.setIfInBounds_toArray, List.set_cons_zero, List.set_cons_succ]
                refine wpAnyH_take (i := 6) (v := ?_) rfl (by kernel_rfl) (by kernel_rfl) (by kernel_rfl) (fun _ _ _ h => h) (Or.inl ⟨by rfl, ?_⟩) (by assumption) ?_
                rotate_left
                · intro w hSw; (try dsimp only at hSw); obtain ⟨hS1, hS2, hS3, hS4⟩ := hSw; go_simp; (try with_reducible rfl)
                try simp only [List.getElem_toArray, List.getElem_cons_zero, List.getElem_cons_succ, Act.put, List.setIfInBounds_toArray, List.set_cons_zero, List.set_cons_succ]
                refine wpAnyH_take (i := 8) (v := ?_) rfl (by kernel_rfl) (by kernel_rfl) (by kernel_rfl) (fun _ _ _ h => h) (Or.inl ⟨by rfl, ?_⟩) (by assumption) ?_
                rotate_left
                · intro w hSw; (try dsimp only at hSw); obtain ⟨hS1, hS2, hS3, hS4⟩ := hSw; go_simp; (try with_reducible rfl)
                try simp only [List.getElem_toArray, List.getElem_cons_zero, List.getElem_cons_succ, Act.put, List.setIfInBounds_toArray, List.set_cons_zero, List.set_cons_succ]
                refine wpAnyH_take (i := 9) (v := ?_) rfl (by kernel_rfl) (by kernel_rfl) (by kernel_rfl) (fun _ _ _ h => h) (Or.inl ⟨by rfl, ?_⟩) (by assumption) ?_
                rotate_left
                · intro w hSw; (try dsimp only at hSw); obtain ⟨hS1, hS2, hS3, hS4⟩ := hSw; go_simp; (try with_reducible rfl)
                try simp only [List.getElem_toArray, List.getElem_cons_zero, List.getElem_cons_succ, Act.put, List.setIfInBounds_toArray, List.set_cons_zero, List.set_cons_succ]
                refine wpAnyH_take (i := 10) (v := ?_) rfl (by kernel_rfl) (by kernel_rfl) (by kernel_rfl) (fun _ _ _ h => h) (Or.inl ⟨by rfl, ?_⟩) (by assumption) ?_
                rotate_left
                · intro w hSw; (try dsimp only at hSw); obtain ⟨hS1, hS2, hS3, hS4⟩ := hSw; go_simp; (try with_reducible rfl)
                try simp only [List.getElem_toArray, List.getElem_cons_zero, List.getElem_cons_succ, Act.put, List.setIfInBounds_toArray, List.set_cons_zero, List.set_cons_succ]
                refine wpAnyH_take (i := 11) (v := ?_) rfl (by kernel_rfl) (by kernel_rfl) (by kernel_rfl) (fun _ _ _ h => h) (Or.inl ⟨by rfl, ?_⟩) (by assumption) ?_
                rotate_left
                · intro w hSw; (try dsimp only at hSw); obtain ⟨hS1, hS2, hS3, hS4⟩ := hSw; go_simp; (try with_reducible rfl)
                try simp only [List.getElem_toArray, List.getElem_cons_zero, List.getElem_cons_succ, Act.put, List.setIfInBounds_toArray, List.set_cons_zero, List.set_cons_succ]
                refine wpAnyH_take (i := 12) (v := ?_) rfl (by kernel_rfl) (by kernel_rfl) (by kernel_rfl) (fun _ _ _ h => h) (Or.inl ⟨by rfl, ?_⟩) (by assumption) ?_
                rotate_left
                · intro w hSw; (try dsimp only at hSw); obtain ⟨hS1, hS2, hS3, hS4⟩ := hSw; go_simp; (try with_reducible rfl)
                try simp only [List.getElem_toArray, List.getElem_cons_zero, List.getElem_cons_succ, Act.put, List.setIfInBounds_toArray, List.set_cons_zero, List.set_cons_succ]
                refine wpAnyH_take (i := 13) (v := ?_) rfl (by kernel_rfl) (by kernel_rfl) (by kernel_rfl) (fun _ _ _ h => h) (Or.inl ⟨by rfl, ?_⟩) (by assumption) ?_
                rotate_left
                · intro w hSw; (try dsimp only at hSw); obtain ⟨hS1, hS2, hS3, hS4⟩ := hSw; go_simp; (try with_reducible rfl)
                try simp only [List.getElem_toArray, List.getElem_cons_zero, List.getElem_cons_succ, Act.put, List.setIfInBounds_toArray, List.set_cons_zero, List.set_cons_succ]
                refine wpAnyH_take (i := 14) (v := ?_) rfl (by kernel_rfl) (by kernel_rfl) (by kernel_rfl) (fun _ _ _ h => h) (Or.inl ⟨by rfl, ?_⟩) (by assumption) ?_
                rotate_left
                · intro w hSw; (try dsimp only at hSw); obtain ⟨hS1, hS2, hS3, hS4⟩ := hSw; go_simp; (try with_reducible rfl)
                try simp only [List.getElem_toArray, List.getElem_cons_zero, List.getElem_cons_succ, Act.put, List.setIfInBounds_toArray, List.set_cons_zero, List.set_cons_succ]
                refine wpAnyH_ready (rs := [7]) (by kernel_rfl) (by simp) ?_
                refine AllReadyH.cons (o := _) rfl (fun K hK => ?_) AllReadyH.nil
                rw [if_pos (by rfl)]
                go_simp
                go_at_call 18
                refine ((Q1.out trivial)).mono ?_
                rintro e wa ⟨rfl, ht, hkp⟩
                have T3 := Lib.hid ht; have R3 := Lib.hid (R2d.out.keepA hkp T2d.out); have B3 := Lib.hid (B2d.out.trans (T2d.out.keep hkp HGE.out)); have K3 := Lib.hid (K2d.out.keepA hkp (by decide) T2d.out)
                have Q2 := Lib.hid (show Calls Try.prog 19 _ wa (RetRefM wa h mo li la (Lc.set k9 (movedU z s.aa s.al)) true) from by have := RefMove26_any h mo li la rv Lc s.owner s.id s.aa s.al wa R3.out; rw [HP.out.1, HP.out.2] at this; exact this)
                clear ht hkp
                go_wp2_with fail
                refine hK.out _ _ (⟨K3.out.cell 17, K3.out.cell 18, K3.out.cell 19, K3.out.cell 20⟩) (fun hHeld2 => ?_)
                clear hK K hHeld
                have hHeld := hHeld2
                clear hHeld2
                try simp only [List.getElem_toArray, List.getElem_cons_zero, List.getElem_cons_succ, Act.put, List.setIfInBounds_toArray, List.set_cons_zero, List.set_cons_succ]
                refine wpAnyH_ready (rs := [15]) (by kernel_rfl) (by simp) ?_
                refine AllReadyH.cons (o := _) rfl (fun K hK => ?_) AllReadyH.nil
                rw [if_pos (by rfl)]
                go_simp
                go_at_call 19
                refine (Q2.out).mono ?_
                rintro e wb ⟨rfl, rv5, hrt, hg⟩
                have P5 := Lib.hid (show PRel W g h mo li wb (j + 1) la (Lc.set k9 (movedU z s.aa s.al)) v rv5 from ⟨by omega, T3.out.past R3.out hg, hrt, G2.out.moved HZ9.out s.aa s.al, Below.pastH B3.out hg HHE.out, (fun c hc => (List.mem_or_eq_of_mem_set hc).elim (OK2.out c) (fun e => by rw [e]; exact moved_ok (OK2.out z (List.mem_of_getElem? HZ9.out))))⟩)
                have K5 := Lib.hid (K3.out.pastH R3.out hg (by decide))
                clear hrt hg
                go_wp2_with fail
                refine hK.out _ _ (⟨K5.out.cell 17, K5.out.cell 18, K5.out.cell 19, K5.out.cell 20⟩) (fun hHeld2 => ?_)
                clear hK K hHeld
                have hHeld := hHeld2
                clear hHeld2
                try simp only [List.getElem_toArray, List.getElem_cons_zero, List.getElem_cons_succ, Act.put, List.setIfInBounds_toArray, List.set_cons_zero, List.set_cons_succ]
                refine wpAnyH_take (i := 16) (v := ?_) rfl (by kernel_rfl) (by kernel_rfl) (by kernel_rfl) (fun _ _ _ h => h) (Or.inl ⟨by rfl, ?_⟩) (by assumption) ?_
                rotate_left
                · intro w hSw; (try dsimp only at hSw); obtain ⟨hS1, hS2, hS3, hS4⟩ := hSw; go_simp; (try with_reducible rfl)
                try simp only [List.getElem_toArray, List.getElem_cons_zero, List.getElem_cons_succ, Act.put, List.setIfInBounds_toArray, List.set_cons_zero, List.set_cons_succ]
                refine wpAnyH_take (i := 17) (v := ?_) rfl (by kernel_rfl) (by kernel_rfl) (by kernel_rfl) (fun _ _ _ h => h) (Or.inl ⟨by rfl, ?_⟩) (by assumption) ?_
                rotate_left
                · intro w hSw; (try dsimp only at hSw); obtain ⟨hS1, hS2, hS3, hS4⟩ := hSw; go_simp; (try with_reducible rfl)
                try simp only [List.getElem_toArray, List.getElem_cons_zero, List.getElem_cons_succ, Act.put, List.setIfInBounds_toArray, List.set_cons_zero, List.set_cons_succ]
                refine wpAnyH_done (by kernel_rfl) ?_ _
                go_wp2_with fail
                go_meet
                case rel => exact ⟨rfl, _, _, _, _, P5.out⟩
          · as_aux_lemma =>
              have a17 : w2.cell? ⟨N, 17, none⟩ = some (.int .i64 s.owner) := K2.out.cell 17
              have a18 : w2.cell? ⟨N, 18, none⟩ = some (.int .i64 s.id) := K2.out.cell 18
              cases hp : posU Lc s.owner s.id with
              | none =>
                have HP := Lib.hid hp
                have QG := Lib.hid (Close26_none g mo li la v Lc s.owner s.id w2 T2.out hp)
                clear hp
                go_wp2_with fail
                refine QG.out.mono ?_
                rintro e w3 ⟨rfl, v3, ht, hkp⟩
                have T3 := Lib.hid ht; have R3 := Lib.hid (R2.out.keepA hkp T2.out); have B3 := Lib.hid (B2.out.trans (T2.out.keep hkp HGE.out)); have K3 := Lib.hid (K2.out.keepA hkp (by decide) T2.out)
                clear ht hkp QG S2 K2 T2 R2 B2 a17 a18
                go_wp2_with (refine wpList_storeNewS (row := Cu0.row) _ w3 zerosU 36 rfl (isP Cu0) (Cu.one Cu0) rfl rfl (.tmp 20) (.tmp 137) rfl rfl rfl rfl ?_)
                intro w4 k4 hb4 hz4
                have T4 := Lib.hid (T3.out.below hb4); have R4 := Lib.hid (R3.out.below hb4); have B4 := Lib.hid (B3.out.trans (hb4.mono B3.out.size)); have K4 := Lib.hid (K3.out.below hb4 K3.out.lt); have KP4 := Lib.hid k4
                have QR := Lib.hid (RefClose26_none h mo li la rv Lc s.owner s.id w4 R4.out HP.out)
                generalize w3.heap.size = NP at *
                clear k4 hb4 hz4 T3 R3 B3 K3
                have a17 : w4.cell? ⟨N, 17, none⟩ = some (.int .i64 s.owner) := K4.out.cell 17
                have a18 : w4.cell? ⟨N, 18, none⟩ = some (.int .i64 s.id) := K4.out.cell 18
                go_wp2_with fail
                refine QR.out.mono ?_
                rintro e w5 ⟨rfl, rv5, hrt, hg⟩
                have S5 := Lib.hid (show PRel W g h mo li w5 (j + 1) la Lc v3 rv5 from ⟨by omega, T4.out.past R4.out hg, hrt, G2.out, Below.pastH B4.out hg HHE.out, OK2.out⟩)
                have KP5 := Lib.hid (KP4.out.pastH R4.out hg (by decide))
                clear hrt hg QR T4 R4 B4 K4 KP4 a17 a18
                go_wp2_with (refine wpList_storeNewS (row := Cu0.row) _ w5 zerosU 45 rfl (isR Cu0) (Cu.one Cu0) rfl rfl (.tmp 22) (.tmp 146) rfl rfl rfl rfl ?_)
                intro w6 k6 hb6 hz6
                have HSS := Lib.hid (fun (w' : World) (q : Below w6.heap.size w6 w') => And.intro ((KP5.out.below hb6 KP5.out.lt).rowAt.below q (KP5.out.below hb6 KP5.out.lt).lt) (k6.rowAt.below q k6.lt))
                have S6 := Lib.hid (S5.out.go hb6)
                generalize w5.heap.size = NQ at *
                clear k6 hb6 hz6 S5 KP5
                have HZO := Lib.hid (fun (w' : World) (q : Below w6.heap.size w6 w') => ((Cu0_ok W _ : CuOk W W.heap.size Cu0).below (S6.out.bel.trans (q.mono S6.out.bel.size)) (Nat.le_refl _)).lift (S6.out.bel.trans (q.mono S6.out.bel.size)).size)
                have PRN := Lib.hid (fun (w' : World) (q : Below w6.heap.size w6 w') => S6.out.go q)
                clear S6
                go_wp2_with fail
                have hD0 := Below.drew (Below.refl w6.heap.size w6)
                refine wp_region_held_drew (S := fun w' => RowAt w' NP 0 Cu0.row ∧ RowAt w' NQ 0 Cu0.row) (by kernel_rfl) (HSS.out _ hD0) (fun hHeld => ?_)
                refine wpAnyH_take (i := 0) (v := ?_) rfl (by kernel_rfl) (by kernel_rfl) (by kernel_rfl) (fun _ _ _ h => h) (Or.inl ⟨by rfl, ?_⟩) (by assumption) ?_
                rotate_left
                · intro w hSw; (try dsimp only at hSw); obtain ⟨hS1, hS2⟩ := hSw; go_simp; (try with_reducible rfl)
                try simp only [List.getElem_toArray, List.getElem_cons_zero, List.getElem_cons_succ, Act.put, List.setIfInBounds_toArray, List.set_cons_zero, List.set_cons_succ]
                refine wpAnyH_take (i := 1) (v := ?_) rfl (by kernel_rfl) (by kernel_rfl) (by kernel_rfl) (fun _ _ _ h => h) (Or.inl ⟨by rfl, ?_⟩) (by assumption) ?_
                rotate_left
                · intro w hSw; (try dsimp only at hSw); obtain ⟨hS1, hS2⟩ := hSw; go_simp; (try with_reducible rfl)
                try simp only [List.getElem_toArray, List.getElem_cons_zero, List.getElem_cons_succ, Act.put, List.setIfInBounds_toArray, List.set_cons_zero, List.set_cons_succ]
                refine wpAnyH_take (i := 2) (v := ?_) rfl (by kernel_rfl) (by kernel_rfl) (by kernel_rfl) (fun _ _ _ h => h) (Or.inl ⟨by rfl, ?_⟩) (by assumption) ?_
                rotate_left
                · intro w hSw; (try dsimp only at hSw); obtain ⟨hS1, hS2⟩ := hSw; go_simp; (try with_reducible rfl)
                try simp only [List.getElem_toArray, List.getElem_cons_zero, List.getElem_cons_succ, Act.put, List.setIfInBounds_toArray, List.set_cons_zero, List.set_cons_succ]
                refine wpAnyH_take (i := 3) (v := ?_) rfl (by kernel_rfl) (by kernel_rfl) (by kernel_rfl) (fun _ _ _ h => h) (Or.inl ⟨by rfl, ?_⟩) (by assumption) ?_
                rotate_left
                · intro w hSw; (try dsimp only at hSw); obtain ⟨hS1, hS2⟩ := hSw; go_simp; (try with_reducible rfl)
                try simp only [List.getElem_toArray, List.getElem_cons_zero, List.getElem_cons_succ, Act.put, List.setIfInBounds_toArray, List.set_cons_zero, List.set_cons_succ]
                refine wpAnyH_take (i := 4) (v := aggS Cu0.row) rfl (by kernel_rfl) (by kernel_rfl) (by kernel_rfl) (fun _ _ _ h => h) (Or.inl ⟨by rfl, ?_⟩) (by assumption) ?_
                · intro w hSw; exact load_execS _ (isP Cu0) rfl rfl hSw.1
                try simp only [List.getElem_toArray, List.getElem_cons_zero, List.getElem_cons_succ, Act.put, List.setIfInBounds_toArray, List.set_cons_zero, List.set_cons_succ]
                refine wpAnyH_take (i := 6) (v := aggS Cu0.row) rfl (by kernel_rfl) (by kernel_rfl) (by kernel_rfl) (fun _ _ _ h => h) (Or.inl ⟨by rfl, ?_⟩) (by assumption) ?_
                · intro w hSw; exact load_execS _ (isR Cu0) rfl rfl hSw.2
                try simp only [List.getElem_toArray, List.getElem_cons_zero, List.getElem_cons_succ, Act.put, List.setIfInBounds_toArray, List.set_cons_zero, List.set_cons_succ]
                refine wpAnyH_ready (rs := [5]) (by kernel_rfl) (by simp) ?_
                refine AllReadyH.cons (o := _) rfl (fun K hK => ?_) AllReadyH.nil
                rw [if_pos (by rfl)]
                go_simp
                go_at_call 13
                refine (told26_any Cu0 _).mono ?_
                rintro e wa ⟨rfl, hg⟩
                have hD1 := below2 hD0 hg
                clear hg
                go_wp2_with fail
                refine hK.out _ _ (HSS.out _ hD1) (fun hHeld2 => ?_)
                clear hK K hHeld
                have hHeld := hHeld2
                clear hHeld2
                try simp only [List.getElem_toArray, List.getElem_cons_zero, List.getElem_cons_succ, Act.put, List.setIfInBounds_toArray, List.set_cons_zero, List.set_cons_succ]
                refine wpAnyH_ready (rs := [7]) (by kernel_rfl) (by simp) ?_
                refine AllReadyH.cons (o := _) rfl (fun K hK => ?_) AllReadyH.nil
                rw [if_pos (by rfl)]
                go_simp
                go_at_call 17
                refine (Same26_same Cu0 _ (HZO.out _ hD1)).mono ?_
                rintro e wb ⟨rfl, hg⟩
                have hD2 := below2 hD1 hg
                clear hg
                go_wp2_with fail
                refine hK.out _ _ (HSS.out _ hD2) (fun hHeld2 => ?_)
                clear hK K hHeld
                have hHeld := hHeld2
                clear hHeld2
                try simp only [List.getElem_toArray, List.getElem_cons_zero, List.getElem_cons_succ, Act.put, List.setIfInBounds_toArray, List.set_cons_zero, List.set_cons_succ]
                refine wpAnyH_take (i := 8) (v := ?_) rfl (by kernel_rfl) (by kernel_rfl) (by kernel_rfl) (fun _ _ _ h => h) (Or.inl ⟨by rfl, ?_⟩) (by assumption) ?_
                rotate_left
                · intro w hSw; (try dsimp only at hSw); obtain ⟨hS1, hS2⟩ := hSw; go_simp; (try with_reducible rfl)
                try simp only [List.getElem_toArray, List.getElem_cons_zero, List.getElem_cons_succ, Act.put, List.setIfInBounds_toArray, List.set_cons_zero, List.set_cons_succ]
                refine wpAnyH_take (i := 9) (v := ?_) rfl (by kernel_rfl) (by kernel_rfl) (by kernel_rfl) (fun _ _ _ h => h) (Or.inl ⟨by rfl, ?_⟩) (by assumption) ?_
                rotate_left
                · intro w hSw; (try dsimp only at hSw); obtain ⟨hS1, hS2⟩ := hSw; go_simp; (try with_reducible rfl)
                try simp only [List.getElem_toArray, List.getElem_cons_zero, List.getElem_cons_succ, Act.put, List.setIfInBounds_toArray, List.set_cons_zero, List.set_cons_succ]
                refine wpAnyH_done (by kernel_rfl) ?_ _
                have PR := Lib.hid (PRN.out _ hD2)
                clear hHeld hD0 hD1 hD2 HSS HZO PRN
                go_wp2_with fail
                go_meet
                case rel => exact ⟨rfl, _, _, _, _, PR.out⟩
              | some k9 =>
                obtain ⟨z, hz9, _⟩ := posU_some hp
                have HP := Lib.hid hp; have HZ9 := Lib.hid hz9
                clear hz9
                have QG := Lib.hid (Close26_some g mo li la v Lc k9 z s.owner s.id w2 T2.out hp HZ9.out)
                clear hp
                go_wp2_with fail
                refine QG.out.mono ?_
                rintro e w3 ⟨rfl, v3, ht, hkp⟩
                have T3 := Lib.hid ht; have R3 := Lib.hid (R2.out.keepA hkp T2.out); have B3 := Lib.hid (B2.out.trans (T2.out.keep hkp HGE.out)); have K3 := Lib.hid (K2.out.keepA hkp (by decide) T2.out)
                clear ht hkp QG S2 K2 T2 R2 B2 a17 a18
                go_wp2_with (refine wpList_storeNewS (row := z.row) _ w3 zerosU 36 rfl (isP z) (Cu.one z) rfl rfl (.tmp 20) (.tmp 137) rfl rfl rfl rfl ?_)
                intro w4 k4 hb4 hz4
                have T4 := Lib.hid (T3.out.below hb4); have R4 := Lib.hid (R3.out.below hb4); have B4 := Lib.hid (B3.out.trans (hb4.mono B3.out.size)); have K4 := Lib.hid (K3.out.below hb4 K3.out.lt); have KP4 := Lib.hid k4
                have QR := Lib.hid (RefClose26_some h mo li la rv Lc k9 z s.owner s.id w4 R4.out HP.out HZ9.out)
                generalize w3.heap.size = NP at *
                clear k4 hb4 hz4 T3 R3 B3 K3
                have a17 : w4.cell? ⟨N, 17, none⟩ = some (.int .i64 s.owner) := K4.out.cell 17
                have a18 : w4.cell? ⟨N, 18, none⟩ = some (.int .i64 s.id) := K4.out.cell 18
                go_wp2_with fail
                refine QR.out.mono ?_
                rintro e w5 ⟨rfl, rv5, hrt, hg⟩
                have S5 := Lib.hid (show PRel W g h mo li w5 (j + 1) la (Lc.filter fun c => !(c.id == s.id)) v3 rv5 from ⟨by omega, T4.out.past R4.out hg, hrt, G2.out.filter _, Below.pastH B4.out hg HHE.out, fun c hc => OK2.out c (List.mem_filter.1 hc).1⟩)
                have KP5 := Lib.hid (KP4.out.pastH R4.out hg (by decide))
                clear hrt hg QR T4 R4 B4 K4 KP4 a17 a18
                go_wp2_with (refine wpList_storeNewS (row := z.row) _ w5 zerosU 45 rfl (isR z) (Cu.one z) rfl rfl (.tmp 22) (.tmp 146) rfl rfl rfl rfl ?_)
                intro w6 k6 hb6 hz6
                have HSS := Lib.hid (fun (w' : World) (q : Below w6.heap.size w6 w') => And.intro ((KP5.out.below hb6 KP5.out.lt).rowAt.below q (KP5.out.below hb6 KP5.out.lt).lt) (k6.rowAt.below q k6.lt))
                have S6 := Lib.hid (S5.out.go hb6)
                generalize w5.heap.size = NQ at *
                clear k6 hb6 hz6 S5 KP5
                have HZO := Lib.hid (fun (w' : World) (q : Below w6.heap.size w6 w') => ((OK2.out z (List.mem_of_getElem? HZ9.out) : CuOk W W.heap.size z).below (S6.out.bel.trans (q.mono S6.out.bel.size)) (Nat.le_refl _)).lift (S6.out.bel.trans (q.mono S6.out.bel.size)).size)
                have PRN := Lib.hid (fun (w' : World) (q : Below w6.heap.size w6 w') => S6.out.go q)
                clear S6
                go_wp2_with fail
                have hD0 := Below.drew (Below.refl w6.heap.size w6)
                refine wp_region_held_drew (S := fun w' => RowAt w' NP 0 z.row ∧ RowAt w' NQ 0 z.row) (by kernel_rfl) (HSS.out _ hD0) (fun hHeld => ?_)
                refine wpAnyH_take (i := 0) (v := ?_) rfl (by kernel_rfl) (by kernel_rfl) (by kernel_rfl) (fun _ _ _ h => h) (Or.inl ⟨by rfl, ?_⟩) (by assumption) ?_
                rotate_left
                · intro w hSw; (try dsimp only at hSw); obtain ⟨hS1, hS2⟩ := hSw; go_simp; (try with_reducible rfl)
                try simp only [List.getElem_toArray, List.getElem_cons_zero, List.getElem_cons_succ, Act.put, List.setIfInBounds_toArray, List.set_cons_zero, List.set_cons_succ]
                refine wpAnyH_take (i := 1) (v := ?_) rfl (by kernel_rfl) (by kernel_rfl) (by kernel_rfl) (fun _ _ _ h => h) (Or.inl ⟨by rfl, ?_⟩) (by assumption) ?_
                rotate_left
                · intro w hSw; (try dsimp only at hSw); obtain ⟨hS1, hS2⟩ := hSw; go_simp; (try with_reducible rfl)
                try simp only [List.getElem_toArray, List.getElem_cons_zero, List.getElem_cons_succ, Act.put, List.setIfInBounds_toArray, List.set_cons_zero, List.set_cons_succ]
                refine wpAnyH_take (i := 2) (v := ?_) rfl (by kernel_rfl) (by kernel_rfl) (by kernel_rfl) (fun _ _ _ h => h) (Or.inl ⟨by rfl, ?_⟩) (by assumption) ?_
                rotate_left
                · intro w hSw; (try dsimp only at hSw); obtain ⟨hS1, hS2⟩ := hSw; go_simp; (try with_reducible rfl)
                try simp only [List.getElem_toArray, List.getElem_cons_zero, List.getElem_cons_succ, Act.put, List.setIfInBounds_toArray, List.set_cons_zero, List.set_cons_succ]
                refine wpAnyH_take (i := 3) (v := ?_) rfl (by kernel_rfl) (by kernel_rfl) (by kernel_rfl) (fun _ _ _ h => h) (Or.inl ⟨by rfl, ?_⟩) (by assumption) ?_
                rotate_left
                · intro w hSw; (try dsimp only at hSw); obtain ⟨hS1, hS2⟩ := hSw; go_simp; (try with_reducible rfl)
                try simp only [List.getElem_toArray, List.getElem_cons_zero, List.getElem_cons_succ, Act.put, List.setIfInBounds_toArray, List.set_cons_zero, List.set_cons_succ]
                refine wpAnyH_take (i := 4) (v := aggS z.row) rfl (by kernel_rfl) (by kernel_rfl) (by kernel_rfl) (fun _ _ _ h => h) (Or.inl ⟨by rfl, ?_⟩) (by assumption) ?_
                · intro w hSw; exact load_execS _ (isP z) rfl rfl hSw.1
                try simp only [List.getElem_toArray, List.getElem_cons_zero, List.getElem_cons_succ, Act.put, List.setIfInBounds_toArray, List.set_cons_zero, List.set_cons_succ]
                refine wpAnyH_take (i := 6) (v := aggS z.row) rfl (by kernel_rfl) (by kernel_rfl) (by kernel_rfl) (fun _ _ _ h => h) (Or.inl ⟨by rfl, ?_⟩) (by assumption) ?_
                · intro w hSw; exact load_execS _ (isR z) rfl rfl hSw.2
                try simp only [List.getElem_toArray, List.getElem_cons_zero, List.getElem_cons_succ, Act.put, List.setIfInBounds_toArray, List.set_cons_zero, List.set_cons_succ]
                refine wpAnyH_ready (rs := [5]) (by kernel_rfl) (by simp) ?_
                refine AllReadyH.cons (o := _) rfl (fun K hK => ?_) AllReadyH.nil
                rw [if_pos (by rfl)]
                go_simp
                go_at_call 13
                refine (told26_any z _).mono ?_
                rintro e wa ⟨rfl, hg⟩
                have hD1 := below2 hD0 hg
                clear hg
                go_wp2_with fail
                refine hK.out _ _ (HSS.out _ hD1) (fun hHeld2 => ?_)
                clear hK K hHeld
                have hHeld := hHeld2
                clear hHeld2
                try simp only [List.getElem_toArray, List.getElem_cons_zero, List.getElem_cons_succ, Act.put, List.setIfInBounds_toArray, List.set_cons_zero, List.set_cons_succ]
                refine wpAnyH_ready (rs := [7]) (by kernel_rfl) (by simp) ?_
                refine AllReadyH.cons (o := _) rfl (fun K hK => ?_) AllReadyH.nil
                rw [if_pos (by rfl)]
                go_simp
                go_at_call 17
                refine (Same26_same z _ (HZO.out _ hD1)).mono ?_
                rintro e wb ⟨rfl, hg⟩
                have hD2 := below2 hD1 hg
                clear hg
                go_wp2_with fail
                refine hK.out _ _ (HSS.out _ hD2) (fun hHeld2 => ?_)
                clear hK K hHeld
                have hHeld := hHeld2
                clear hHeld2
                try simp only [List.getElem_toArray, List.getElem_cons_zero, List.getElem_cons_succ, Act.put, List.setIfInBounds_toArray, List.set_cons_zero, List.set_cons_succ]
                refine wpAnyH_take (i := 8) (v := ?_) rfl (by kernel_rfl) (by kernel_rfl) (by kernel_rfl) (fun _ _ _ h => h) (Or.inl ⟨by rfl, ?_⟩) (by assumption) ?_
                rotate_left
                · intro w hSw; (try dsimp only at hSw); obtain ⟨hS1, hS2⟩ := hSw; go_simp; (try with_reducible rfl)
                try simp only [List.getElem_toArray, List.getElem_cons_zero, List.getElem_cons_succ, Act.put, List.setIfInBounds_toArray, List.set_cons_zero, List.set_cons_succ]
                refine wpAnyH_take (i := 9) (v := ?_) rfl (by kernel_rfl) (by kernel_rfl) (by kernel_rfl) (fun _ _ _ h => h) (Or.inl ⟨by rfl, ?_⟩) (by assumption) ?_
                rotate_left
                · intro w hSw; (try dsimp only at hSw); obtain ⟨hS1, hS2⟩ := hSw; go_simp; (try with_reducible rfl)
                try simp only [List.getElem_toArray, List.getElem_cons_zero, List.getElem_cons_succ, Act.put, List.setIfInBounds_toArray, List.set_cons_zero, List.set_cons_succ]
                refine wpAnyH_done (by kernel_rfl) ?_ _
                have PR := Lib.hid (PRN.out _ hD2)
                clear hHeld hD0 hD1 hD2 HSS HZO PRN
                go_wp2_with fail
                go_meet
                case rel => exact ⟨rfl, _, _, _, _, PR.out⟩
          · as_aux_lemma =>
              have HC2 := Lib.hid (K2.out.cell 17)
              have Q1 := Lib.hid (Leave26_any g mo li la v Lc s.owner w2.drew T2d.out)
              obtain ⟨GL, hGL⟩ : ∃ GL, GL = (Lc.filter fun c => c.owner == s.owner) := ⟨_, rfl⟩
              rw [← hGL] at Q1
              have HGL := Lib.hid hGL
              clear hGL
              go_wp2_with fail
              refine wp_region_held_drew (S := fun w' => w'.cell? ⟨N, 17, none⟩ = some (.int .i64 s.owner)) (by kernel_rfl) (HC2.out) (fun hHeld => ?_)
              refine wpAnyH_take (i := 0) (v := ?_) rfl (by kernel_rfl) (by kernel_rfl) (by kernel_rfl) (fun _ _ _ h => h) (Or.inl ⟨by rfl, ?_⟩) (by assumption) ?_
              rotate_left
              · intro w hSw; (try dsimp only at hSw); skip; go_simp; (try with_reducible rfl)
              try simp only [List.getElem_toArray, List.getElem_cons_zero, List.getElem_cons_succ, Act.put, List.setIfInBounds_toArray, List.set_cons_zero, List.set_cons_succ]
              refine wpAnyH_take (i := 1) (v := ?_) rfl (by kernel_rfl) (by kernel_rfl) (by kernel_rfl) (fun _ _ _ h => h) (Or.inl ⟨by rfl, ?_⟩) (by assumption) ?_
              rotate_left
              · intro w hSw; (try dsimp only at hSw); skip; go_simp; (try with_reducible rfl)
              try simp only [List.getElem_toArray, List.getElem_cons_zero, List.getElem_cons_succ, Act.put, List.setIfInBounds_toArray, List.set_cons_zero, List.set_cons_succ]
              refine wpAnyH_take (i := 2) (v := ?_) rfl (by kernel_rfl) (by kernel_rfl) (by kernel_rfl) (fun _ _ _ h => h) (Or.inl ⟨by rfl, ?_⟩) (by assumption) ?_
              rotate_left
              · intro w hSw; (try dsimp only at hSw); skip; go_simp; (try with_reducible rfl)
              try simp only [List.getElem_toArray, List.getElem_cons_zero, List.getElem_cons_succ, Act.put, List.setIfInBounds_toArray, List.set_cons_zero, List.set_cons_succ]
              refine wpAnyH_take (i := 4) (v := ?_) rfl (by kernel_rfl) (by kernel_rfl) (by kernel_rfl) (fun _ _ _ h => h) (Or.inl ⟨by rfl, ?_⟩) (by assumption) ?_
              rotate_left
              · intro w hSw; (try dsimp only at hSw); skip; go_simp; (try with_reducible rfl)
              try simp only [List.getElem_toArray, List.getElem_cons_zero, List.getElem_cons_succ, Act.put, List.setIfInBounds_toArray, List.set_cons_zero, List.set_cons_succ]
              refine wpAnyH_take (i := 5) (v := ?_) rfl (by kernel_rfl) (by kernel_rfl) (by kernel_rfl) (fun _ _ _ h => h) (Or.inl ⟨by rfl, ?_⟩) (by assumption) ?_
              rotate_left
              · intro w hSw; (try dsimp only at hSw); skip; go_simp; (try with_reducible rfl)
              try simp only [List.getElem_toArray, List.getElem_cons_zero, List.getElem_cons_succ, Act.put, List.setIfInBounds_toArray, List.set_cons_zero, List.set_cons_succ]
              refine wpAnyH_take (i := 6) (v := ?_) rfl (by kernel_rfl) (by kernel_rfl) (by kernel_rfl) (fun _ _ _ h => h) (Or.inl ⟨by rfl, ?_⟩) (by assumption) ?_
              rotate_left
              · intro w hSw; (try dsimp only at hSw); skip; go_simp; (try with_reducible rfl)
              try simp only [List.getElem_toArray, List.getElem_cons_zero, List.getElem_cons_succ, Act.put, List.setIfInBounds_toArray, List.set_cons_zero, List.set_cons_succ]
              refine wpAnyH_ready (rs := [3]) (by kernel_rfl) (by simp) ?_
              refine AllReadyH.cons (o := _) rfl (fun K hK => ?_) AllReadyH.nil
              rw [if_pos (by rfl)]
              go_simp
              go_at_call 22
              refine (Q1.out).mono ?_
              rintro e wa ⟨u, v3, rfl, ht, hsl, hkp⟩
              have T3 := Lib.hid ht; have R3 := Lib.hid (R2d.out.keepA hkp T2d.out); have B3 := Lib.hid (B2d.out.trans (T2d.out.keep hkp HGE.out)); have K3 := Lib.hid (K2d.out.keepA hkp (by decide) T2d.out); have SL3 := Lib.hid hsl
              obtain ⟨Au, du, rfl, _⟩ := id hsl
              have Q2 := Lib.hid (RefLeave26_any h mo li la rv Lc s.owner wa R3.out)
              rw [← HGL.out] at Q2
              clear ht hkp hsl
              go_wp2_with fail
              refine hK.out _ _ (K3.out.cell 17) (fun hHeld2 => ?_)
              clear hK K hHeld
              have hHeld := hHeld2
              clear hHeld2
              try simp only [List.getElem_toArray, List.getElem_cons_zero, List.getElem_cons_succ, Act.put, List.setIfInBounds_toArray, List.set_cons_zero, List.set_cons_succ]
              refine wpAnyH_ready (rs := [7]) (by kernel_rfl) (by simp) ?_
              refine AllReadyH.cons (o := _) rfl (fun K hK => ?_) AllReadyH.nil
              rw [if_pos (by rfl)]
              go_simp
              go_at_call 23
              refine (Q2.out).mono ?_
              rintro e wb ⟨u', rv5, rfl, hrt, hsl, hg⟩
              have SL5 := Lib.hid (SL3.out.grown R3.out.blk (by decide) hg)
              have P5 := Lib.hid (show PRel W g h mo li wb (j + 1) la (Lc.filter fun c => !(c.owner == s.owner)) v3 rv5 from ⟨by omega, T3.out.past R3.out hg, hrt, G2.out.filter _, Below.pastH B3.out hg HHE.out, fun c hc => OK2.out c (List.mem_filter.1 hc).1⟩)
              have K5 := Lib.hid (K3.out.pastH R3.out hg (by decide))
              obtain ⟨A', d', rfl, hrA'⟩ := hsl
              obtain ⟨A9, d9, hv9, hrA9⟩ := SL5.out
              injection hv9 with e1 e2 e3
              subst e1; subst e3
              have QS := Lib.hid (sameL26_any Au A' du d' _ _ GL wb hrA9 hrA' (by rw [HGL.out]; exact Nat.le_trans (List.length_filter_le _ _) (by have := G2.out.short; omega)) (fun c hc => ((OK2.out c (by rw [HGL.out] at hc; exact (List.mem_filter.1 hc).1)).below P5.out.bel (Nat.le_refl _)).lift P5.out.bel.size))
              clear hrt hg hrA' hrA9 e2
              go_wp2_with fail
              refine hK.out _ _ (K5.out.cell 17) (fun hHeld2 => ?_)
              clear hK K hHeld
              have hHeld := hHeld2
              clear hHeld2
              try simp only [List.getElem_toArray, List.getElem_cons_zero, List.getElem_cons_succ, Act.put, List.setIfInBounds_toArray, List.set_cons_zero, List.set_cons_succ]
              refine wpAnyH_ready (rs := [8]) (by kernel_rfl) (by simp) ?_
              refine AllReadyH.cons (o := _) rfl (fun K hK => ?_) AllReadyH.nil
              rw [if_pos (by rfl)]
              go_simp
              go_at_call 14
              refine (QS.out).mono ?_
              rintro e wd ⟨rfl, hb6⟩
              have P6 := Lib.hid (P5.out.go hb6)
              have K6 := Lib.hid (K5.out.below hb6 K5.out.lt)
              clear hb6
              go_wp2_with fail
              refine hK.out _ _ (K6.out.cell 17) (fun hHeld2 => ?_)
              clear hK K hHeld
              have hHeld := hHeld2
              clear hHeld2
              try simp only [List.getElem_toArray, List.getElem_cons_zero, List.getElem_cons_succ, Act.put, List.setIfInBounds_toArray, List.set_cons_zero, List.set_cons_succ]
              refine wpAnyH_take (i := 9) (v := ?_) rfl (by kernel_rfl) (by kernel_rfl) (by kernel_rfl) (fun _ _ _ h => h) (Or.inl ⟨by rfl, ?_⟩) (by assumption) ?_
              rotate_left
              · intro w hSw; (try dsimp only at hSw); skip; go_simp; (try with_reducible rfl)
              try simp only [List.getElem_toArray, List.getElem_cons_zero, List.getElem_cons_succ, Act.put, List.setIfInBounds_toArray, List.set_cons_zero, List.set_cons_succ]
              refine wpAnyH_done (by kernel_rfl) ?_ _
              go_wp2_with fail
              go_meet
              case rel => exact ⟨rfl, _, _, _, _, P6.out⟩
          · as_aux_lemma =>
              obtain ⟨GL, hGL⟩ : ∃ GL, GL = ((Lc.map older).filter fun c => c.age == li) := ⟨_, rfl⟩
              obtain ⟨LL, hLL⟩ : ∃ LL, LL = ((Lc.map older).filter fun c => !(c.age == li)) := ⟨_, rfl⟩
              have hage : ∀ c ∈ Lc, 0 ≤ c.age ∧ c.age ≤ 9223372036854775806 := fun c hc => by have := G2.out.age c hc; have := G2.out.liB; omega
              have Q1 := Lib.hid (Tick26_any g mo li la v Lc w2 T2.out hage)
              have htk := G2.out.tick
              rw [← hGL, ← hLL] at Q1
              have G5 := Lib.hid htk.1
              rw [← hLL] at G5
              have HAGE := Lib.hid hage
              have HTK := Lib.hid (show ((Lc.map older).filter fun c => !(decide (li ≤ c.age))) = LL ∧ ((Lc.map older).filter fun c => decide (li ≤ c.age)) = GL from ⟨htk.2.1.trans hLL.symm, htk.2.2.trans hGL.symm⟩)
              have hokm : ∀ c ∈ Lc.map older, CuOk W W.heap.size c := fun c hc => by
                obtain ⟨x, hx, rfl⟩ := List.mem_map.1 hc
                exact OK2.out x hx
              have OKL := Lib.hid (show ∀ c ∈ LL, CuOk W W.heap.size c from fun c hc => hokm c (by rw [hLL] at hc; exact (List.mem_filter.1 hc).1))
              have OKG := Lib.hid (show ∀ c ∈ GL, CuOk W W.heap.size c from fun c hc => hokm c (by rw [hGL] at hc; exact (List.mem_filter.1 hc).1))
              have HGN := Lib.hid (show GL.length ≤ 1000 from by rw [hGL]; exact Nat.le_trans (List.length_filter_le _ _) (by rw [List.length_map]; have := G2.out.short; omega))
              clear hGL hLL htk hokm hage
              go_wp2_with fail
              refine Q1.out.mono ?_
              rintro e w3 ⟨u, v3, rfl, ht, hsl, hkp⟩
              have T3 := Lib.hid ht; have R3 := Lib.hid (R2.out.keepA hkp T2.out); have B3 := Lib.hid (B2.out.trans (T2.out.keep hkp HGE.out)); have SL3 := Lib.hid hsl
              obtain ⟨Au, du, rfl, _⟩ := id hsl
              have Q2 := Lib.hid (RefTick26_any h mo li la rv Lc w3 (R2.out.keepA hkp T2.out) HAGE.out)
              rw [HTK.out.1, HTK.out.2] at Q2
              clear ht hsl hkp Q1 T2 R2 B2 K2 S2
              go_wp2_with fail
              refine Q2.out.mono ?_
              rintro e w5 ⟨u', rv5, rfl, hrt, hsl, hg⟩
              have SL5 := Lib.hid (SL3.out.grown R3.out.blk (by decide) hg)
              have P5 := Lib.hid (show PRel W g h mo li w5 (j + 1) la LL v3 rv5 from ⟨by omega, T3.out.past R3.out hg, hrt, G5.out, Below.pastH B3.out hg HHE.out, OKL.out⟩)
              obtain ⟨A', d', rfl, hrA'⟩ := hsl
              obtain ⟨A9, d9, hv9, hrA9⟩ := SL5.out
              injection hv9 with e1 e2 e3
              subst e1; subst e3
              have QS := Lib.hid (sameL26_any Au A' du d' _ _ GL w5 hrA9 hrA' HGN.out (fun c hc => ((OKG.out c hc).below P5.out.bel (Nat.le_refl _)).lift P5.out.bel.size))
              clear hrt hg hrA' hrA9 e2 Q2 T3 R3 B3 SL3 SL5
              go_wp2_with fail
              refine QS.out.mono ?_
              rintro e w6 ⟨rfl, hb6⟩
              have P6 := Lib.hid (P5.out.go hb6)
              clear hb6 QS P5
              go_wp2_with fail
              go_meet
              case rel => exact ⟨rfl, _, _, _, _, P6.out⟩
        case rest =>
          as_aux_lemma =>
            obtain ⟨rfl, la', L', v', rv', P⟩ := hcut
            have P0 := Lib.hid P
            have c3 := (cells4 P.ref.blk).2.2.2
            obtain ⟨rA, rd, rfl, hrA⟩ := P.ref.rows
            have c3h : wc.cell? ⟨h, 3, none⟩ = some (.slice rA L'.length rd) := c3
            have HC3 := Lib.hid c3h
            have QL := Lib.hid (Len26_any g mo li la' v' L' wc.drew (P.tab.below (Below.drew (Below.refl _ _))))
            clear P hrA c3 S2 K2 k0
            go_wp2_with fail
            refine wp_region_held_drew (S := fun w' => w' = wc.drew) (by kernel_rfl) (rfl) (fun hHeld => ?_)
            refine wpAnyH_take (i := 0) (v := ?_) rfl (by kernel_rfl) (by kernel_rfl) (by kernel_rfl) (fun _ _ _ h => h) (Or.inl ⟨by rfl, ?_⟩) (by assumption) ?_
            rotate_left
            · intro w hSw; (try dsimp only at hSw); subst hSw; go_simp; (try with_reducible rfl)
            try simp only [List.getElem_toArray, List.getElem_cons_zero, List.getElem_cons_succ, Act.put, List.setIfInBounds_toArray, List.set_cons_zero, List.set_cons_succ]
            refine wpAnyH_take (i := 1) (v := ?_) rfl (by kernel_rfl) (by kernel_rfl) (by kernel_rfl) (fun _ _ _ h => h) (Or.inl ⟨by rfl, ?_⟩) (by assumption) ?_
            rotate_left
            · intro w hSw; (try dsimp only at hSw); subst hSw; go_simp; (try with_reducible rfl)
            try simp only [List.getElem_toArray, List.getElem_cons_zero, List.getElem_cons_succ, Act.put, List.setIfInBounds_toArray, List.set_cons_zero, List.set_cons_succ]
            refine wpAnyH_take (i := 2) (v := ?_) rfl (by kernel_rfl) (by kernel_rfl) (by kernel_rfl) (fun _ _ _ h => h) (Or.inl ⟨by rfl, ?_⟩) (by assumption) ?_
            rotate_left
            · intro w hSw; (try dsimp only at hSw); subst hSw; go_simp; (try with_reducible rfl)
            try simp only [List.getElem_toArray, List.getElem_cons_zero, List.getElem_cons_succ, Act.put, List.setIfInBounds_toArray, List.set_cons_zero, List.set_cons_succ]
            refine wpAnyH_take (i := 3) (v := ?_) rfl (by kernel_rfl) (by kernel_rfl) (by kernel_rfl) (fun _ _ _ h => h) (Or.inl ⟨by rfl, ?_⟩) (by assumption) ?_
            rotate_left
            · intro w hSw; (try dsimp only at hSw); subst hSw; go_simp; (try with_reducible rfl)
            try simp only [List.getElem_toArray, List.getElem_cons_zero, List.getElem_cons_succ, Act.put, List.setIfInBounds_toArray, List.set_cons_zero, List.set_cons_succ]
            refine wpAnyH_take (i := 5) (v := ?_) rfl (by kernel_rfl) (by kernel_rfl) (by kernel_rfl) (fun _ _ _ h => h) (Or.inl ⟨by rfl, ?_⟩) (by assumption) ?_
            rotate_left
            · intro w hSw; (try dsimp only at hSw); subst hSw; go_simp; (try with_reducible rfl)
            try simp only [List.getElem_toArray, List.getElem_cons_zero, List.getElem_cons_succ, Act.put, List.setIfInBounds_toArray, List.set_cons_zero, List.set_cons_succ]
            refine wpAnyH_take (i := 6) (v := ?_) rfl (by kernel_rfl) (by kernel_rfl) (by kernel_rfl) (fun _ _ _ h => h) (Or.inl ⟨by rfl, ?_⟩) (by assumption) ?_
            rotate_left
            · intro w hSw; (try dsimp only at hSw); subst hSw; go_simp; (try with_reducible rfl)
            try simp only [List.getElem_toArray, List.getElem_cons_zero, List.getElem_cons_succ, Act.put, List.setIfInBounds_toArray, List.set_cons_zero, List.set_cons_succ]
            refine wpAnyH_take (i := 7) (v := ?_) rfl (by kernel_rfl) (by kernel_rfl) (by kernel_rfl) (fun _ _ _ h => h) (Or.inl ⟨by rfl, ?_⟩) (by assumption) ?_
            rotate_left
            · intro w hSw; (try dsimp only at hSw); subst hSw; go_simp; (try with_reducible rfl)
            try simp only [List.getElem_toArray, List.getElem_cons_zero, List.getElem_cons_succ, Act.put, List.setIfInBounds_toArray, List.set_cons_zero, List.set_cons_succ]
            refine wpAnyH_take (i := 8) (v := ?_) rfl (by kernel_rfl) (by kernel_rfl) (by kernel_rfl) (fun _ _ _ h => h) (Or.inl ⟨by rfl, ?_⟩) (by assumption) ?_
            rotate_left
            · intro w hSw; (try dsimp only at hSw); subst hSw; go_simp; (try with_reducible rfl)
            try simp only [List.getElem_toArray, List.getElem_cons_zero, List.getElem_cons_succ, Act.put, List.setIfInBounds_toArray, List.set_cons_zero, List.set_cons_succ]
            refine wpAnyH_take (i := 9) (v := ?_) rfl (by kernel_rfl) (by kernel_rfl) (by kernel_rfl) (fun _ _ _ h => h) (Or.inl ⟨by rfl, ?_⟩) (by assumption) ?_
            rotate_left
            · intro w hSw; (try dsimp only at hSw); subst hSw; go_simp; (try with_reducible rfl)
            try simp only [List.getElem_toArray, List.getElem_cons_zero, List.getElem_cons_succ, Act.put, List.setIfInBounds_toArray, List.set_cons_zero, List.set_cons_succ]
            refine wpAnyH_ready (rs := [4]) (by kernel_rfl) (by simp) ?_
            refine AllReadyH.cons (o := _) rfl (fun K hK => ?_) AllReadyH.nil
            rw [if_pos (by rfl)]
            go_simp
            go_at_call 26
            refine (QL.out).mono ?_
            rintro e wa ⟨rfl, rfl⟩
            go_wp2_with fail
            refine hK.out _ _ (rfl) (fun hHeld2 => ?_)
            clear hK K hHeld
            have hHeld := hHeld2
            clear hHeld2
            try simp only [List.getElem_toArray, List.getElem_cons_zero, List.getElem_cons_succ, Act.put, List.setIfInBounds_toArray, List.set_cons_zero, List.set_cons_succ]
            refine wpAnyH_take (i := 10) (v := ?_) rfl (by kernel_rfl) (by kernel_rfl) (by kernel_rfl) (fun _ _ _ h => h) (Or.inl ⟨by rfl, ?_⟩) (by assumption) ?_
            rotate_left
            · intro w hSw; (try dsimp only at hSw); subst hSw; go_simp; (try with_reducible rfl)
            try simp only [List.getElem_toArray, List.getElem_cons_zero, List.getElem_cons_succ, Act.put, List.setIfInBounds_toArray, List.set_cons_zero, List.set_cons_succ]
            refine wpAnyH_take (i := 11) (v := ?_) rfl (by kernel_rfl) (by kernel_rfl) (by kernel_rfl) (fun _ _ _ h => h) (Or.inl ⟨by rfl, ?_⟩) (by assumption) ?_
            rotate_left
            · intro w hSw; (try dsimp only at hSw); subst hSw; go_simp; (try with_reducible rfl)
            try simp only [List.getElem_toArray, List.getElem_cons_zero, List.getElem_cons_succ, Act.put, List.setIfInBounds_toArray, List.set_cons_zero, List.set_cons_succ]
            refine wpAnyH_done (by kernel_rfl) ?_ _
            have P1 := Lib.hid (P0.out.go (Below.drew (Below.refl wc.heap.size wc)))
            generalize wc.drew = wd at *
            clear HC3 QL c3h hHeld P0
            go_wp2_with fail
            go_loopw [24] (fun i wr2 => ∃ k : Nat, i = .int .i64 (k : Int) ∧ k ≤ L'.length ∧ PRel W g h mo li wr2 (j + 1) la' L' v' (.slice rA L'.length rd)) (fun i _ => L'.length - (intOf i).toNat)
            case atStart => exact ⟨0, rfl, Nat.zero_le _, P1.out⟩
            case round =>
              obtain ⟨k, rfl, hk2, P⟩ := hrel
              obtain ⟨wr2, rfl⟩ : ∃ x : World, x = wr := ⟨wr, rfl⟩
              have P2 := Lib.hid P
              have c3 : wr2.cell? ⟨h, 3, none⟩ = some (.slice rA L'.length rd) := (cells4 P.ref.blk).2.2.2
              have hk8 : (k : Int) ≤ 8 := by have := P.good.short; omega
              clear P P1
              by_cases hlt2 : k < L'.length
              · obtain ⟨z, hz⟩ : ∃ z, L'[k]? = some z := ⟨_, List.getElem?_eq_getElem hlt2⟩
                obtain ⟨rA', rd', hv9, hrA⟩ := P2.out.ref.rows
                injection hv9 with e1 e2 e3
                subst e1; subst e3
                obtain ⟨b2, off2, rfl, hb2, hr2⟩ := hrA.at hz
                have HZ := Lib.hid hz; have HLT2 := Lib.hid hlt2
                have HS := Lib.hid (fun (w' : World) (q : Below wr2.heap.size wr2 w') => And.intro (show w'.cell? ⟨h, 3, none⟩ = some (.slice (some ⟨b2, off2, none⟩) L'.length rd) from (q.cell (p := ⟨h, 3, none⟩) P2.out.ref.blk.lt).trans c3) (And.intro (show w'.cell? ⟨b2, off2 + k * 16, none⟩ = some (.int .i64 z.id) from (hr2.below q hb2) 0 _ rfl) (And.intro (show w'.cell? ⟨b2, off2 + k * 16 + 1, none⟩ = some (.int .i64 z.owner) from (hr2.below q hb2) 1 _ rfl) (hr2.below q hb2))))
                have hi0 : (0 : Int) ≤ (k : Int) := by omega
                have hi1 : (k : Int) < (L'.length : Int) := by omega
                have hpos := P2.out.good.pos hz
                have HOKZ := Lib.hid (P2.out.oks z (List.mem_of_getElem? hz))
                have QG := Lib.hid (fun (w' : World) (q : Below wr2.heap.size wr2 w') => Get26_some g mo li la' v' L' k z z.owner z.id w' (P2.out.tab.below q) hpos hz)
                clear hz hr2 hb2 hrA e2 hpos hk2
                go_upto_region 31 with fail
                go_cut [25, 26] (fun p q9 wc2 => ∃ N9, p = .pointer (some ⟨N9, 0, none⟩) ∧ q9 = .bool true ∧ Below wr2.heap.size wr2 wc2 ∧ Blk wc2 N9 36 z.row)
                case first =>
                  have hD0 := Below.drew (Below.refl wr2.heap.size wr2)
                  refine wp_region_held_drew (S := fun w' => w'.cell? ⟨h, 3, none⟩ = some (.slice (some ⟨b2, off2, none⟩) L'.length rd) ∧ w'.cell? ⟨b2, off2 + k * 16, none⟩ = some (.int .i64 z.id) ∧ w'.cell? ⟨b2, off2 + k * 16 + 1, none⟩ = some (.int .i64 z.owner) ∧ RowAt w' b2 (off2 + k * 16) z.row) (by kernel_rfl) (HS.out _ hD0) (fun hHeld => ?_)
                  refine wpAnyH_take (i := 0) (v := ?_) rfl (by kernel_rfl) (by kernel_rfl) (by kernel_rfl) (fun _ _ _ h => h) (Or.inl ⟨by rfl, ?_⟩) (by assumption) ?_
                  rotate_left
                  · intro w hSw; (try dsimp only at hSw); obtain ⟨hS1, hS2, hS3, hS4⟩ := hSw; go_simp; (try with_reducible rfl)
                  try simp only [List.getElem_toArray, List.getElem_cons_zero, List.getElem_cons_succ, Act.put, List.setIfInBounds_toArray, List.set_cons_zero, List.set_cons_succ]
                  refine wpAnyH_take (i := 1) (v := ?_) rfl (by kernel_rfl) (by kernel_rfl) (by kernel_rfl) (fun _ _ _ h => h) (Or.inl ⟨by rfl, ?_⟩) (by assumption) ?_
                  rotate_left
                  · intro w hSw; (try dsimp only at hSw); obtain ⟨hS1, hS2, hS3, hS4⟩ := hSw; go_simp; (try with_reducible rfl)
                  try simp only [List.getElem_toArray, List.getElem_cons_zero, List.getElem_cons_succ, Act.put, List.setIfInBounds_toArray, List.set_cons_zero, List.set_cons_succ]
                  refine wpAnyH_take (i := 2) (v := ?_) rfl (by kernel_rfl) (by kernel_rfl) (by kernel_rfl) (fun _ _ _ h => h) (Or.inl ⟨by rfl, ?_⟩) (by assumption) ?_
                  rotate_left
                  · intro w hSw; (try dsimp only at hSw); obtain ⟨hS1, hS2, hS3, hS4⟩ := hSw; go_simp; (try with_reducible rfl)
                  try simp only [List.getElem_toArray, List.getElem_cons_zero, List.getElem_cons_succ, Act.put, List.setIfInBounds_toArray, List.set_cons_zero, List.set_cons_succ]
                  refine wpAnyH_take (i := 3) (v := ?_) rfl (by kernel_rfl) (by kernel_rfl) (by kernel_rfl) (fun _ _ _ h => h) (Or.inl ⟨by rfl, ?_⟩) (by assumption) ?_
                  rotate_left
                  · intro w hSw; (try dsimp only at hSw); obtain ⟨hS1, hS2, hS3, hS4⟩ := hSw; go_simp; (try with_reducible rfl)
                  try simp only [List.getElem_toArray, List.getElem_cons_zero, List.getElem_cons_succ, Act.put, List.setIfInBounds_toArray, List.set_cons_zero, List.set_cons_succ]
                  refine wpAnyH_take (i := 4) (v := ?_) rfl (by kernel_rfl) (by kernel_rfl) (by kernel_rfl) (fun _ _ _ h => h) (Or.inl ⟨by rfl, ?_⟩) (by assumption) ?_
                  rotate_left
                  · intro w hSw; (try dsimp only at hSw); obtain ⟨hS1, hS2, hS3, hS4⟩ := hSw; go_simp; (try with_reducible rfl)
                  try simp only [List.getElem_toArray, List.getElem_cons_zero, List.getElem_cons_succ, Act.put, List.setIfInBounds_toArray, List.set_cons_zero, List.set_cons_succ]
                  refine wpAnyH_take (i := 5) (v := ?_) rfl (by kernel_rfl) (by kernel_rfl) (by kernel_rfl) (fun _ _ _ h => h) (Or.inl ⟨by rfl, ?_⟩) (by assumption) ?_
                  rotate_left
                  · intro w hSw; (try dsimp only at hSw); obtain ⟨hS1, hS2, hS3, hS4⟩ := hSw; go_simp; (try with_reducible rfl)
                  try simp only [List.getElem_toArray, List.getElem_cons_zero, List.getElem_cons_succ, Act.put, List.setIfInBounds_toArray, List.set_cons_zero, List.set_cons_succ]
                  refine wpAnyH_take (i := 6) (v := ?_) rfl (by kernel_rfl) (by kernel_rfl) (by kernel_rfl) (fun _ _ _ h => h) (Or.inl ⟨by rfl, ?_⟩) (by assumption) ?_
                  rotate_left
                  · intro w hSw; (try dsimp only at hSw); obtain ⟨hS1, hS2, hS3, hS4⟩ := hSw; go_simp; (try with_reducible rfl)
                  try simp only [List.getElem_toArray, List.getElem_cons_zero, List.getElem_cons_succ, Act.put, List.setIfInBounds_toArray, List.set_cons_zero, List.set_cons_succ]
                  refine wpAnyH_take (i := 7) (v := ?_) rfl (by kernel_rfl) (by kernel_rfl) (by kernel_rfl) (fun _ _ _ h => h) (Or.inl ⟨by rfl, ?_⟩) (by assumption) ?_
                  rotate_left
                  · intro w hSw; (try dsimp only at hSw); obtain ⟨hS1, hS2, hS3, hS4⟩ := hSw; go_simp; (try with_reducible rfl)
                  try simp only [List.getElem_toArray, List.getElem_cons_zero, List.getElem_cons_succ, Act.put, List.setIfInBounds_toArray, List.set_cons_zero, List.set_cons_succ]
                  refine wpAnyH_take (i := 8) (v := ?_) rfl (by kernel_rfl) (by kernel_rfl) (by kernel_rfl) (fun _ _ _ h => h) (Or.inl ⟨by rfl, ?_⟩) (by assumption) ?_
                  rotate_left
                  · intro w hSw; (try dsimp only at hSw); obtain ⟨hS1, hS2, hS3, hS4⟩ := hSw; go_simp; (try with_reducible rfl)
                  try simp only [List.getElem_toArray, List.getElem_cons_zero, List.getElem_cons_succ, Act.put, List.setIfInBounds_toArray, List.set_cons_zero, List.set_cons_succ]
                  refine wpAnyH_take (i := 9) (v := ?_) rfl (by kernel_rfl) (by kernel_rfl) (by kernel_rfl) (fun _ _ _ h => h) (Or.inl ⟨by rfl, ?_⟩) (by assumption) ?_
                  rotate_left
                  · intro w hSw; (try dsimp only at hSw); obtain ⟨hS1, hS2, hS3, hS4⟩ := hSw; go_simp; (try with_reducible rfl)
                  try simp only [List.getElem_toArray, List.getElem_cons_zero, List.getElem_cons_succ, Act.put, List.setIfInBounds_toArray, List.set_cons_zero, List.set_cons_succ]
                  refine wpAnyH_take (i := 10) (v := ?_) rfl (by kernel_rfl) (by kernel_rfl) (by kernel_rfl) (fun _ _ _ h => h) (Or.inl ⟨by rfl, ?_⟩) (by assumption) ?_
                  rotate_left
                  · intro w hSw; (try dsimp only at hSw); obtain ⟨hS1, hS2, hS3, hS4⟩ := hSw; go_simp; (try with_reducible rfl)
                  try simp only [List.getElem_toArray, List.getElem_cons_zero, List.getElem_cons_succ, Act.put, List.setIfInBounds_toArray, List.set_cons_zero, List.set_cons_succ]
                  refine wpAnyH_take (i := 11) (v := ?_) rfl (by kernel_rfl) (by kernel_rfl) (by kernel_rfl) (fun _ _ _ h => h) (Or.inl ⟨by rfl, ?_⟩) (by assumption) ?_
                  rotate_left
                  · intro w hSw; (try dsimp only at hSw); obtain ⟨hS1, hS2, hS3, hS4⟩ := hSw; go_simp; (try with_reducible rfl)
                  try simp only [List.getElem_toArray, List.getElem_cons_zero, List.getElem_cons_succ, Act.put, List.setIfInBounds_toArray, List.set_cons_zero, List.set_cons_succ]
                  refine wpAnyH_take (i := 12) (v := ?_) rfl (by kernel_rfl) (by kernel_rfl) (by kernel_rfl) (fun _ _ _ h => h) (Or.inl ⟨by rfl, ?_⟩) (by assumption) ?_
                  rotate_left
                  · intro w hSw; (try dsimp only at hSw); obtain ⟨hS1, hS2, hS3, hS4⟩ := hSw; go_simp; (try with_reducible rfl)
                  try simp only [List.getElem_toArray, List.getElem_cons_zero, List.getElem_cons_succ, Act.put, List.setIfInBounds_toArray, List.set_cons_zero, List.set_cons_succ]
                  refine wpAnyH_take (i := 13) (v := ?_) rfl (by kernel_rfl) (by kernel_rfl) (by kernel_rfl) (fun _ _ _ h => h) (Or.inl ⟨by rfl, ?_⟩) (by assumption) ?_
                  rotate_left
                  · intro w hSw; (try dsimp only at hSw); obtain ⟨hS1, hS2, hS3, hS4⟩ := hSw; go_simp; (try with_reducible rfl)
                  try simp only [List.getElem_toArray, List.getElem_cons_zero, List.getElem_cons_succ, Act.put, List.setIfInBounds_toArray, List.set_cons_zero, List.set_cons_succ]
                  refine wpAnyH_take (i := 14) (v := ?_) rfl (by kernel_rfl) (by kernel_rfl) (by kernel_rfl) (fun _ _ _ h => h) (Or.inl ⟨by rfl, ?_⟩) (by assumption) ?_
                  rotate_left
                  · intro w hSw; (try dsimp only at hSw); obtain ⟨hS1, hS2, hS3, hS4⟩ := hSw; go_simp; (try with_reducible rfl)
                  try simp only [List.getElem_toArray, List.getElem_cons_zero, List.getElem_cons_succ, Act.put, List.setIfInBounds_toArray, List.set_cons_zero, List.set_cons_succ]
                  refine wpAnyH_take (i := 15) (v := ?_) rfl (by kernel_rfl) (by kernel_rfl) (by kernel_rfl) (fun _ _ _ h => h) (Or.inl ⟨by rfl, ?_⟩) (by assumption) ?_
                  rotate_left
                  · intro w hSw; (try dsimp only at hSw); obtain ⟨hS1, hS2, hS3, hS4⟩ := hSw; go_simp; (try with_reducible rfl)
                  try simp only [List.getElem_toArray, List.getElem_cons_zero, List.getElem_cons_succ, Act.put, List.setIfInBounds_toArray, List.set_cons_zero, List.set_cons_succ]
                  refine wpAnyH_take (i := 16) (v := ?_) rfl (by kernel_rfl) (by kernel_rfl) (by kernel_rfl) (fun _ _ _ h => h) (Or.inl ⟨by rfl, ?_⟩) (by assumption) ?_
                  rotate_left
                  · intro w hSw; (try dsimp only at hSw); obtain ⟨hS1, hS2, hS3, hS4⟩ := hSw; go_simp; (try with_reducible rfl)
                  try simp only [List.getElem_toArray, List.getElem_cons_zero, List.getElem_cons_succ, Act.put, List.setIfInBounds_toArray, List.set_cons_zero, List.set_cons_succ]
                  refine wpAnyH_ready (rs := [17, 21]) (by kernel_rfl) (by simp) ?_
                  refine AllReadyH.cons (o := _) rfl (fun K hK => ?_) ?_
                  · rw [if_pos (by rfl)]
                    go_simp
                    go_at_call 15
                    refine (QG.out _ hD0).mono ?_
                    rintro e wa ⟨rfl, hg⟩
                    have hD1 := below2 hD0 hg
                    clear hg
                    go_wp2_with fail
                    refine hK.out _ _ (HS.out _ hD1) (fun hHeld2 => ?_)
                    clear hK K hHeld
                    have hHeld := hHeld2
                    clear hHeld2
                    try simp only [List.getElem_toArray, List.getElem_cons_zero, List.getElem_cons_succ, Act.put, List.setIfInBounds_toArray, List.set_cons_zero, List.set_cons_succ]
                    refine wpAnyH_take (i := 18) (v := ?_) rfl (by kernel_rfl) (by kernel_rfl) (by kernel_rfl) (fun _ _ _ h => h) (Or.inl ⟨by rfl, ?_⟩) (by assumption) ?_
                    rotate_left
                    · intro w hSw; (try dsimp only at hSw); obtain ⟨hS1, hS2, hS3, hS4⟩ := hSw; go_simp; (try with_reducible rfl)
                    try simp only [List.getElem_toArray, List.getElem_cons_zero, List.getElem_cons_succ, Act.put, List.setIfInBounds_toArray, List.set_cons_zero, List.set_cons_succ]
                    refine wpAnyH_take (i := 19) (v := ?_) rfl (by kernel_rfl) (by kernel_rfl) (by kernel_rfl) (fun _ _ _ h => h) (Or.inl ⟨by rfl, ?_⟩) (by assumption) ?_
                    rotate_left
                    · intro w hSw; (try dsimp only at hSw); obtain ⟨hS1, hS2, hS3, hS4⟩ := hSw; go_simp; (try with_reducible rfl)
                    try simp only [List.getElem_toArray, List.getElem_cons_zero, List.getElem_cons_succ, Act.put, List.setIfInBounds_toArray, List.set_cons_zero, List.set_cons_succ]
                    refine wpAnyH_take (i := 20) (v := ?_) rfl (by kernel_rfl) (by kernel_rfl) (by kernel_rfl) (fun _ _ _ h => h) (Or.inl ⟨by rfl, ?_⟩) (by assumption) ?_
                    rotate_left
                    · intro w hSw; (try dsimp only at hSw); obtain ⟨hS1, hS2, hS3, hS4⟩ := hSw; go_simp; (try with_reducible rfl)
                    try simp only [List.getElem_toArray, List.getElem_cons_zero, List.getElem_cons_succ, Act.put, List.setIfInBounds_toArray, List.set_cons_zero, List.set_cons_succ]
                    refine wpAnyH_ready (rs := [21]) (by kernel_rfl) (by simp) ?_
                    refine AllReadyH.cons (o := _) rfl (fun K hK => ?_) AllReadyH.nil
                    rw [if_pos (by rfl)]
                    go_simp
                    have hDA : Below wr2.heap.size wr2 (wa.alloc (.cells zerosU.toArray 36)) := hD1.alloc hD1.size _
                    refine hK _ _ (HS.out _ hDA) (fun hHeld2 => ?_)
                    clear hK K hHeld
                    have hHeld := hHeld2
                    clear hHeld2
                    try simp only [List.getElem_toArray, List.getElem_cons_zero, List.getElem_cons_succ, Act.put, List.setIfInBounds_toArray, List.set_cons_zero, List.set_cons_succ]
                    refine wpAnyH_ready (rs := [22]) (by kernel_rfl) (by simp) ?_
                    refine AllReadyH.cons (o := _) rfl (fun K hK => ?_) AllReadyH.nil
                    rw [if_pos (by rfl)]
                    refine wp_storeS _ (isP z) z.one rfl (.tmp 25) (.tmp 208) rfl wa.heap.size 36 zerosU rfl rfl (Blk.new wa _ zerosU) rfl ?_
                    intro w9 k9 hg9 hz9
                    have hD9 := hDA.grown hg9 (by have := hD1.size; simp; omega) (fun k hk => by cases hk; exact hD1.size)
                    refine hK _ _ (HS.out _ hD9) (fun hHeld2 => ?_)
                    clear hK K hHeld
                    have hHeld := hHeld2
                    clear hHeld2
                    try simp only [List.getElem_toArray, List.getElem_cons_zero, List.getElem_cons_succ, Act.put, List.setIfInBounds_toArray, List.set_cons_zero, List.set_cons_succ]
                    refine wpAnyH_take (i := 23) (v := ?_) rfl (by kernel_rfl) (by kernel_rfl) (by kernel_rfl) (fun _ _ _ h => h) (Or.inl ⟨by rfl, ?_⟩) (by assumption) ?_
                    rotate_left
                    · intro w hSw; (try dsimp only at hSw); obtain ⟨hS1, hS2, hS3, hS4⟩ := hSw; go_simp; (try with_reducible rfl)
                    try simp only [List.getElem_toArray, List.getElem_cons_zero, List.getElem_cons_succ, Act.put, List.setIfInBounds_toArray, List.set_cons_zero, List.set_cons_succ]
                    refine wpAnyH_done (by kernel_rfl) ?_ _
                    go_wp2_with fail
                    go_meet
                    case rel => exact ⟨_, rfl, rfl, hD9, k9⟩
                  · refine AllReadyH.cons (o := _) rfl (fun K hK => ?_) AllReadyH.nil
                    rw [if_pos (by rfl)]
                    go_simp
                    have hDA : Below wr2.heap.size wr2 (wr2.drew.alloc (.cells zerosU.toArray 36)) := hD0.alloc hD0.size _
                    refine hK _ _ (HS.out _ hDA) (fun hHeld2 => ?_)
                    clear hK K hHeld
                    have hHeld := hHeld2
                    clear hHeld2
                    try simp only [List.getElem_toArray, List.getElem_cons_zero, List.getElem_cons_succ, Act.put, List.setIfInBounds_toArray, List.set_cons_zero, List.set_cons_succ]
                    refine wpAnyH_ready (rs := [17]) (by kernel_rfl) (by simp) ?_
                    refine AllReadyH.cons (o := _) rfl (fun K hK => ?_) AllReadyH.nil
                    rw [if_pos (by rfl)]
                    go_simp
                    go_at_call 15
                    refine (QG.out _ hDA).mono ?_
                    rintro e wa ⟨rfl, hg⟩
                    have hD1 := below2 hDA hg
                    have hkb := (Blk.new wr2.drew 36 zerosU).below hg (by simp)
                    clear hg
                    go_wp2_with fail
                    refine hK.out _ _ (HS.out _ hD1) (fun hHeld2 => ?_)
                    clear hK K hHeld
                    have hHeld := hHeld2
                    clear hHeld2
                    try simp only [List.getElem_toArray, List.getElem_cons_zero, List.getElem_cons_succ, Act.put, List.setIfInBounds_toArray, List.set_cons_zero, List.set_cons_succ]
                    refine wpAnyH_take (i := 18) (v := ?_) rfl (by kernel_rfl) (by kernel_rfl) (by kernel_rfl) (fun _ _ _ h => h) (Or.inl ⟨by rfl, ?_⟩) (by assumption) ?_
                    rotate_left
                    · intro w hSw; (try dsimp only at hSw); obtain ⟨hS1, hS2, hS3, hS4⟩ := hSw; go_simp; (try with_reducible rfl)
                    try simp only [List.getElem_toArray, List.getElem_cons_zero, List.getElem_cons_succ, Act.put, List.setIfInBounds_toArray, List.set_cons_zero, List.set_cons_succ]
                    refine wpAnyH_take (i := 19) (v := ?_) rfl (by kernel_rfl) (by kernel_rfl) (by kernel_rfl) (fun _ _ _ h => h) (Or.inl ⟨by rfl, ?_⟩) (by assumption) ?_
                    rotate_left
                    · intro w hSw; (try dsimp only at hSw); obtain ⟨hS1, hS2, hS3, hS4⟩ := hSw; go_simp; (try with_reducible rfl)
                    try simp only [List.getElem_toArray, List.getElem_cons_zero, List.getElem_cons_succ, Act.put, List.setIfInBounds_toArray, List.set_cons_zero, List.set_cons_succ]
                    refine wpAnyH_take (i := 20) (v := ?_) rfl (by kernel_rfl) (by kernel_rfl) (by kernel_rfl) (fun _ _ _ h => h) (Or.inl ⟨by rfl, ?_⟩) (by assumption) ?_
                    rotate_left
                    · intro w hSw; (try dsimp only at hSw); obtain ⟨hS1, hS2, hS3, hS4⟩ := hSw; go_simp; (try with_reducible rfl)
                    try simp only [List.getElem_toArray, List.getElem_cons_zero, List.getElem_cons_succ, Act.put, List.setIfInBounds_toArray, List.set_cons_zero, List.set_cons_succ]
                    refine wpAnyH_ready (rs := [22]) (by kernel_rfl) (by simp) ?_
                    refine AllReadyH.cons (o := _) rfl (fun K hK => ?_) AllReadyH.nil
                    rw [if_pos (by rfl)]
                    refine wp_storeS _ (isP z) z.one rfl (.tmp 25) (.tmp 208) rfl wr2.heap.size 36 zerosU rfl rfl hkb rfl ?_
                    intro w9 k9 hg9 hz9
                    have hD9 := hD1.grown hg9 hD1.size (fun k hk => by cases hk; exact Nat.le_refl _)
                    refine hK _ _ (HS.out _ hD9) (fun hHeld2 => ?_)
                    clear hK K hHeld
                    have hHeld := hHeld2
                    clear hHeld2
                    try simp only [List.getElem_toArray, List.getElem_cons_zero, List.getElem_cons_succ, Act.put, List.setIfInBounds_toArray, List.set_cons_zero, List.set_cons_succ]
                    refine wpAnyH_take (i := 23) (v := ?_) rfl (by kernel_rfl) (by kernel_rfl) (by kernel_rfl) (fun _ _ _ h => h) (Or.inl ⟨by rfl, ?_⟩) (by assumption) ?_
                    rotate_left
                    · intro w hSw; (try dsimp only at hSw); obtain ⟨hS1, hS2, hS3, hS4⟩ := hSw; go_simp; (try with_reducible rfl)
                    try simp only [List.getElem_toArray, List.getElem_cons_zero, List.getElem_cons_succ, Act.put, List.setIfInBounds_toArray, List.set_cons_zero, List.set_cons_succ]
                    refine wpAnyH_done (by kernel_rfl) ?_ _
                    go_wp2_with fail
                    go_meet
                    case rel => exact ⟨_, rfl, rfl, hD9, k9⟩
                case rest =>
                  obtain ⟨N9, rfl, rfl, hbc, hk9⟩ := hcut
                  obtain ⟨wc2, rfl⟩ : ∃ x : World, x = wc := ⟨wc, rfl⟩
                  have HB9 := Lib.hid hbc
                  have HSS := Lib.hid (fun (w' : World) (q : Below wc2.heap.size wc2 w') => And.intro (hk9.rowAt.below q hk9.lt) (And.intro (HS.out w' (below2 hbc q)).1 (HS.out w' (below2 hbc q)).2.2.2))
                  have HOK9 := Lib.hid (fun (w' : World) (q : Below wc2.heap.size wc2 w') => (HOKZ.out.below (P2.out.bel.trans ((below2 hbc q).mono P2.out.bel.size)) (Nat.le_refl _)).lift (P2.out.bel.trans ((below2 hbc q).mono P2.out.bel.size)).size)
                  have P9 := Lib.hid (P2.out.go hbc)
                  clear hbc hk9 c3
                  go_wp2_with fail
                  have hD0 := Below.drew (Below.refl wc2.heap.size wc2)
                  refine wp_region_held_drew (S := fun w' => RowAt w' N9 0 z.row ∧ w'.cell? ⟨h, 3, none⟩ = some (.slice (some ⟨b2, off2, none⟩) L'.length rd) ∧ RowAt w' b2 (off2 + k * 16) z.row) (by kernel_rfl) (HSS.out _ hD0) (fun hHeld => ?_)
                  refine wpAnyH_take (i := 0) (v := ?_) rfl (by kernel_rfl) (by kernel_rfl) (by kernel_rfl) (fun _ _ _ h => h) (Or.inl ⟨by rfl, ?_⟩) (by assumption) ?_
                  rotate_left
                  · intro w hSw; (try dsimp only at hSw); obtain ⟨hS1, hS2, hS3⟩ := hSw; go_simp; (try with_reducible rfl)
                  try simp only [List.getElem_toArray, List.getElem_cons_zero, List.getElem_cons_succ, Act.put, List.setIfInBounds_toArray, List.set_cons_zero, List.set_cons_succ]
                  refine wpAnyH_take (i := 1) (v := ?_) rfl (by kernel_rfl) (by kernel_rfl) (by kernel_rfl) (fun _ _ _ h => h) (Or.inl ⟨by rfl, ?_⟩) (by assumption) ?_
                  rotate_left
                  · intro w hSw; (try dsimp only at hSw); obtain ⟨hS1, hS2, hS3⟩ := hSw; go_simp; (try with_reducible rfl)
                  try simp only [List.getElem_toArray, List.getElem_cons_zero, List.getElem_cons_succ, Act.put, List.setIfInBounds_toArray, List.set_cons_zero, List.set_cons_succ]
                  refine wpAnyH_take (i := 2) (v := ?_) rfl (by kernel_rfl) (by kernel_rfl) (by kernel_rfl) (fun _ _ _ h => h) (Or.inl ⟨by rfl, ?_⟩) (by assumption) ?_
                  rotate_left
                  · intro w hSw; (try dsimp only at hSw); obtain ⟨hS1, hS2, hS3⟩ := hSw; go_simp; (try with_reducible rfl)
                  try simp only [List.getElem_toArray, List.getElem_cons_zero, List.getElem_cons_succ, Act.put, List.setIfInBounds_toArray, List.set_cons_zero, List.set_cons_succ]
                  refine wpAnyH_take (i := 3) (v := aggS z.row) rfl (by kernel_rfl) (by kernel_rfl) (by kernel_rfl) (fun _ _ _ h => h) (Or.inl ⟨by rfl, ?_⟩) (by assumption) ?_
                  · intro w hSw; exact load_execS _ (isP z) rfl rfl hSw.1
                  try simp only [List.getElem_toArray, List.getElem_cons_zero, List.getElem_cons_succ, Act.put, List.setIfInBounds_toArray, List.set_cons_zero, List.set_cons_succ]
                  refine wpAnyH_take (i := 5) (v := ?_) rfl (by kernel_rfl) (by kernel_rfl) (by kernel_rfl) (fun _ _ _ h => h) (Or.inl ⟨by rfl, ?_⟩) (by assumption) ?_
                  rotate_left
                  · intro w hSw; (try dsimp only at hSw); obtain ⟨hS1, hS2, hS3⟩ := hSw; go_simp; (try with_reducible rfl)
                  try simp only [List.getElem_toArray, List.getElem_cons_zero, List.getElem_cons_succ, Act.put, List.setIfInBounds_toArray, List.set_cons_zero, List.set_cons_succ]
                  refine wpAnyH_take (i := 6) (v := ?_) rfl (by kernel_rfl) (by kernel_rfl) (by kernel_rfl) (fun _ _ _ h => h) (Or.inl ⟨by rfl, ?_⟩) (by assumption) ?_
                  rotate_left
                  · intro w hSw; (try dsimp only at hSw); obtain ⟨hS1, hS2, hS3⟩ := hSw; go_simp; (try with_reducible rfl)
                  try simp only [List.getElem_toArray, List.getElem_cons_zero, List.getElem_cons_succ, Act.put, List.setIfInBounds_toArray, List.set_cons_zero, List.set_cons_succ]
                  refine wpAnyH_take (i := 7) (v := ?_) rfl (by kernel_rfl) (by kernel_rfl) (by kernel_rfl) (fun _ _ _ h => h) (Or.inl ⟨by rfl, ?_⟩) (by assumption) ?_
                  rotate_left
                  · intro w hSw; (try dsimp only at hSw); obtain ⟨hS1, hS2, hS3⟩ := hSw; go_simp; (try with_reducible rfl)
                  try simp only [List.getElem_toArray, List.getElem_cons_zero, List.getElem_cons_succ, Act.put, List.setIfInBounds_toArray, List.set_cons_zero, List.set_cons_succ]
                  refine wpAnyH_take (i := 8) (v := ?_) rfl (by kernel_rfl) (by kernel_rfl) (by kernel_rfl) (fun _ _ _ h => h) (Or.inl ⟨by rfl, ?_⟩) (by assumption) ?_
                  rotate_left
                  · intro w hSw; (try dsimp only at hSw); obtain ⟨hS1, hS2, hS3⟩ := hSw; go_simp; (try with_reducible rfl)
                  try simp only [List.getElem_toArray, List.getElem_cons_zero, List.getElem_cons_succ, Act.put, List.setIfInBounds_toArray, List.set_cons_zero, List.set_cons_succ]
                  refine wpAnyH_take (i := 9) (v := ?_) rfl (by kernel_rfl) (by kernel_rfl) (by kernel_rfl) (fun _ _ _ h => h) (Or.inl ⟨by rfl, ?_⟩) (by assumption) ?_
                  rotate_left
                  · intro w hSw; (try dsimp only at hSw); obtain ⟨hS1, hS2, hS3⟩ := hSw; go_simp; (try with_reducible rfl)
                  try simp only [List.getElem_toArray, List.getElem_cons_zero, List.getElem_cons_succ, Act.put, List.setIfInBounds_toArray, List.set_cons_zero, List.set_cons_succ]
                  refine wpAnyH_take (i := 10) (v := ?_) rfl (by kernel_rfl) (by kernel_rfl) (by kernel_rfl) (fun _ _ _ h => h) (Or.inl ⟨by rfl, ?_⟩) (by assumption) ?_
                  rotate_left
                  · intro w hSw; (try dsimp only at hSw); obtain ⟨hS1, hS2, hS3⟩ := hSw; go_simp; (try with_reducible rfl)
                  try simp only [List.getElem_toArray, List.getElem_cons_zero, List.getElem_cons_succ, Act.put, List.setIfInBounds_toArray, List.set_cons_zero, List.set_cons_succ]
                  refine wpAnyH_take (i := 11) (v := aggS z.row) rfl (by kernel_rfl) (by kernel_rfl) (by kernel_rfl) (fun _ _ _ h => h) (Or.inl ⟨by rfl, ?_⟩) (by assumption) ?_
                  · intro w hSw; exact load_execS _ (isR z) rfl rfl hSw.2.2
                  try simp only [List.getElem_toArray, List.getElem_cons_zero, List.getElem_cons_succ, Act.put, List.setIfInBounds_toArray, List.set_cons_zero, List.set_cons_succ]
                  refine wpAnyH_ready (rs := [4]) (by kernel_rfl) (by simp) ?_
                  refine AllReadyH.cons (o := _) rfl (fun K hK => ?_) AllReadyH.nil
                  rw [if_pos (by rfl)]
                  go_simp
                  go_at_call 13
                  refine (told26_any z _).mono ?_
                  rintro e wa ⟨rfl, hg⟩
                  have hD1 := below2 hD0 hg
                  clear hg
                  go_wp2_with fail
                  refine hK.out _ _ (HSS.out _ hD1) (fun hHeld2 => ?_)
                  clear hK K hHeld
                  have hHeld := hHeld2
                  clear hHeld2
                  try simp only [List.getElem_toArray, List.getElem_cons_zero, List.getElem_cons_succ, Act.put, List.setIfInBounds_toArray, List.set_cons_zero, List.set_cons_succ]
                  refine wpAnyH_ready (rs := [12]) (by kernel_rfl) (by simp) ?_
                  refine AllReadyH.cons (o := _) rfl (fun K hK => ?_) AllReadyH.nil
                  rw [if_pos (by rfl)]
                  go_simp
                  go_at_call 17
                  refine (Same26_same z _ (HOK9.out _ hD1)).mono ?_
                  rintro e wb ⟨rfl, hg⟩
                  have hD2 := below2 hD1 hg
                  clear hg
                  go_wp2_with fail
                  refine hK.out _ _ (HSS.out _ hD2) (fun hHeld2 => ?_)
                  clear hK K hHeld
                  have hHeld := hHeld2
                  clear hHeld2
                  try simp only [List.getElem_toArray, List.getElem_cons_zero, List.getElem_cons_succ, Act.put, List.setIfInBounds_toArray, List.set_cons_zero, List.set_cons_succ]
                  refine wpAnyH_take (i := 13) (v := ?_) rfl (by kernel_rfl) (by kernel_rfl) (by kernel_rfl) (fun _ _ _ h => h) (Or.inl ⟨by rfl, ?_⟩) (by assumption) ?_
                  rotate_left
                  · intro w hSw; (try dsimp only at hSw); obtain ⟨hS1, hS2, hS3⟩ := hSw; go_simp; (try with_reducible rfl)
                  try simp only [List.getElem_toArray, List.getElem_cons_zero, List.getElem_cons_succ, Act.put, List.setIfInBounds_toArray, List.set_cons_zero, List.set_cons_succ]
                  refine wpAnyH_take (i := 14) (v := ?_) rfl (by kernel_rfl) (by kernel_rfl) (by kernel_rfl) (fun _ _ _ h => h) (Or.inl ⟨by rfl, ?_⟩) (by assumption) ?_
                  rotate_left
                  · intro w hSw; (try dsimp only at hSw); obtain ⟨hS1, hS2, hS3⟩ := hSw; go_simp; (try with_reducible rfl)
                  try simp only [List.getElem_toArray, List.getElem_cons_zero, List.getElem_cons_succ, Act.put, List.setIfInBounds_toArray, List.set_cons_zero, List.set_cons_succ]
                  refine wpAnyH_done (by kernel_rfl) ?_ _
                  have PN := Lib.hid (P9.out.go hD2)
                  clear hHeld hD0 hD1 hD2 HSS HOK9 P9 HS HB9
                  go_wp2_with fail
                  go_roundw
                  case rel => exact ⟨k + 1, by go_num, HLT2.out, PN.out⟩
                  case measure => have hm := HLT2.out; simp [intOf] at hm ⊢; try omega
              · clear hk2
                go_wp2_with fail
                go_roundw
                case rel => exact ⟨j + 1, by go_num, HLT.out, _, _, _, _, P2.out⟩
                case measure => have hm := HLT.out; simp [intOf] at hm ⊢; try omega
      · go_wp2_with fail
        refine (awake26_any _).mono ?_
        rintro e w3 ⟨rfl, hb3⟩
        have B3 := Lib.hid (S0.out.bel.trans (hb3.mono S0.out.bel.size))
        clear hb3
        go_wp2_with fail
        go_ret
        exact ⟨rfl, B3.out⟩
end Go.Proofs.Ytgaoonnokhlgjaa

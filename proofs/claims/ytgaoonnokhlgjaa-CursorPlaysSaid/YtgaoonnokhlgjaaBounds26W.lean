/-
  P26.3: bounds; numbers; owners: the walk.
-/
import Derived.Test.YtgaoonnokhlgjaaFew26
import Derived.Test.YtgaoonnokhlgjaaLives26W
namespace Go.Proofs.Ytgaoonnokhlgjaa
set_option linter.unusedVariables false
set_option linter.unusedSimpArgs false
open Go.RowKit

theorem Blk.keepA {w w' : World} {g T : Nat} {cs : List Value} {b : Nat} {v v' : Value} {mo li la : Int} {L : List Cu} (h : Blk w b T cs) (hk : KeepA w w' g v v') (ht : T ≠ 67 ∧ T ≠ 36) (hT : Tab w g mo li la v L) : Blk w' b T cs := by
  refine (hk.block b h.lt (fun e => ?_) (fun e => ?_)).trans h
  · subst e
    have := h.symm.trans hT.blk
    simp at this
    exact ht.1 this.2
  · obtain ⟨cur, hc⟩ := hT.own.typ e
    have := h.symm.trans hc
    simp at this
    exact ht.2 this.2
structure BRel (W0 : World) (g : Nat) (n li : Int) (x : Value) (wr : World) (j : Nat) (la : Int) (L : List Cu) (v : Value) : Prop where
  xB : x = .int .i64 la
  laB : 0 ≤ la ∧ la ≤ (j : Int)
  tab : Tab wr g n li la v L
  good : Good n li la L
  bel : Below W0.heap.size W0 wr
theorem wrap_less {o o2 : Int} (h : -9223372036854775808 ≤ o ∧ o ≤ 9223372036854775807) (e : wrap64 (o - 1) = o2) : o2 ≠ o := by
  unfold wrap64 at e
  omega
theorem pos_other {mo li la : Int} {L : List Cu} {c : Cu} {o2 : Int} (hm : ∀ x ∈ L, x.id ≤ la ∨ x = openedU c (la + 1)) (h2 : o2 ≠ c.owner) : posU L o2 (la + 1) = none := by
  refine posU_no fun x hx => ?_
  rcases hm x hx with h | rfl
  · unfold hitU
    rw [show (x.id == la + 1) = false by simp; omega]
    rfl
  · unfold hitU
    have : ((openedU c (la + 1)).owner == o2) = false := by
      show (c.owner == o2) = false
      simpa using Ne.symm h2
    rw [this]; simp
set_option maxRecDepth 100000 in
set_option maxHeartbeats 25600000 in
theorem CursorBounds.walk (m : Nat) (life : Int) (A : Option Addr) (d : Nat) (L : List A26) (W : World) (hm : m < 256) (hlife : -9223372036854775808 ≤ life ∧ life ≤ 9223372036854775807) (hd : L.length ≤ d) (hd2 : d ≤ maxLen) (hA : ActsIn26 W A L) (hok : ∀ s ∈ L, s.ok W) :
    Calls Try.prog 4 #[.int .u8 (m : Int), .int .i64 life, .slice A L.length d] W fun e w' => e = .returned (.bool true) ∧ Below W.heap.size W w' := by
  have QF := Lib.hid (few26_any A d L W hA)
  have HA := Lib.hid hA; have HOKS := Lib.hid hok
  clear hA hok hd hd2
  go_enter Try.func4, Try.ntmps4
  go_wp2_with fail
  refine QF.out.mono ?_
  rintro e w1 ⟨q, rfl, hq, hb1⟩
  have B1 := Lib.hid hb1
  cases q with
  | false =>
    clear hq hb1
    go_wp2_with fail
    refine (awake26_any _).mono ?_
    rintro e w2 ⟨rfl, hb2⟩
    have B2 := Lib.hid (B1.out.trans (hb2.mono B1.out.size))
    clear hb2
    go_wp2_with fail
    go_ret
    exact ⟨rfl, B2.out⟩
  | true =>
    have HQ := Lib.hid (hq rfl).1
    clear hq hb1 QF
    go_wp2_with fail
    obtain ⟨n, hn⟩ : ∃ n : Int, n = (m : Int) % 9 := ⟨_, rfl⟩
    rw [← hn]
    have hnb : 0 ≤ n ∧ n ≤ 8 := by omega
    obtain ⟨li, hli⟩ : ∃ li, li = lifeC life := ⟨_, rfl⟩
    have hlib : 1 ≤ li ∧ li ≤ 9223372036854775807 := by rw [hli]; unfold lifeC; split <;> omega
    clear hn
    refine (New26_any n life w1).mono ?_
    rintro e w2 ⟨rfl, ht, hb2⟩
    rw [show mostC n = n from by unfold mostC; rw [if_neg (by omega), if_neg (by omega)], ← hli] at ht
    have HGE := Lib.hid (show W.heap.size ≤ w1.heap.size from B1.out.size)
    have S2 := Lib.hid (show BRel W w1.heap.size n li (.int .i64 0) w2 0 0 [] _ from ⟨rfl, by simp, ht, Good.nil hnb hlib, B1.out.trans (hb2.mono B1.out.size)⟩)
    clear ht hb2 hli
    generalize w1.heap.size = g at *
    go_wp2_with fail
    go_loopw [9, 10] (fun x i wr => ∃ j : Nat, i = .int .i64 (j : Int) ∧ j ≤ L.length ∧ ∃ la L' v, BRel W g n li x wr j la L' v) (fun _ i _ => L.length - (intOf i).toNat)
    case atStart => exact ⟨0, rfl, Nat.zero_le _, 0, [], _, S2.out⟩
    case round =>
      obtain ⟨j, rfl, hj, la, Lc, v, S⟩ := hrel
      obtain ⟨rfl, hla, ht, hgood, hbel⟩ := S
      have B0 := Lib.hid hbel; have T0 := Lib.hid ht; have G0 := Lib.hid hgood
      by_cases hlt : j < L.length
      · obtain ⟨s, hs⟩ : ∃ s, L[j]? = some s := ⟨_, List.getElem?_eq_getElem hlt⟩
        obtain ⟨b, off, rfl, hb, hr⟩ := HA.out.at hbel hs
        have HR := Lib.hid hr; have HLT := Lib.hid hlt
        have HOKA := Lib.hid (HOKS.out s (List.mem_of_getElem? hs))
        have hjb : (j : Int) ≤ 60 := by have := HQ.out; omega
        have hi0 : (0 : Int) ≤ (j : Int) := by omega
        have hi1 : (j : Int) < (L.length : Int) := by omega
        have hkb : s.kind < 256 := HOKA.out.1
        clear hr hb hj hs ht hgood hbel S2
        go_wp2_with (first
          | (refine wpList_loadS _ (isA26 s) rfl (.tmp 36) rfl b (off + j * 21) rfl HR.out ?_)
          | (refine wpList_storeNewS (row := s.row) _ wr (List.append [.int .u8 0] (zerosU ++ [.int .i64 0, .int .i64 0, .int .u32 0, .int .i64 0])) 38 rfl (isA26 s) s.one rfl rfl (.tmp 11) (.tmp 37) rfl rfl rfl rfl ?_))
        intro w2 k2 hb2 hz2
        have B2 := Lib.hid (B0.out.trans (hb2.mono B0.out.size)); have T2 := Lib.hid (T0.out.below hb2); have K2 := Lib.hid k2
        have k0 : w2.cell? ⟨wr.heap.size, 0, none⟩ = some (.int .u8 (s.kind : Int)) := k2.cell 0
        have k17 : w2.cell? ⟨wr.heap.size, 17, none⟩ = some (.int .i64 s.owner) := k2.cell 17
        have k18 : w2.cell? ⟨wr.heap.size, 18, none⟩ = some (.int .i64 s.id) := k2.cell 18
        clear k2 hb2 hz2 T0 B0 HR
        have hk6 : (s.kind : Int) % 6 = 0 ∨ (s.kind : Int) % 6 = 1 ∨ (s.kind : Int) % 6 = 2 ∨ (s.kind : Int) % 6 = 3 ∨ (s.kind : Int) % 6 = 4 ∨ (s.kind : Int) % 6 = 5 := by omega
        rcases hk6 with hk | hk | hk | hk | hk | hk
        · obtain ⟨L5, G9, hot, G5, _, hmem, hg9, hin⟩ := open_to G0.out hla.1 s.c
          have G5 := Lib.hid G5; have HG9 := Lib.hid hg9; have HIN := Lib.hid hin
          have QO := Lib.hid (Open26_to g n li la v Lc s.c L5 G9 w2 T2.out G0.out (by omega) hot)
          obtain ⟨o2, ho2⟩ : ∃ o2, wrap64 (s.c.owner - 1) = o2 := ⟨_, rfl⟩
          have HO2 := Lib.hid (And.intro ho2 (wrap_less HOKA.out.2.2 ho2))
          have HNO := Lib.hid (pos_other (mo := n) (li := li) (la := la) (L := L5) (c := s.c) (o2 := o2) (fun x hx => (hmem x hx).imp (fun h => (G0.out.last x h).2) id) HO2.out.2)
          clear hot G0 hmem hg9 hin ho2
          by_cases hn0 : 0 < n
          · have HN0 := Lib.hid hn0
            clear hn0
            go_wp2_with (refine wpList_loadS _ (isP s.c) rfl (.tmp 49) rfl wr.heap.size 1 rfl (by have := A26.sub K2.out.rowAt; simpa using this) ?_)
            clear k0 k17 k18
            refine QO.out.mono ?_
            rintro e w3 ⟨u, v3, rfl, ht, hs, hk⟩
            have B3 := Lib.hid (B2.out.trans ((T2.out.keep hk HGE.out)))
            have T3 := Lib.hid ht
            obtain ⟨Au, du, rfl, _⟩ := id hs
            have K3 := Lib.hid (K2.out.keepA hk (by decide) T2.out)
            clear ht hs hk QO T2
            have hg1 : ¬ (1 : Int) < (G9.length : Int) := by have := HG9.out; omega
            have hid1 : ¬ (la + 1 ≤ la) := by omega
            have hro : w3.cell? ⟨wr.heap.size, 2, none⟩ = some (.int .i64 s.c.owner) := K3.out.cell 2
            obtain ⟨k9, hk9⟩ := List.getElem?_of_mem (HIN.out HN0.out)
            have hp9 : posU L5 s.c.owner (la + 1) = some k9 := G5.out.pos hk9
            have QG := Lib.hid (Get26_some g n li (la + 1) v3 L5 k9 (openedU s.c (la + 1)) s.c.owner (la + 1) w3 T3.out hp9 hk9)
            clear hk9 hp9
            go_wp2_with fail
            refine QG.out.mono ?_
            rintro e w4 ⟨rfl, hb4⟩
            have B4 := Lib.hid (B3.out.trans (hb4.mono B3.out.size)); have T4 := Lib.hid (T3.out.below hb4); have K4 := Lib.hid (K3.out.below hb4 K3.out.lt)
            clear hb4 QG T3 K3 hro B3
            go_wp2_with (refine wpList_storeNewS (row := (openedU s.c (la + 1)).row) _ w4 zerosU 36 rfl (isP (openedU s.c (la + 1))) (openedU s.c (la + 1)).one rfl rfl (.tmp 14) (.tmp 70) rfl rfl rfl rfl ?_)
            intro w5 k5 hb5 hz5
            have e0 : w5.cell? ⟨w4.heap.size, 0, none⟩ = some (.int .i64 (la + 1)) := k5.cell 0
            have B6 := Lib.hid (B4.out.trans (hb5.mono B4.out.size)); have T6 := Lib.hid (T4.out.below hb5); have K6 := Lib.hid (K4.out.below hb5 K4.out.lt)
            clear hb5 hz5 k5 T4 K4 B4
            have hpn : 0 < n := HN0.out
            have hro : w5.cell? ⟨wr.heap.size, 2, none⟩ = some (.int .i64 s.c.owner) := K6.out.cell 2
            have hwo := HO2.out.1
            have QH := Lib.hid (Get26_none g n li (la + 1) v3 L5 o2 (la + 1) w5 T6.out HNO.out)
            go_wp2_with fail
            refine QH.out.mono ?_
            rintro e w7 ⟨rfl, hb7⟩
            have B7 := Lib.hid (B6.out.trans (hb7.mono B6.out.size)); have T7 := Lib.hid (T6.out.below hb7)
            clear hb7 QH T6 K6 hro B6
            go_wp2_with (refine wpList_storeNewS (row := Cu0.row) _ w7 zerosU 36 rfl (isP Cu0) Cu0.one rfl rfl (.tmp 16) (.tmp 93) rfl rfl rfl rfl ?_)
            intro w8 k8 hb8 hz8
            have B5 := Lib.hid (B7.out.trans (hb8.mono B7.out.size)); have T5 := Lib.hid (T7.out.below hb8)
            clear hb8 hz8 k8 T7 B7 hwo
            obtain ⟨V5, hV5⟩ : ∃ V, V = v3 := ⟨_, rfl⟩
            subst hV5
            obtain ⟨LA5, hLA5⟩ : ∃ V, V = la + 1 := ⟨_, rfl⟩
            rw [← hLA5] at T5 G5 ⊢
            have HLA := Lib.hid (show 0 ≤ LA5 ∧ LA5 ≤ ((j + 1 : Nat) : Int) by rw [hLA5]; omega)
            clear hLA5 hla
            go_wp2_with fail
            refine (Len26_any _ _ _ _ _ _ _ T5.out).mono ?_
            rintro e wx ⟨rfl, rfl⟩
            have hlen : ¬ (n : Int) < (L5.length : Int) := by have := G5.out.len; omega
            go_wp2_with fail
            go_roundw
            case rel => exact ⟨j + 1, by go_num, HLT.out, LA5, L5, V5, rfl, HLA.out, T5.out, G5.out, B5.out⟩
            case measure => have hm := HLT.out; simp [intOf] at hm ⊢; try omega
          · have HN0 := Lib.hid hn0
            clear hn0
            go_wp2_with (refine wpList_loadS _ (isP s.c) rfl (.tmp 49) rfl wr.heap.size 1 rfl (by have := A26.sub K2.out.rowAt; simpa using this) ?_)
            clear k0 k17 k18
            refine QO.out.mono ?_
            rintro e w3 ⟨u, v3, rfl, ht, hs, hk⟩
            have B3 := Lib.hid (B2.out.trans ((T2.out.keep hk HGE.out)))
            have T3 := Lib.hid ht
            obtain ⟨Au, du, rfl, _⟩ := id hs
            have K3 := Lib.hid (K2.out.keepA hk (by decide) T2.out)
            clear ht hs hk QO T2
            have hg1 : ¬ (1 : Int) < (G9.length : Int) := by have := HG9.out; omega
            have hid1 : ¬ (la + 1 ≤ la) := by omega
            have hro : w3.cell? ⟨wr.heap.size, 2, none⟩ = some (.int .i64 s.c.owner) := K3.out.cell 2
            have hL5 : L5 = [] := List.eq_nil_of_length_eq_zero (by have := G5.out.len; have := HN0.out; omega)
            have QG := Lib.hid (Get26_none g n li (la + 1) v3 L5 s.c.owner (la + 1) w3 T3.out (by rw [hL5]; rfl))
            clear hL5
            go_wp2_with fail
            refine QG.out.mono ?_
            rintro e w4 ⟨rfl, hb4⟩
            have B4 := Lib.hid (B3.out.trans (hb4.mono B3.out.size)); have T4 := Lib.hid (T3.out.below hb4); have K4 := Lib.hid (K3.out.below hb4 K3.out.lt)
            clear hb4 QG T3 K3 hro B3
            go_wp2_with (refine wpList_storeNewS (row := Cu0.row) _ w4 zerosU 36 rfl (isP Cu0) Cu0.one rfl rfl (.tmp 14) (.tmp 70) rfl rfl rfl rfl ?_)
            intro w5 k5 hb5 hz5
            have B6 := Lib.hid (B4.out.trans (hb5.mono B4.out.size)); have T6 := Lib.hid (T4.out.below hb5); have K6 := Lib.hid (K4.out.below hb5 K4.out.lt)
            clear hb5 hz5 k5 T4 K4 B4
            have hpn : ¬ 0 < n := by have := HN0.out; omega
            have hro : w5.cell? ⟨wr.heap.size, 2, none⟩ = some (.int .i64 s.c.owner) := K6.out.cell 2
            have hwo := HO2.out.1
            have QH := Lib.hid (Get26_none g n li (la + 1) v3 L5 o2 (la + 1) w5 T6.out HNO.out)
            go_wp2_with fail
            refine QH.out.mono ?_
            rintro e w7 ⟨rfl, hb7⟩
            have B7 := Lib.hid (B6.out.trans (hb7.mono B6.out.size)); have T7 := Lib.hid (T6.out.below hb7)
            clear hb7 QH T6 K6 hro B6
            go_wp2_with (refine wpList_storeNewS (row := Cu0.row) _ w7 zerosU 36 rfl (isP Cu0) Cu0.one rfl rfl (.tmp 16) (.tmp 93) rfl rfl rfl rfl ?_)
            intro w8 k8 hb8 hz8
            have B5 := Lib.hid (B7.out.trans (hb8.mono B7.out.size)); have T5 := Lib.hid (T7.out.below hb8)
            clear hb8 hz8 k8 T7 B7 hwo
            obtain ⟨V5, hV5⟩ : ∃ V, V = v3 := ⟨_, rfl⟩
            subst hV5
            obtain ⟨LA5, hLA5⟩ : ∃ V, V = la + 1 := ⟨_, rfl⟩
            rw [← hLA5] at T5 G5 ⊢
            have HLA := Lib.hid (show 0 ≤ LA5 ∧ LA5 ≤ ((j + 1 : Nat) : Int) by rw [hLA5]; omega)
            clear hLA5 hla
            go_wp2_with fail
            refine (Len26_any _ _ _ _ _ _ _ T5.out).mono ?_
            rintro e wx ⟨rfl, rfl⟩
            have hlen : ¬ (n : Int) < (L5.length : Int) := by have := G5.out.len; omega
            go_wp2_with fail
            go_roundw
            case rel => exact ⟨j + 1, by go_num, HLT.out, LA5, L5, V5, rfl, HLA.out, T5.out, G5.out, B5.out⟩
            case measure => have hm := HLT.out; simp [intOf] at hm ⊢; try omega
        · obtain ⟨L5, G9, hot, G5, _, hmem, hg9, hin⟩ := open_to G0.out hla.1 s.c
          have G5 := Lib.hid G5; have HG9 := Lib.hid hg9; have HIN := Lib.hid hin
          have QO := Lib.hid (Open26_to g n li la v Lc s.c L5 G9 w2 T2.out G0.out (by omega) hot)
          obtain ⟨o2, ho2⟩ : ∃ o2, wrap64 (s.c.owner - 1) = o2 := ⟨_, rfl⟩
          have HO2 := Lib.hid (And.intro ho2 (wrap_less HOKA.out.2.2 ho2))
          have HNO := Lib.hid (pos_other (mo := n) (li := li) (la := la) (L := L5) (c := s.c) (o2 := o2) (fun x hx => (hmem x hx).imp (fun h => (G0.out.last x h).2) id) HO2.out.2)
          clear hot G0 hmem hg9 hin ho2
          by_cases hn0 : 0 < n
          · have HN0 := Lib.hid hn0
            clear hn0
            go_wp2_with (refine wpList_loadS _ (isP s.c) rfl (.tmp 49) rfl wr.heap.size 1 rfl (by have := A26.sub K2.out.rowAt; simpa using this) ?_)
            clear k0 k17 k18
            refine QO.out.mono ?_
            rintro e w3 ⟨u, v3, rfl, ht, hs, hk⟩
            have B3 := Lib.hid (B2.out.trans ((T2.out.keep hk HGE.out)))
            have T3 := Lib.hid ht
            obtain ⟨Au, du, rfl, _⟩ := id hs
            have K3 := Lib.hid (K2.out.keepA hk (by decide) T2.out)
            clear ht hs hk QO T2
            have hg1 : ¬ (1 : Int) < (G9.length : Int) := by have := HG9.out; omega
            have hid1 : ¬ (la + 1 ≤ la) := by omega
            have hro : w3.cell? ⟨wr.heap.size, 2, none⟩ = some (.int .i64 s.c.owner) := K3.out.cell 2
            obtain ⟨k9, hk9⟩ := List.getElem?_of_mem (HIN.out HN0.out)
            have hp9 : posU L5 s.c.owner (la + 1) = some k9 := G5.out.pos hk9
            have QG := Lib.hid (Get26_some g n li (la + 1) v3 L5 k9 (openedU s.c (la + 1)) s.c.owner (la + 1) w3 T3.out hp9 hk9)
            clear hk9 hp9
            go_wp2_with fail
            refine QG.out.mono ?_
            rintro e w4 ⟨rfl, hb4⟩
            have B4 := Lib.hid (B3.out.trans (hb4.mono B3.out.size)); have T4 := Lib.hid (T3.out.below hb4); have K4 := Lib.hid (K3.out.below hb4 K3.out.lt)
            clear hb4 QG T3 K3 hro B3
            go_wp2_with (refine wpList_storeNewS (row := (openedU s.c (la + 1)).row) _ w4 zerosU 36 rfl (isP (openedU s.c (la + 1))) (openedU s.c (la + 1)).one rfl rfl (.tmp 14) (.tmp 70) rfl rfl rfl rfl ?_)
            intro w5 k5 hb5 hz5
            have e0 : w5.cell? ⟨w4.heap.size, 0, none⟩ = some (.int .i64 (la + 1)) := k5.cell 0
            have B6 := Lib.hid (B4.out.trans (hb5.mono B4.out.size)); have T6 := Lib.hid (T4.out.below hb5); have K6 := Lib.hid (K4.out.below hb5 K4.out.lt)
            clear hb5 hz5 k5 T4 K4 B4
            have hpn : 0 < n := HN0.out
            have hro : w5.cell? ⟨wr.heap.size, 2, none⟩ = some (.int .i64 s.c.owner) := K6.out.cell 2
            have hwo := HO2.out.1
            have QH := Lib.hid (Get26_none g n li (la + 1) v3 L5 o2 (la + 1) w5 T6.out HNO.out)
            go_wp2_with fail
            refine QH.out.mono ?_
            rintro e w7 ⟨rfl, hb7⟩
            have B7 := Lib.hid (B6.out.trans (hb7.mono B6.out.size)); have T7 := Lib.hid (T6.out.below hb7)
            clear hb7 QH T6 K6 hro B6
            go_wp2_with (refine wpList_storeNewS (row := Cu0.row) _ w7 zerosU 36 rfl (isP Cu0) Cu0.one rfl rfl (.tmp 16) (.tmp 93) rfl rfl rfl rfl ?_)
            intro w8 k8 hb8 hz8
            have B5 := Lib.hid (B7.out.trans (hb8.mono B7.out.size)); have T5 := Lib.hid (T7.out.below hb8)
            clear hb8 hz8 k8 T7 B7 hwo
            obtain ⟨V5, hV5⟩ : ∃ V, V = v3 := ⟨_, rfl⟩
            subst hV5
            obtain ⟨LA5, hLA5⟩ : ∃ V, V = la + 1 := ⟨_, rfl⟩
            rw [← hLA5] at T5 G5 ⊢
            have HLA := Lib.hid (show 0 ≤ LA5 ∧ LA5 ≤ ((j + 1 : Nat) : Int) by rw [hLA5]; omega)
            clear hLA5 hla
            go_wp2_with fail
            refine (Len26_any _ _ _ _ _ _ _ T5.out).mono ?_
            rintro e wx ⟨rfl, rfl⟩
            have hlen : ¬ (n : Int) < (L5.length : Int) := by have := G5.out.len; omega
            go_wp2_with fail
            go_roundw
            case rel => exact ⟨j + 1, by go_num, HLT.out, LA5, L5, V5, rfl, HLA.out, T5.out, G5.out, B5.out⟩
            case measure => have hm := HLT.out; simp [intOf] at hm ⊢; try omega
          · have HN0 := Lib.hid hn0
            clear hn0
            go_wp2_with (refine wpList_loadS _ (isP s.c) rfl (.tmp 49) rfl wr.heap.size 1 rfl (by have := A26.sub K2.out.rowAt; simpa using this) ?_)
            clear k0 k17 k18
            refine QO.out.mono ?_
            rintro e w3 ⟨u, v3, rfl, ht, hs, hk⟩
            have B3 := Lib.hid (B2.out.trans ((T2.out.keep hk HGE.out)))
            have T3 := Lib.hid ht
            obtain ⟨Au, du, rfl, _⟩ := id hs
            have K3 := Lib.hid (K2.out.keepA hk (by decide) T2.out)
            clear ht hs hk QO T2
            have hg1 : ¬ (1 : Int) < (G9.length : Int) := by have := HG9.out; omega
            have hid1 : ¬ (la + 1 ≤ la) := by omega
            have hro : w3.cell? ⟨wr.heap.size, 2, none⟩ = some (.int .i64 s.c.owner) := K3.out.cell 2
            have hL5 : L5 = [] := List.eq_nil_of_length_eq_zero (by have := G5.out.len; have := HN0.out; omega)
            have QG := Lib.hid (Get26_none g n li (la + 1) v3 L5 s.c.owner (la + 1) w3 T3.out (by rw [hL5]; rfl))
            clear hL5
            go_wp2_with fail
            refine QG.out.mono ?_
            rintro e w4 ⟨rfl, hb4⟩
            have B4 := Lib.hid (B3.out.trans (hb4.mono B3.out.size)); have T4 := Lib.hid (T3.out.below hb4); have K4 := Lib.hid (K3.out.below hb4 K3.out.lt)
            clear hb4 QG T3 K3 hro B3
            go_wp2_with (refine wpList_storeNewS (row := Cu0.row) _ w4 zerosU 36 rfl (isP Cu0) Cu0.one rfl rfl (.tmp 14) (.tmp 70) rfl rfl rfl rfl ?_)
            intro w5 k5 hb5 hz5
            have B6 := Lib.hid (B4.out.trans (hb5.mono B4.out.size)); have T6 := Lib.hid (T4.out.below hb5); have K6 := Lib.hid (K4.out.below hb5 K4.out.lt)
            clear hb5 hz5 k5 T4 K4 B4
            have hpn : ¬ 0 < n := by have := HN0.out; omega
            have hro : w5.cell? ⟨wr.heap.size, 2, none⟩ = some (.int .i64 s.c.owner) := K6.out.cell 2
            have hwo := HO2.out.1
            have QH := Lib.hid (Get26_none g n li (la + 1) v3 L5 o2 (la + 1) w5 T6.out HNO.out)
            go_wp2_with fail
            refine QH.out.mono ?_
            rintro e w7 ⟨rfl, hb7⟩
            have B7 := Lib.hid (B6.out.trans (hb7.mono B6.out.size)); have T7 := Lib.hid (T6.out.below hb7)
            clear hb7 QH T6 K6 hro B6
            go_wp2_with (refine wpList_storeNewS (row := Cu0.row) _ w7 zerosU 36 rfl (isP Cu0) Cu0.one rfl rfl (.tmp 16) (.tmp 93) rfl rfl rfl rfl ?_)
            intro w8 k8 hb8 hz8
            have B5 := Lib.hid (B7.out.trans (hb8.mono B7.out.size)); have T5 := Lib.hid (T7.out.below hb8)
            clear hb8 hz8 k8 T7 B7 hwo
            obtain ⟨V5, hV5⟩ : ∃ V, V = v3 := ⟨_, rfl⟩
            subst hV5
            obtain ⟨LA5, hLA5⟩ : ∃ V, V = la + 1 := ⟨_, rfl⟩
            rw [← hLA5] at T5 G5 ⊢
            have HLA := Lib.hid (show 0 ≤ LA5 ∧ LA5 ≤ ((j + 1 : Nat) : Int) by rw [hLA5]; omega)
            clear hLA5 hla
            go_wp2_with fail
            refine (Len26_any _ _ _ _ _ _ _ T5.out).mono ?_
            rintro e wx ⟨rfl, rfl⟩
            have hlen : ¬ (n : Int) < (L5.length : Int) := by have := G5.out.len; omega
            go_wp2_with fail
            go_roundw
            case rel => exact ⟨j + 1, by go_num, HLT.out, LA5, L5, V5, rfl, HLA.out, T5.out, G5.out, B5.out⟩
            case measure => have hm := HLT.out; simp [intOf] at hm ⊢; try omega
        · obtain ⟨L5, G9, hot, G5, _, hmem, hg9, hin⟩ := open_to G0.out hla.1 s.c
          have G5 := Lib.hid G5; have HG9 := Lib.hid hg9; have HIN := Lib.hid hin
          have QO := Lib.hid (Open26_to g n li la v Lc s.c L5 G9 w2 T2.out G0.out (by omega) hot)
          obtain ⟨o2, ho2⟩ : ∃ o2, wrap64 (s.c.owner - 1) = o2 := ⟨_, rfl⟩
          have HO2 := Lib.hid (And.intro ho2 (wrap_less HOKA.out.2.2 ho2))
          have HNO := Lib.hid (pos_other (mo := n) (li := li) (la := la) (L := L5) (c := s.c) (o2 := o2) (fun x hx => (hmem x hx).imp (fun h => (G0.out.last x h).2) id) HO2.out.2)
          clear hot G0 hmem hg9 hin ho2
          by_cases hn0 : 0 < n
          · have HN0 := Lib.hid hn0
            clear hn0
            go_wp2_with (refine wpList_loadS _ (isP s.c) rfl (.tmp 49) rfl wr.heap.size 1 rfl (by have := A26.sub K2.out.rowAt; simpa using this) ?_)
            clear k0 k17 k18
            refine QO.out.mono ?_
            rintro e w3 ⟨u, v3, rfl, ht, hs, hk⟩
            have B3 := Lib.hid (B2.out.trans ((T2.out.keep hk HGE.out)))
            have T3 := Lib.hid ht
            obtain ⟨Au, du, rfl, _⟩ := id hs
            have K3 := Lib.hid (K2.out.keepA hk (by decide) T2.out)
            clear ht hs hk QO T2
            have hg1 : ¬ (1 : Int) < (G9.length : Int) := by have := HG9.out; omega
            have hid1 : ¬ (la + 1 ≤ la) := by omega
            have hro : w3.cell? ⟨wr.heap.size, 2, none⟩ = some (.int .i64 s.c.owner) := K3.out.cell 2
            obtain ⟨k9, hk9⟩ := List.getElem?_of_mem (HIN.out HN0.out)
            have hp9 : posU L5 s.c.owner (la + 1) = some k9 := G5.out.pos hk9
            have QG := Lib.hid (Get26_some g n li (la + 1) v3 L5 k9 (openedU s.c (la + 1)) s.c.owner (la + 1) w3 T3.out hp9 hk9)
            clear hk9 hp9
            go_wp2_with fail
            refine QG.out.mono ?_
            rintro e w4 ⟨rfl, hb4⟩
            have B4 := Lib.hid (B3.out.trans (hb4.mono B3.out.size)); have T4 := Lib.hid (T3.out.below hb4); have K4 := Lib.hid (K3.out.below hb4 K3.out.lt)
            clear hb4 QG T3 K3 hro B3
            go_wp2_with (refine wpList_storeNewS (row := (openedU s.c (la + 1)).row) _ w4 zerosU 36 rfl (isP (openedU s.c (la + 1))) (openedU s.c (la + 1)).one rfl rfl (.tmp 14) (.tmp 70) rfl rfl rfl rfl ?_)
            intro w5 k5 hb5 hz5
            have e0 : w5.cell? ⟨w4.heap.size, 0, none⟩ = some (.int .i64 (la + 1)) := k5.cell 0
            have B6 := Lib.hid (B4.out.trans (hb5.mono B4.out.size)); have T6 := Lib.hid (T4.out.below hb5); have K6 := Lib.hid (K4.out.below hb5 K4.out.lt)
            clear hb5 hz5 k5 T4 K4 B4
            have hpn : 0 < n := HN0.out
            have hro : w5.cell? ⟨wr.heap.size, 2, none⟩ = some (.int .i64 s.c.owner) := K6.out.cell 2
            have hwo := HO2.out.1
            have QH := Lib.hid (Get26_none g n li (la + 1) v3 L5 o2 (la + 1) w5 T6.out HNO.out)
            go_wp2_with fail
            refine QH.out.mono ?_
            rintro e w7 ⟨rfl, hb7⟩
            have B7 := Lib.hid (B6.out.trans (hb7.mono B6.out.size)); have T7 := Lib.hid (T6.out.below hb7)
            clear hb7 QH T6 K6 hro B6
            go_wp2_with (refine wpList_storeNewS (row := Cu0.row) _ w7 zerosU 36 rfl (isP Cu0) Cu0.one rfl rfl (.tmp 16) (.tmp 93) rfl rfl rfl rfl ?_)
            intro w8 k8 hb8 hz8
            have B5 := Lib.hid (B7.out.trans (hb8.mono B7.out.size)); have T5 := Lib.hid (T7.out.below hb8)
            clear hb8 hz8 k8 T7 B7 hwo
            obtain ⟨V5, hV5⟩ : ∃ V, V = v3 := ⟨_, rfl⟩
            subst hV5
            obtain ⟨LA5, hLA5⟩ : ∃ V, V = la + 1 := ⟨_, rfl⟩
            rw [← hLA5] at T5 G5 ⊢
            have HLA := Lib.hid (show 0 ≤ LA5 ∧ LA5 ≤ ((j + 1 : Nat) : Int) by rw [hLA5]; omega)
            clear hLA5 hla
            go_wp2_with fail
            refine (Len26_any _ _ _ _ _ _ _ T5.out).mono ?_
            rintro e wx ⟨rfl, rfl⟩
            have hlen : ¬ (n : Int) < (L5.length : Int) := by have := G5.out.len; omega
            go_wp2_with fail
            go_roundw
            case rel => exact ⟨j + 1, by go_num, HLT.out, LA5, L5, V5, rfl, HLA.out, T5.out, G5.out, B5.out⟩
            case measure => have hm := HLT.out; simp [intOf] at hm ⊢; try omega
          · have HN0 := Lib.hid hn0
            clear hn0
            go_wp2_with (refine wpList_loadS _ (isP s.c) rfl (.tmp 49) rfl wr.heap.size 1 rfl (by have := A26.sub K2.out.rowAt; simpa using this) ?_)
            clear k0 k17 k18
            refine QO.out.mono ?_
            rintro e w3 ⟨u, v3, rfl, ht, hs, hk⟩
            have B3 := Lib.hid (B2.out.trans ((T2.out.keep hk HGE.out)))
            have T3 := Lib.hid ht
            obtain ⟨Au, du, rfl, _⟩ := id hs
            have K3 := Lib.hid (K2.out.keepA hk (by decide) T2.out)
            clear ht hs hk QO T2
            have hg1 : ¬ (1 : Int) < (G9.length : Int) := by have := HG9.out; omega
            have hid1 : ¬ (la + 1 ≤ la) := by omega
            have hro : w3.cell? ⟨wr.heap.size, 2, none⟩ = some (.int .i64 s.c.owner) := K3.out.cell 2
            have hL5 : L5 = [] := List.eq_nil_of_length_eq_zero (by have := G5.out.len; have := HN0.out; omega)
            have QG := Lib.hid (Get26_none g n li (la + 1) v3 L5 s.c.owner (la + 1) w3 T3.out (by rw [hL5]; rfl))
            clear hL5
            go_wp2_with fail
            refine QG.out.mono ?_
            rintro e w4 ⟨rfl, hb4⟩
            have B4 := Lib.hid (B3.out.trans (hb4.mono B3.out.size)); have T4 := Lib.hid (T3.out.below hb4); have K4 := Lib.hid (K3.out.below hb4 K3.out.lt)
            clear hb4 QG T3 K3 hro B3
            go_wp2_with (refine wpList_storeNewS (row := Cu0.row) _ w4 zerosU 36 rfl (isP Cu0) Cu0.one rfl rfl (.tmp 14) (.tmp 70) rfl rfl rfl rfl ?_)
            intro w5 k5 hb5 hz5
            have B6 := Lib.hid (B4.out.trans (hb5.mono B4.out.size)); have T6 := Lib.hid (T4.out.below hb5); have K6 := Lib.hid (K4.out.below hb5 K4.out.lt)
            clear hb5 hz5 k5 T4 K4 B4
            have hpn : ¬ 0 < n := by have := HN0.out; omega
            have hro : w5.cell? ⟨wr.heap.size, 2, none⟩ = some (.int .i64 s.c.owner) := K6.out.cell 2
            have hwo := HO2.out.1
            have QH := Lib.hid (Get26_none g n li (la + 1) v3 L5 o2 (la + 1) w5 T6.out HNO.out)
            go_wp2_with fail
            refine QH.out.mono ?_
            rintro e w7 ⟨rfl, hb7⟩
            have B7 := Lib.hid (B6.out.trans (hb7.mono B6.out.size)); have T7 := Lib.hid (T6.out.below hb7)
            clear hb7 QH T6 K6 hro B6
            go_wp2_with (refine wpList_storeNewS (row := Cu0.row) _ w7 zerosU 36 rfl (isP Cu0) Cu0.one rfl rfl (.tmp 16) (.tmp 93) rfl rfl rfl rfl ?_)
            intro w8 k8 hb8 hz8
            have B5 := Lib.hid (B7.out.trans (hb8.mono B7.out.size)); have T5 := Lib.hid (T7.out.below hb8)
            clear hb8 hz8 k8 T7 B7 hwo
            obtain ⟨V5, hV5⟩ : ∃ V, V = v3 := ⟨_, rfl⟩
            subst hV5
            obtain ⟨LA5, hLA5⟩ : ∃ V, V = la + 1 := ⟨_, rfl⟩
            rw [← hLA5] at T5 G5 ⊢
            have HLA := Lib.hid (show 0 ≤ LA5 ∧ LA5 ≤ ((j + 1 : Nat) : Int) by rw [hLA5]; omega)
            clear hLA5 hla
            go_wp2_with fail
            refine (Len26_any _ _ _ _ _ _ _ T5.out).mono ?_
            rintro e wx ⟨rfl, rfl⟩
            have hlen : ¬ (n : Int) < (L5.length : Int) := by have := G5.out.len; omega
            go_wp2_with fail
            go_roundw
            case rel => exact ⟨j + 1, by go_num, HLT.out, LA5, L5, V5, rfl, HLA.out, T5.out, G5.out, B5.out⟩
            case measure => have hm := HLT.out; simp [intOf] at hm ⊢; try omega
        · cases hp : posU Lc s.owner s.id with
          | none =>
            have Q := Lib.hid (Close26_none g n li la v Lc s.owner s.id w2 T2.out hp)
            clear hp
            go_wp2_with fail
            refine Q.out.mono ?_
            rintro e w3 ⟨rfl, V5, ht, hk9⟩
            have B5 := Lib.hid (B2.out.trans (T2.out.keep hk9 HGE.out)); have T5 := Lib.hid ht
            obtain ⟨L5, hL5⟩ : ∃ L5, L5 = Lc := ⟨_, rfl⟩
            obtain ⟨LA5, hLA5⟩ : ∃ V, V = la := ⟨_, rfl⟩
            rw [← hL5] at T5 G0
            rw [← hLA5] at T5 G0 ⊢
            have G5 := G0
            have HLA := Lib.hid (show 0 ≤ LA5 ∧ LA5 ≤ ((j + 1 : Nat) : Int) by rw [hLA5]; omega)
            clear ht hk9 hL5 hLA5 hla Q T2 B2 K2 k0 k17 k18
            go_wp2_with fail
            refine (Len26_any _ _ _ _ _ _ _ T5.out).mono ?_
            rintro e wx ⟨rfl, rfl⟩
            have hlen : ¬ (n : Int) < (L5.length : Int) := by have := G5.out.len; omega
            go_wp2_with fail
            go_roundw
            case rel => exact ⟨j + 1, by go_num, HLT.out, LA5, L5, V5, rfl, HLA.out, T5.out, G5.out, B5.out⟩
            case measure => have hm := HLT.out; simp [intOf] at hm ⊢; try omega
          | some k9 =>
            obtain ⟨c9, hc9, _⟩ := posU_some hp
            have Q := Lib.hid (Close26_some g n li la v Lc k9 c9 s.owner s.id w2 T2.out hp hc9)
            clear hp hc9
            go_wp2_with fail
            refine Q.out.mono ?_
            rintro e w3 ⟨rfl, V5, ht, hk9⟩
            have B5 := Lib.hid (B2.out.trans (T2.out.keep hk9 HGE.out)); have T5 := Lib.hid ht
            have G5 := Lib.hid (G0.out.filter (fun c => !(c.id == s.id)))
            obtain ⟨L5, hL5⟩ : ∃ L5, L5 = (Lc.filter fun c => !(c.id == s.id)) := ⟨_, rfl⟩
            obtain ⟨LA5, hLA5⟩ : ∃ V, V = la := ⟨_, rfl⟩
            rw [← hL5] at T5 G5
            rw [← hLA5] at T5 G5 ⊢
            have HLA := Lib.hid (show 0 ≤ LA5 ∧ LA5 ≤ ((j + 1 : Nat) : Int) by rw [hLA5]; omega)
            clear ht hk9 hL5 hLA5 hla Q T2 B2 K2 G0 k0 k17 k18
            go_wp2_with fail
            refine (Len26_any _ _ _ _ _ _ _ T5.out).mono ?_
            rintro e wx ⟨rfl, rfl⟩
            have hlen : ¬ (n : Int) < (L5.length : Int) := by have := G5.out.len; omega
            go_wp2_with fail
            go_roundw
            case rel => exact ⟨j + 1, by go_num, HLT.out, LA5, L5, V5, rfl, HLA.out, T5.out, G5.out, B5.out⟩
            case measure => have hm := HLT.out; simp [intOf] at hm ⊢; try omega
        · have Q := Lib.hid (Leave26_any g n li la v Lc s.owner w2 T2.out)
          go_wp2_with fail
          refine Q.out.mono ?_
          rintro e w3 ⟨u, V5, rfl, ht, hs, hk9⟩
          have B5 := Lib.hid (B2.out.trans (T2.out.keep hk9 HGE.out)); have T5 := Lib.hid ht
          have G5 := Lib.hid (G0.out.filter (fun c => !(c.owner == s.owner)))
          obtain ⟨L5, hL5⟩ : ∃ L5, L5 = (Lc.filter fun c => !(c.owner == s.owner)) := ⟨_, rfl⟩
          obtain ⟨LA5, hLA5⟩ : ∃ V, V = la := ⟨_, rfl⟩
          rw [← hL5] at T5 G5
          rw [← hLA5] at T5 G5 ⊢
          have HLA := Lib.hid (show 0 ≤ LA5 ∧ LA5 ≤ ((j + 1 : Nat) : Int) by rw [hLA5]; omega)
          obtain ⟨Au, du, rfl, _⟩ := hs
          clear ht hk9 hL5 hLA5 hla Q T2 B2 K2 G0 k0 k17 k18
          go_wp2_with fail
          refine (Len26_any _ _ _ _ _ _ _ T5.out).mono ?_
          rintro e wx ⟨rfl, rfl⟩
          have hlen : ¬ (n : Int) < (L5.length : Int) := by have := G5.out.len; omega
          go_wp2_with fail
          go_roundw
          case rel => exact ⟨j + 1, by go_num, HLT.out, LA5, L5, V5, rfl, HLA.out, T5.out, G5.out, B5.out⟩
          case measure => have hm := HLT.out; simp [intOf] at hm ⊢; try omega
        · have Q := Lib.hid (Tick26_any g n li la v Lc w2 T2.out (fun c hc => by have := G0.out.age c hc; omega))
          go_wp2_with fail
          refine Q.out.mono ?_
          rintro e w3 ⟨u, V5, rfl, ht, hs, hk9⟩
          have B5 := Lib.hid (B2.out.trans (T2.out.keep hk9 HGE.out)); have T5 := Lib.hid ht
          have G5 := Lib.hid G0.out.tick.1
          obtain ⟨L5, hL5⟩ : ∃ L5, L5 = ((Lc.map older).filter fun c => !(c.age == li)) := ⟨_, rfl⟩
          obtain ⟨LA5, hLA5⟩ : ∃ V, V = la := ⟨_, rfl⟩
          rw [← hL5] at T5 G5
          rw [← hLA5] at T5 G5 ⊢
          have HLA := Lib.hid (show 0 ≤ LA5 ∧ LA5 ≤ ((j + 1 : Nat) : Int) by rw [hLA5]; omega)
          obtain ⟨Au, du, rfl, _⟩ := hs
          clear ht hk9 hL5 hLA5 hla Q T2 B2 K2 G0 k0 k17 k18
          go_wp2_with fail
          refine (Len26_any _ _ _ _ _ _ _ T5.out).mono ?_
          rintro e wx ⟨rfl, rfl⟩
          have hlen : ¬ (n : Int) < (L5.length : Int) := by have := G5.out.len; omega
          go_wp2_with fail
          go_roundw
          case rel => exact ⟨j + 1, by go_num, HLT.out, LA5, L5, V5, rfl, HLA.out, T5.out, G5.out, B5.out⟩
          case measure => have hm := HLT.out; simp [intOf] at hm ⊢; try omega
      · clear ht hgood hbel S2
        go_wp2_with fail
        refine (awake26_any _).mono ?_
        rintro e w3 ⟨rfl, hb3⟩
        have B3 := Lib.hid (B0.out.trans (hb3.mono B0.out.size))
        clear hb3
        go_wp2_with fail
        go_ret
        exact ⟨rfl, B3.out⟩
end Go.Proofs.Ytgaoonnokhlgjaa

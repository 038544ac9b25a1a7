/-
  Words as they are told: Tokens; and when two lists of them are the same.
-/
import Derived.Test.YtpimnbalffaliaaDoorTok13
import Derived.Test.YtpimnbalffaliaaDoorTailG
import Derived.Deep.QuietTactic
import Derived.BigQuiet
namespace Go.Proofs.YtpimnbalffaliaaDoor
set_option linter.unusedVariables false
set_option linter.unusedSimpArgs false
open Go.RowKit

theorem toList_list (l : List UInt8) : (⟨l.toArray⟩ : ByteArray).toList = l := by rw [ByteArray.toList_eq]
theorem tok_ext {x y : Tok} (h1 : x.kind = y.kind) (h2 : x.text = y.text) (h3 : x.num = y.num) : x = y := by
  cases x; cases y; simp_all
theorem tok_fields : ∃ f1 f2 f3 : Field, (Tryd.prog.fieldsOf 44).toList = [f1, f2, f3] ∧ f1.name ≠ "_" ∧ f2.name ≠ "_" ∧ f3.name ≠ "_" ∧
    (∀ a b c : Value, ∀ w, (part 3 #[a, b, c] f1.offset).run Tryd.prog w = .ok a w) ∧ (∀ a b c : Value, ∀ w, (part 9 #[a, b, c] f2.offset).run Tryd.prog w = .ok b w) ∧ (∀ a b c : Value, ∀ w, (part 3 #[a, b, c] f3.offset).run Tryd.prog w = .ok c w) ∧
    f1.type = 3 ∧ f2.type = 9 ∧ f3.type = 3 := by
  refine ⟨_, _, _, by unfold Program.fieldsOf; rw [Tryd.underlying44], ?_, ?_, ?_, ?_, ?_, ?_, ?_, ?_, ?_⟩
  all_goals first | decide | rfl | (intro a b c w; kernel_rfl)
theorem tok_neq (x y : Tok) (w : World) : (binOp .neq 44 x.val y.val).run Tryd.prog w = .ok (.bool (!decide (x = y))) w := by
  unfold Tok.val
  rw [run_neq_struct]
  have ht : Tryd.prog.underlying 44 = some (.struct (Tryd.prog.fieldsOf 44)) := by kernel_rfl
  have hp : Tryd.prog.stoodInHeld 44 = false := by kernel_rfl
  rw [show (10000 : Nat) = 9998 + 1 + 1 from rfl, run_equalIn_struct _ _ _ _ _ ht hp]
  obtain ⟨f1, f2, f3, hf, n1, n2, n3, p1, p2, p3, t1, t2, t3⟩ := tok_fields
  rw [hf]
  simp only [Op.eqFields, n1, n2, n3, Sem.run_bind, Sem.run_ite, p1, p2, p3, Result.andThen_ok, t1, t2, t3, run_equalIn_int _ _ _ _ _ _ _ Tryd.underlying3, run_equalIn_string _ _ _ _ _ Tryd.underlying9, toList_list, Sem.run_pure, if_true, ne_eq, not_false_eq_true, ite_true]
  by_cases h1 : x.kind = y.kind
  · by_cases h2 : x.text = y.text
    · by_cases h3 : x.num = y.num
      · have e := tok_ext h1 h2 h3
        subst e
        simp
      · have e : ¬ x = y := fun e => h3 (by rw [e])
        simp [h1, h2, h3, e]
    · have e : ¬ x = y := fun e => h2 (by rw [e])
      simp [h1, h2, e]
  · have e : ¬ x = y := fun e => h1 (by rw [e])
    have h1' : ¬ (x.kind : Int) = (y.kind : Int) := by omega
    simp [h1', e]

set_option maxHeartbeats 3200000 in
theorem Tokens_any (v : Value) (D : List Dyn) (w : World) (B : Nat) (h : TlG w B 20 v (D.map Dyn.val)) (hm : D.length ≤ 1000) :
    Calls Tryd.prog 11 #[v] w fun e w' => ∃ A c, e = .returned (.slice A D.length c) ∧ OwnT w' w.heap.size (.slice A D.length c) (D.map Dyn.tok) ∧ Below w.heap.size w w' := by
  obtain ⟨A, c, rfl, _⟩ := h.form
  have HC := Lib.hid (fun (j : Nat) (d : Dyn) (hd : D[j]? = some d) => h.cell (k := j) (u := d.val) (by rw [List.getElem?_map, hd]; rfl))
  have hlen : (D.map Dyn.val).length = D.length := List.length_map _
  rw [hlen] at HC ⊢
  clear h hlen
  go_enter Tryd.func11, Tryd.ntmps11
  go_wp2_with fail
  go_loopw [3, 5, 8] (fun o _ k wr => Below w.heap.size w wr ∧ ∃ j : Nat, j ≤ D.length ∧ k = .int .i64 (j : Int) ∧ OwnT wr w.heap.size o ((D.take j).map Dyn.tok)) (fun _ _ k _ => D.length - (intOf k).toNat)
  case atStart => exact ⟨Below.refl _ _, 0, by omega, rfl, OwnT.nil _ _⟩
  case round =>
    obtain ⟨hbw, j, hj, rfl, hown⟩ := hrel
    have hlt2 : ((D.take j).map Dyn.tok).length = j := by rw [List.length_map, List.length_take]; omega
    obtain ⟨Ao, co, rfl, _, _⟩ := hown.form
    rw [hlt2]
    have HOWN := Lib.hid hown; have HBW := Lib.hid hbw
    by_cases hlt : j < D.length
    · have hjz : (j : Int) < (D.length : Int) := by omega
      obtain ⟨d, hd⟩ : ∃ d, D[j]? = some d := ⟨_, List.getElem?_eq_getElem hlt⟩
      obtain ⟨g, off, c', e1, _, hg, _, _, hcell, _⟩ := HC.out j d hd
      cases e1
      have hc := hbw.cell (p := ⟨g, off + j, none⟩) hg
      rw [hcell] at hc
      have q := token_any d wr
      unfold Tok.val at q
      have HT := Lib.hid (show (D.take (j + 1)).map Dyn.tok = (D.take j).map Dyn.tok ++ [d.tok] by
        rw [List.take_add_one, hd]; simp)
      obtain ⟨V, hV⟩ : ∃ V, V = d.val := ⟨_, rfl⟩
      rw [← hV] at q hc
      obtain ⟨L, hL⟩ : ∃ L, L = (D.take j).map Dyn.tok := ⟨_, rfl⟩
      rw [← hL] at HOWN HT hlt2
      have HLT := Lib.hid hlt2
      have Q := Lib.hid q
      clear q hcell hV hL hown hbw hd hlt2
      generalize d.tok = T at Q HT
      obtain ⟨tk, tt, tn⟩ := T
      dsimp only at Q
      go_wp2_with fail
      refine Q.out.mono ?_
      rintro e w1 ⟨rfl, hb1⟩
      have HOWN1 := Lib.hid (show w1.ownsRow w.heap.size 44 3 (.slice Ao j co) j (flatT L) by
        have := HOWN.out.below hb1
        unfold OwnT at this
        rw [HLT.out] at this
        exact this)
      have HBW1 := Lib.hid (HBW.out.trans (hb1.mono HBW.out.size))
      have HSZ := Lib.hid (show (j + 1) * 32 ≤ 140737488355328 by omega)
      clear hb1 hc
      go_wp2_with (at_builtin; refine wpList_app_one isTok rfl (.tmp 12) (.tmp 15) rfl w _ j (flatT L) rfl w1 [.int .i64 (tk : Int), .string ⟨tt.toArray⟩, .int .i64 tn] rfl HOWN1.out rfl rfl (threeT_one ⟨tk, tt, tn⟩) HSZ.out HBW1.out ?_)
      intro v' w2 ho2 hg2 hb2
      have own2 : OwnT w2 w.heap.size v' (L ++ [⟨tk, tt, tn⟩]) := OwnT.push (t := ⟨tk, tt, tn⟩) (by rw [HLT.out]; exact ho2)
      obtain ⟨A2, c2, hv2, _, _⟩ := own2.form
      rw [hv2] at own2
      rw [hv2]
      have HOWN2 := Lib.hid own2; have HB2 := Lib.hid hb2
      clear own2 ho2 hg2 hb2 hv2
      go_wp2_with fail
      go_roundw
      case rel => exact ⟨HB2.out, j + 1, by omega, rfl, by rw [HT.out]; exact HOWN2.out⟩
      case measure => simp [intOf]; omega
    · obtain rfl : j = D.length := by omega
      rw [List.take_length] at HOWN
      have hjz : ¬ (D.length : Int) < (D.length : Int) := by omega
      clear hown hbw hlt2
      go_wp2_with fail
      go_ret
      exact ⟨Ao, co, rfl, by have := HOWN.out; rwa [List.length_map] at this, HBW.out⟩
set_option maxHeartbeats 3200000 in
theorem Same13_any (A A' : Option Addr) (c c' : Nat) (X Y : List Tok) (w : World) (B B' : Nat) (ha : OwnT w B (.slice A X.length c) X) (hb : OwnT w B' (.slice A' Y.length c') Y) (hm : X.length ≤ 1000) :
    Calls Tryd.prog 10 #[.slice A X.length c, .slice A' Y.length c'] w fun e w' => e = .returned (.bool (decide (X = Y))) ∧ Below w.heap.size w w' := by
  by_cases hl : X.length = Y.length
  · have hz : ((X.length : Int) != (Y.length : Int)) = false := by simp [hl]
    have HA := Lib.hid ha; have HB := Lib.hid hb
    obtain ⟨R, hR⟩ : ∃ R, R = decide (X = Y) := ⟨_, rfl⟩
    rw [← hR]
    have HR := Lib.hid hR; have HL := Lib.hid hl
    clear ha hb hR hl
    go_enter Tryd.func10, Tryd.ntmps10
    go_wp2_with fail
    go_loopw [5] (fun i wr => Below w.heap.size w wr ∧ ∃ j : Nat, j ≤ X.length ∧ i = .int .i64 (j : Int) ∧ Hid (X.take j = Y.take j)) (fun i _ => X.length - (intOf i).toNat)
    case atStart => exact ⟨Below.refl _ _, 0, by omega, rfl, Lib.hid rfl⟩
    case round =>
      obtain ⟨hbw, j, hj, rfl, HJ⟩ := hrel
      have HBW := Lib.hid hbw
      by_cases hlt : j < X.length
      · have hjz : (j : Int) < (X.length : Int) := by omega
        have hly := HL.out
        have hjy : (j : Int) < (Y.length : Int) := by omega
        obtain ⟨x, hx⟩ : ∃ x, X[j]? = some x := ⟨_, List.getElem?_eq_getElem hlt⟩
        obtain ⟨y, hy⟩ : ∃ y, Y[j]? = some y := ⟨_, List.getElem?_eq_getElem (by omega)⟩
        obtain ⟨g, rfl, hg, x1, x2, x3⟩ := HA.out.at hx
        obtain ⟨g', rfl, hg', y1, y2, y3⟩ := HB.out.at hy
        have cx1 := (hbw.cell (p := ⟨g, j * 3, none⟩) hg).trans x1
        have cx2 := (hbw.cell (p := ⟨g, j * 3 + 1, none⟩) hg).trans x2
        have cx3 := (hbw.cell (p := ⟨g, j * 3 + 2, none⟩) hg).trans x3
        have cy1 := (hbw.cell (p := ⟨g', j * 3, none⟩) hg').trans y1
        have cy2 := (hbw.cell (p := ⟨g', j * 3 + 1, none⟩) hg').trans y2
        have cy3 := (hbw.cell (p := ⟨g', j * 3 + 2, none⟩) hg').trans y3
        have hne := tok_neq x y
        unfold Tok.val at hne
        have HX := Lib.hid hx; have HY := Lib.hid hy; have HLY := Lib.hid hly
        clear x1 x2 x3 y1 y2 y3 hx hy hbw hly
        by_cases hxy : x = y
        · have e : (!decide (x = y)) = false := by simp [hxy]
          rw [e] at hne
          have HE := Lib.hid hxy
          clear e hxy
          go_wp2_with fail
          go_quiet (fail)
          go_wp2_with fail
          go_roundw
          case rel => exact ⟨below_drewN HBW.out _, j + 1, by omega, rfl, Lib.hid (by rw [List.take_add_one, List.take_add_one, HJ.out, HX.out, HY.out, HE.out])⟩
          case measure => simp [intOf]; omega
        · have e : (!decide (x = y)) = true := by simp [hxy]
          rw [e] at hne
          have HE := Lib.hid (show R = false by
            rw [HR.out]
            refine decide_eq_false fun k => hxy ?_
            have := HX.out
            rw [k, HY.out] at this
            exact (Option.some.inj this).symm)
          clear e hxy
          go_wp2_with fail
          go_quiet (fail)
          go_wp2_with fail
          go_ret
          exact ⟨by rw [HE.out]; rfl, below_drewN HBW.out _⟩
      · have hjz : ¬ (j : Int) < (X.length : Int) := by omega
        have HE := Lib.hid (show R = true by
          rw [HR.out]
          have e1 : X.take j = X := List.take_of_length_le (by omega)
          have e2 : Y.take j = Y := List.take_of_length_le (by have := HL.out; omega)
          have := HJ.out
          rw [e1, e2] at this
          exact decide_eq_true this)
        clear hbw
        go_wp2_with fail
        go_ret
        exact ⟨by rw [HE.out]; rfl, HBW.out⟩
  · have hz : ((X.length : Int) != (Y.length : Int)) = true := by simp; omega
    have e : decide (X = Y) = false := decide_eq_false fun k => hl (by rw [k])
    rw [e]
    clear ha hb hl e
    go_enter Tryd.func10, Tryd.ntmps10
    go_wp2_with fail
    go_ret
    exact ⟨rfl, Below.refl _ _⟩
end Go.Proofs.YtpimnbalffaliaaDoor

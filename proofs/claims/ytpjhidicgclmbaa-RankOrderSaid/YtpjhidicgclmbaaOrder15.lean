/-
  In which order some candidates are taken, by the program.
-/
import Derived.Test.YtpjhidicgclmbaaBest15
import Derived.Test.YtpjhidicgclmbaaDel15
import Derived.Maps.AppendAt
namespace Go.Proofs.Ytpjhidicgclmbaa
set_option linter.unusedVariables false
set_option linter.unusedSimpArgs false
open Go.RowKit

def lenV : Value → Nat
  | .slice _ n _ => n
  | _ => 0
theorem OwnI.grown {w w' : World} {B g : Nat} {v : Value} {z : List Int} (h : OwnI w B v z) (hg : w.grownBy w' (some g)) (hlt : g < B) : OwnI w' B v z :=
  World.ownsRow.kept h hg (by
    cases e : v.ownBlock with
    | none => exact .inl rfl
    | some k =>
      right
      intro q
      injection q with q
      have := (World.ownsRow.lt h k e).1
      omega)
theorem infoI : (Try.prog.info? 3).map (fun i => (i.zero, i.size, i.bytes)) = some (some (.int .i64 0), 1, 8) := by kernel_rfl
section
variable {ops : Array Oper} {rest : List Oper} {o : Oper} {a : Act} {Q : Exit → Act → World → Prop}
theorem wpList_appI (w wr : World) (n : Int) (hw : w = wr.alloc (.cells #[.int .i64 n] 3)) (hgd : o.guard = none) (s x : Operand) (ho : o.op = .call { callee := .builtin .append, args := #[s, x], argTypes := #[38, 38] })
    (B : Nat) (v : Value) (z : List Int) (hs : a.eval s = v) (h : OwnI wr B v z) (hB : B ≤ wr.heap.size) (hx : a.eval x = .slice (some ⟨wr.heap.size, 0, none⟩) 1 1) (hl : z.length ≤ 1000000)
    (hK : ∀ v' w', OwnI w' B v' (z ++ [n]) → wr.grownBy w' v.ownBlock → Below B wr w' → (v'.ownBlock = v.ownBlock ∨ ∃ k, wr.heap.size ≤ k ∧ v'.ownBlock = some k) → wpList Try.prog ops Q rest (a.put o.dst v') w') : wpList Try.prog ops Q (o :: rest) a w := by
  subst hw
  obtain ⟨i, hi, hz0, hz1, hz2⟩ := info_parts infoI
  have hal : Below wr.heap.size wr (wr.alloc (.cells #[.int .i64 n] 3)) := (Below.refl _ _).alloc (Nat.le_refl _) _
  refine wpList_append_own_at _ hgd s x _ ho B 3 i _ 1 8 Try.underlying38 hi hz0 hz1 hz2 rfl (by decide) v z.length (cellsI z) hs (h.below hal) ⟨wr.heap.size, 0, none⟩ 1 1 [.int .i64 n] hx rfl (fun j u hu => ?_) (by simp [Value.oneCell']) (by unfold maxLen; omega) (by omega) (Nat.le_trans hB hal.size) ?_
  · rw [Addr.add_lit, (Blk.new wr _ [.int .i64 n]).cell]
    simpa using hu
  · intro v' w' ho' hg _ hloc
    have hg0 := grown_of_alloc hg
    refine hK v' w' (OwnI.snoc ho') hg0 ((Below.refl B wr).grown hg0 hB (fun k hk => (World.ownsRow.lt h k hk).1)) ?_
    rcases hloc with e | e
    · exact .inl e
    · exact .inr ⟨_, hal.size, e⟩
end
def allO (L : List Cv) : List Int := ordL (keyL L) L.length (List.range L.length)
def OrdRel (w : World) (L : List Cv) (v u : Value) (wr : World) : Prop :=
  Below w.heap.size w wr ∧ ∃ (n : Nat) (lst : List Nat) (Z : List Rn) (z : List Int), v = .slice (some ⟨w.heap.size, 0, none⟩) n L.length ∧ lst.length = n ∧ lst.Pairwise (· < ·) ∧ (∀ i ∈ lst, i < L.length) ∧ RBlk wr w.heap.size (lst.map (keyL L) ++ Z) ∧ OwnI wr (w.heap.size + 1) u z ∧ z ++ ordL (keyL L) n lst = allO L ∧ z.length + n = L.length
theorem ord_step {K : Nat → Rn} {lst : List Nat} {k i j : Nat} (hpw : lst.Pairwise (· < ·)) (hj : lst[j]? = some i) (h : amongZ K lst = (i : Int)) : ordL K (k + 1) lst = (i : Int) :: ordL K k (lst.eraseIdx j) := by
  rw [erase_is lst j i hpw hj]
  show amongZ K lst :: ordL K k (lst.filter fun (i : Nat) => decide ((i : Int) ≠ amongZ K lst)) = _
  rw [h]

set_option maxRecDepth 100000 in
set_option maxHeartbeats 12800000 in
theorem Order_any (A : Option Addr) (c : Nat) (L : List Cv) (w : World) (h : CandsIn w w.heap.size A L) (hk : ∀ t ∈ L, CntOk t) (hl : L.length ≤ 100000) :
    Calls Try.prog 14 #[.slice A L.length c] w (RetI w (allO L)) := by
  have HW := Lib.hid (runs_wf h L.length (Nat.le_refl _)); have HL := Lib.hid hl
  have QP := Lib.hid (runners_any A c L w h hk (by omega))
  clear h hk hl
  go_enter Try.func14, Try.ntmps14
  go_wp2_with fail
  refine QP.out.mono ?_
  rintro e w1 ⟨rfl, hR, hb1⟩
  have HR1 := Lib.hid hR; have HB1 := Lib.hid hb1
  clear hR hb1 QP
  go_wp2_with fail
  go_loopw [3, 4] (fun v u wr => OrdRel w L v u wr) (fun v _ _ => lenV v)
  case atStart => exact ⟨HB1.out, L.length, List.range L.length, [], [], rfl, by simp, List.pairwise_lt_range, fun i hi => range_lt hi, by rw [List.append_nil]; exact HR1.out, OwnI.nil _ _, rfl, by simp⟩
  case round =>
    obtain ⟨hbr, n, lst, Z, z, rfl, hn, hpw, hlt, hR, hown, hz, hzl⟩ := hrel
    clear HB1 HR1
    obtain ⟨w2, h2⟩ : ∃ w, w = wr := ⟨_, rfl⟩
    subst h2
    have HB := Lib.hid hbr; have HO := Lib.hid hown; have HR := Lib.hid hR; have HLT := Lib.hid hlt; have HZ := Lib.hid hz; have HPW := Lib.hid hpw
    cases n with
    | zero =>
      have hzz : z = allO L := by
        have := HZ.out
        simpa [ordL] using this
      subst hzz
      obtain ⟨A1, c1, rfl, f1, f2⟩ := HO.out.form
      have HF := Lib.hid (And.intro f1 f2)
      clear f1 f2 hbr hown hR hlt hz hpw
      go_wp2_with fail
      go_ret
      exact ⟨A1, c1, rfl, HF.out.1, HF.out.2, HO.out.lower (Nat.le_succ _), HB.out⟩
    | succ k =>
      have hXl : (lst.map (keyL L)).length = k + 1 := by simpa using hn
      have QT := Lib.hid (taken_any (some ⟨w.heap.size, 0, none⟩) L.length (lst.map (keyL L)) w2 (HR.out.runs _ ⟨k + 1, by rw [List.take_append_of_le_length (by omega), List.take_of_length_le (by omega)]⟩) (fun x hx => by
        obtain ⟨i, hi, rfl⟩ := List.mem_map.1 hx
        exact HW.out _ (List.mem_map_of_mem (List.mem_range.2 (HLT.out i hi)))) (by have := HL.out; omega))
      rw [hXl] at QT
      have hp : (0 : Int) < (k : Int) + 1 := by omega
      have HN := Lib.hid hn; have HZL := Lib.hid hzl; have HXL := Lib.hid hXl
      clear hbr hown hR hlt hz hpw hn hzl hXl
      go_wp2_with fail
      refine QT.out.mono ?_
      rintro e w3 ⟨⟨best, rfl, hT⟩, hb3⟩
      have hR3 := HR.out.go hb3
      obtain ⟨j, i, rfl, hj, ha, hjk⟩ : ∃ j i : Nat, best = (j : Int) ∧ lst[j]? = some i ∧ amongZ (keyL L) lst = (i : Int) ∧ j ≤ k := by
        rcases taken_is (keyL_z L) HPW.out hT with ⟨h1, _, _⟩ | ⟨j, i, h1, h2, h3, _⟩
        · have := HN.out
          rw [h1] at this
          cases this
        · have := (List.getElem?_eq_some_iff.1 h2).1
          have := HN.out
          exact ⟨j, i, h1, h2, h3, by omega⟩
      have cz : w3.cell? ⟨w.heap.size, j * 10 + 1 + 8, none⟩ = some (.int .i64 (i : Int)) := by
        have hx : (lst.map (keyL L) ++ Z)[j]? = some (keyL L i) := by
          rw [List.getElem?_append_left (by have := HXL.out; omega), List.getElem?_map, hj]
          rfl
        have := (hR3.at hx).2 8 (i : Int) rfl
        exact this
      have HB3 := Lib.hid (HB.out.trans (hb3.mono HB.out.size))
      have HR3 := Lib.hid hR3
      have HO3 := Lib.hid (HO.out.below hb3)
      have HGS := Lib.hid (show w.heap.size + 1 ≤ w3.heap.size from hR3.lt)
      have HJ := Lib.hid hj; have HA := Lib.hid ha
      have hjk1 : (j : Int) < (k : Int) + 1 := by omega
      have hjL : j + 1 ≤ 1000000 := by have := HL.out; have := HZL.out; omega
      have HD := Lib.hid (fun (W : World) (hW : RBlk W w.heap.size (lst.map (keyL L) ++ Z)) => del_any w.heap.size j k L.length (lst.map (keyL L)) Z HXL.out hjk (by have := HZL.out; omega) (by have := HL.out; omega) W hW)
      clear hT hb3 hR3 hj ha QT HB HO HR
      go_wp2_with (at_builtin; refine wpList_appI _ w3 (i : Int) rfl rfl (.tmp 13) (.tmp 20) rfl (w.heap.size + 1) _ z rfl HO3.out HGS.out rfl (by have := HL.out; have := HZL.out; omega) ?_)
      intro u4 w4 ho4 hg4 hb4 _
      have HR4 := Lib.hid (HR3.out.below hb4 (Nat.lt_succ_self _))
      have HB4 := Lib.hid (HB3.out.trans (hb4.mono (Nat.le_succ _)))
      have HO4 := Lib.hid ho4
      clear ho4 hg4 hb4 HO3 HR3 HB3 cz
      go_wp2_with fail
      refine (HD.out _ HR4.out).mono ?_
      rintro e w5 ⟨rfl, hR5, hg5⟩
      have HR5 := Lib.hid (show RBlk w5 w.heap.size ((lst.eraseIdx j).map (keyL L) ++ ([Rn0] ++ Z)) by rw [← map_erase]; exact hR5)
      have HB5 := Lib.hid (HB4.out.drew.grown hg5 HB4.out.drew.size (fun k hk => by cases hk; exact Nat.le_refl _))
      have HO5 := Lib.hid ((show OwnI w4.drew _ _ _ from HO4.out).grown hg5 (Nat.lt_succ_self _))
      clear hR5 hg5 HD HR4 HB4 HO4
      go_wp2_with fail
      go_roundw
      case rel =>
        refine ⟨HB5.out, k, lst.eraseIdx j, [Rn0] ++ Z, z ++ [(i : Int)], rfl, ?_, HPW.out.sublist (List.eraseIdx_sublist ..), fun i hi => HLT.out i ((List.eraseIdx_sublist ..).mem hi), HR5.out, HO5.out, ?_, ?_⟩
        · have := (List.getElem?_eq_some_iff.1 HJ.out).1
          rw [List.length_eraseIdx_of_lt this]
          have := HN.out
          omega
        · rw [← HZ.out, ord_step HPW.out HJ.out HA.out]
          simp
        · have := HZL.out
          simp; omega
      case measure => simp [lenV]
end Go.Proofs.Ytpjhidicgclmbaa

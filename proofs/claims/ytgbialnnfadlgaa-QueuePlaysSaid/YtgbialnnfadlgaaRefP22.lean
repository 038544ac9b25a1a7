/-
  The document's queue: pass, Put, Line (written by gen22p.py).
-/
import Derived.Test.YtgbialnnfadlgaaRefQ22
import Derived.Deep.QuietTactic
import Derived.BigQuiet
import Derived.Deep.DeepCutAuto
namespace Go.Proofs.Ytgbialnnfadlgaa
set_option linter.unusedVariables false
set_option linter.unusedSimpArgs false
open Go.RowKit

theorem byN22_zero {b : UInt8} (l : List UInt8) (h : b ≠ 10) : byN22 (b :: l) 0 ≠ 10 := fun e => h (UInt8.toNat_inj.1 (by simpa [byN22] using e))
theorem byN22_succ (b : UInt8) (l : List UInt8) (j : Nat) : byN22 (b :: l) (j + 1) = byN22 l j := by simp [byN22]
theorem eolN_at : ∀ (l : List UInt8) (k : Nat), eolN l = (k : Int) → k < l.length ∧ byN22 l k = 10 ∧ ∀ j, j < k → byN22 l j ≠ 10
  | [], k, h => by unfold eolN at h; simp [Lib.indexByte] at h
  | b :: l, k, h => by
    have ge := eolN_ge l
    have ih := eolN_at l (eolN l).toNat
    unfold eolN at h ge ih
    unfold Lib.indexByte at h
    by_cases hb : b = 10
    · subst hb
      simp at h
      obtain rfl : k = 0 := by omega
      exact ⟨by simp, by simp [byN22], fun j hj => by omega⟩
    · by_cases hn : Lib.indexByte l 10 = -1
      · simp [hb, hn] at h
      · simp [hb, hn] at h
        obtain ⟨q, rfl⟩ : ∃ q, k = q + 1 := ⟨k - 1, by omega⟩
        obtain ⟨h1, h2, h3⟩ := ih (by omega)
        have e : (Lib.indexByte l 10).toNat = q := by omega
        rw [e] at h1 h2 h3
        refine ⟨by simp; omega, by rw [byN22_succ]; exact h2, fun j hj => ?_⟩
        cases j with
        | zero => exact byN22_zero l hb
        | succ j => rw [byN22_succ]; exact h3 j (by omega)
theorem eolN_no : ∀ (l : List UInt8), eolN l = -1 → ∀ j, j < l.length → byN22 l j ≠ 10
  | [], _, j, hj => by simp at hj
  | b :: l, h, j, hj => by
    have ge := eolN_ge l
    have ih := eolN_no l
    unfold eolN at h ge ih
    unfold Lib.indexByte at h
    by_cases hb : b = 10
    · subst hb
      simp at h
    · by_cases hn : Lib.indexByte l 10 = -1
      · cases j with
        | zero => exact byN22_zero l hb
        | succ j => rw [byN22_succ]; exact ih hn j (by simpa using hj)
      · simp [hb, hn] at h
        omega
theorem ten_is : ((10 : Int) == 10) = true := by decide
theorem RQ.flag {w : World} {h : Nat} {M : Int} {v : Value} {R : List UInt8} {s : Bool} (q : RQ w h M v R s) (b : Bool) : RQ (w.setCell ⟨h, 2, none⟩ (.bool b)) h M v R b :=
  ⟨q.1.set 2 (.bool b), q.2.1.beside (grown_setCell (grown_refl _ _) _ _) (Nat.lt_succ_self _), q.2.2⟩
theorem RQ.clear {w : World} {h : Nat} {M : Int} {v : Value} {R : List UInt8} {s : Bool} (q : RQ w h M v R s) : RQ (w.setCell ⟨h, 0, none⟩ (.slice none 0 0)) h M (.slice none 0 0) [] s :=
  ⟨q.1.set 0 (.slice none 0 0), Tl.nil _ _, by have := q.2.2; simp; omega, q.2.2.2⟩
theorem ten_ne {n : Nat} (h : n ≠ 10) : ((n : Int) == 10) = false := by
  have : ¬ (n : Int) = 10 := by omega
  simpa using this

set_option maxHeartbeats 1600000 in
theorem RefPass22_some (h : Nat) (M : Int) (v : Value) (R : List UInt8) (s : Bool) (k : Nat) (he : eolN R = (k : Int)) (w : World) (q : RQ w h M v R s) :
    Calls Try.prog 24 #[.pointer (some ⟨h, 0, none⟩)] w fun e w' => e = .returned (.tuple #[]) ∧ ∃ v', RQ w' h M v' (R.drop (k + 1)) false ∧ Keep w w' h v v' := by
  have hsm := q.small
  have hE := eolN_at R k he
  obtain ⟨Av, cv, rfl, fv, gv, _⟩ := q.2.1.form
  obtain ⟨c0, c1, c2⟩ := cells3 q.1
  obtain ⟨f0, f1, f2⟩ := free3 q.1
  have HQ := Lib.hid q; have HF := Lib.hid fv; have HE := Lib.hid hE
  clear q fv gv hE he
  go_enter Try.func24, Try.ntmps24
  go_wp2_with fail
  go_loopw [2] (fun vi wr => wr = w ∧ ∃ i : Nat, i ≤ k ∧ vi = .int .i64 (i : Int)) (fun i _ => R.length - (intOf i).toNat)
  case atStart => exact ⟨rfl, 0, Nat.zero_le _, rfl⟩
  case round =>
    obtain ⟨rfl, i, hi, rfl⟩ := hrel
    by_cases hlt : i < k
    · have hiR : i < R.length := by have := HE.out.1; omega
      have hi1 : (i : Int) < (R.length : Int) := by omega
      obtain ⟨_, _, b, off, rfl, hbl, hcell⟩ := HQ.out.cell hiR
      have hby := HE.out.2.2 i hlt
      obtain ⟨N, hN⟩ : ∃ N, N = byN22 R i := ⟨_, rfl⟩
      rw [← hN] at hcell hby
      have ht := ten_ne hby
      have hti : ¬ (N : Int) = 10 := by omega
      clear hbl hN
      go_wp2_with fail
      go_roundw
      case rel => exact ⟨(by trivial), i + 1, hlt, by simp⟩
      case measure => simp only [intOf]; omega
    · obtain rfl : i = k := by omega
      have hiR : i < R.length := HE.out.1
      have hi1 : (i : Int) < (R.length : Int) := by omega
      obtain ⟨_, _, b, off, rfl, hbl, hcell⟩ := HQ.out.cell hiR
      have hby := HE.out.2.1
      obtain ⟨N, hN⟩ : ∃ N, N = byN22 R i := ⟨_, rfl⟩
      rw [← hN] at hcell hby
      subst hby
      clear hbl hN
      have D := RefDrop22 h M _ R s (i + 1) wr HQ.out (by omega)
      have HD := Lib.hid D
      clear D
      go_wp2_with fail
      refine HD.out.mono ?_
      rintro e w2 ⟨rfl, v2, hq2, hk2⟩
      obtain ⟨d0, d1, d2⟩ := cells3 hq2.1
      obtain ⟨e0, e1, e2⟩ := free3 hq2.1
      have HQ2 := Lib.hid hq2; have HK2 := Lib.hid hk2
      clear hq2 hk2 c0 c1 c2 f0 f1 f2 hcell
      go_wp2_with fail
      refine bodyPost_ret (results_none rfl _ _ _) rfl ?_
      exact ⟨rfl, v2, HQ2.out.flag false, HK2.out.set 2 _ _ (.inl rfl)⟩

set_option maxHeartbeats 1600000 in
theorem RefPass22_none (h : Nat) (M : Int) (v : Value) (R : List UInt8) (s : Bool) (he : eolN R = -1) (w : World) (q : RQ w h M v R s) :
    Calls Try.prog 24 #[.pointer (some ⟨h, 0, none⟩)] w fun e w' => e = .returned (.tuple #[]) ∧ ∃ v', RQ w' h M v' [] s ∧ Keep w w' h v v' := by
  have hsm := q.small
  have hE := eolN_no R he
  obtain ⟨Av, cv, rfl, fv, gv, _⟩ := q.2.1.form
  obtain ⟨c0, c1, c2⟩ := cells3 q.1
  obtain ⟨f0, f1, f2⟩ := free3 q.1
  have HQ := Lib.hid q; have HF := Lib.hid fv; have HE := Lib.hid hE
  clear q fv gv hE he
  go_enter Try.func24, Try.ntmps24
  go_wp2_with fail
  go_loopw [2] (fun vi wr => wr = w ∧ ∃ i : Nat, i ≤ R.length ∧ vi = .int .i64 (i : Int)) (fun i _ => R.length - (intOf i).toNat)
  case atStart => exact ⟨rfl, 0, Nat.zero_le _, rfl⟩
  case round =>
    obtain ⟨rfl, i, hi, rfl⟩ := hrel
    by_cases hiR : i < R.length
    · have hi1 : (i : Int) < (R.length : Int) := by omega
      obtain ⟨_, _, b, off, rfl, hbl, hcell⟩ := HQ.out.cell hiR
      have hby := HE.out i hiR
      obtain ⟨N, hN⟩ : ∃ N, N = byN22 R i := ⟨_, rfl⟩
      rw [← hN] at hcell hby
      have ht := ten_ne hby
      have hti : ¬ (N : Int) = 10 := by omega
      clear hbl hN
      go_wp2_with fail
      go_roundw
      case rel => exact ⟨(by trivial), i + 1, hiR, by simp⟩
      case measure => simp only [intOf]; omega
    · have hi1 : ¬ (i : Int) < (R.length : Int) := by omega
      go_wp2_with fail
      go_end0
      exact ⟨rfl, _, HQ.out.clear, (Keep.refl _ _ _).set 0 _ _ (.inr rfl)⟩

set_option maxHeartbeats 3200000 in
theorem RefPut_big_no (h : Nat) (M : Int) (v : Value) (R : List UInt8) (A : Option Addr) (c k : Nat) (m : List UInt8) (w : World) (q : RQ w h M v R false) (hm : Bytes w A m) (hc : m.length ≤ c) (hcm : c ≤ maxLen) (hbig : (m.length : Int) < M - (R.length : Int)) (hkm : k = m.length)  :
    Calls Try.prog 12 #[.pointer (some ⟨h, 0, none⟩), .slice A m.length c] w fun e w' => e = .returned (.int .i64 (k : Int)) ∧ ∃ v', RQ w' h M v' (R ++ m.take k) false ∧ Keep w w' h v v' := by
  have hsm := q.small
  have hM := q.2.2
  have hyt := bytes_take k hm
  have hRb : ∀ A' c', v = .slice A' R.length c' → Bytes w A' R := fun A' c' e => by
    obtain ⟨A2, c2, e2, _, _, hy⟩ := q.2.1.form
    rw [e2] at e; injection e with e1; subst e1; exact hy
  obtain ⟨Av, cv, rfl, fv, gv, _⟩ := q.2.1.form
  have hyR := hRb _ _ rfl
  obtain ⟨c0, c1, c2⟩ := cells3 q.1
  obtain ⟨f0, f1, f2⟩ := free3 q.1
  have hkc : (k : Int) ≤ (c : Int) := by omega
  have hkz : 0 ≤ (k : Int) := by omega
  have hm1 : c ≤ 9223372036854775807 := by unfold maxLen at hcm; omega
  have hw : wrap64 (M - (R.length : Int)) = M - (R.length : Int) := by unfold wrap64; omega
  have hw' : IntKind.i64.wrap (M - (R.length : Int)) = M - (R.length : Int) := (IntWalk.i64_left _).trans hw
  obtain ⟨Y, hY⟩ : ∃ Y, Y = m.take k := ⟨_, rfl⟩
  have hYl : Y.length = k := by rw [hY, List.length_take]; omega
  rw [← hY] at hyt
  have hRk : (R.length : Int) + k ≤ M := by omega
  have HQ := Lib.hid q; have HYT := Lib.hid hyt; have HYL := Lib.hid hYl; have HYR := Lib.hid hyR; have HRK := Lib.hid hRk; have HM := Lib.hid hM; have HY := Lib.hid hY; have HSM := Lib.hid hsm
  have HKM := Lib.hid hkm; subst hkm
  skip
  clear q hyt hYl hyR hRk hM hY hm hsm fv gv hcm hRb
  go_enter Try.func12, Try.ntmps12
  go_wp2_with fail
  go_quiet (fail)
  have hb0 : Below w.heap.size w (w.drewN nq) := below_drewN (Below.refl _ _) _
  have HB0 := Lib.hid hb0
  clear hb0
  go_wp2_with (at_builtin; refine wpList_append_bytes isBytes rfl (.tmp 23) (.tmp 27) rfl w _ [] rfl (Own.nil _ _ _) Av R _ cv rfl rfl (HYR.out.below HB0.out) (by have := HSM.out; simp; omega) HB0.out ?_)
  intro v1 w1 ho1 _ hb1
  (try rw [List.nil_append] at ho1)
  obtain ⟨A1, n1, rfl, _, _⟩ := ho1.form
  have HO1 := Lib.hid ho1; have HB1 := Lib.hid hb1
  clear ho1 hb1
  go_wp2_with (at_builtin; refine wpList_append_bytes isBytes rfl (.tmp 29) (.tmp 32) rfl w _ R rfl HO1.out A Y _ c rfl HYL.out.symm (HYT.out.below HB1.out) (by have := HYL.out; have := HRK.out; have := HM.out; omega) HB1.out ?_)
  intro v2 w2 ho2 _ hb2
  obtain ⟨A2, n2, rfl, _, _⟩ := ho2.form
  obtain ⟨L2, hL2⟩ : ∃ L2, L2 = (R ++ Y).length := ⟨_, rfl⟩
  have hp := HQ.out.put hb2 ho2 (by have := HYL.out; have := HRK.out; have := HM.out; rw [List.length_append]; omega)
  rw [← hL2] at hp
  simp only [← hL2]
  obtain ⟨d0, d1, d2⟩ := cells3 (HQ.out.1.below hb2 HQ.out.lt)
  obtain ⟨e0, e1, e2⟩ := free3 (HQ.out.1.below hb2 HQ.out.lt)
  have g2 : (w2.setCell ⟨h, 0, none⟩ (.slice A2 L2 n2)).cell? ⟨h, 2, none⟩ = some (.bool false) := hp.1.1.cell 2
  have HP2 := Lib.hid hp
  clear hp ho2 hb2 hL2
  go_wp2_with fail
  go_ret
  exact ⟨rfl, _, HY.out ▸ HP2.out.1, HP2.out.2⟩

set_option maxHeartbeats 3200000 in
theorem RefPut_big_zero (h : Nat) (M : Int) (v : Value) (R : List UInt8) (A : Option Addr) (c k : Nat) (m : List UInt8) (w : World) (q : RQ w h M v R true) (hm : Bytes w A m) (hc : m.length ≤ c) (hcm : c ≤ maxLen) (hbig : (m.length : Int) < M - (R.length : Int)) (hkm : k = m.length) (hk0 : ¬ 0 < (k : Int)) :
    Calls Try.prog 12 #[.pointer (some ⟨h, 0, none⟩), .slice A m.length c] w fun e w' => e = .returned (.int .i64 (k : Int)) ∧ ∃ v', RQ w' h M v' (R ++ m.take k) true ∧ Keep w w' h v v' := by
  have hsm := q.small
  have hM := q.2.2
  have hyt := bytes_take k hm
  have hRb : ∀ A' c', v = .slice A' R.length c' → Bytes w A' R := fun A' c' e => by
    obtain ⟨A2, c2, e2, _, _, hy⟩ := q.2.1.form
    rw [e2] at e; injection e with e1; subst e1; exact hy
  obtain ⟨Av, cv, rfl, fv, gv, _⟩ := q.2.1.form
  have hyR := hRb _ _ rfl
  obtain ⟨c0, c1, c2⟩ := cells3 q.1
  obtain ⟨f0, f1, f2⟩ := free3 q.1
  have hkc : (k : Int) ≤ (c : Int) := by omega
  have hkz : 0 ≤ (k : Int) := by omega
  have hm1 : c ≤ 9223372036854775807 := by unfold maxLen at hcm; omega
  have hw : wrap64 (M - (R.length : Int)) = M - (R.length : Int) := by unfold wrap64; omega
  have hw' : IntKind.i64.wrap (M - (R.length : Int)) = M - (R.length : Int) := (IntWalk.i64_left _).trans hw
  obtain ⟨Y, hY⟩ : ∃ Y, Y = m.take k := ⟨_, rfl⟩
  have hYl : Y.length = k := by rw [hY, List.length_take]; omega
  rw [← hY] at hyt
  have hRk : (R.length : Int) + k ≤ M := by omega
  have HQ := Lib.hid q; have HYT := Lib.hid hyt; have HYL := Lib.hid hYl; have HYR := Lib.hid hyR; have HRK := Lib.hid hRk; have HM := Lib.hid hM; have HY := Lib.hid hY; have HSM := Lib.hid hsm
  have HKM := Lib.hid hkm; subst hkm
  skip
  clear q hyt hYl hyR hRk hM hY hm hsm fv gv hcm hRb
  go_enter Try.func12, Try.ntmps12
  go_wp2_with fail
  go_quiet (fail)
  have hb0 : Below w.heap.size w (w.drewN nq) := below_drewN (Below.refl _ _) _
  have HB0 := Lib.hid hb0
  clear hb0
  go_wp2_with (at_builtin; refine wpList_append_bytes isBytes rfl (.tmp 23) (.tmp 27) rfl w _ [] rfl (Own.nil _ _ _) Av R _ cv rfl rfl (HYR.out.below HB0.out) (by have := HSM.out; simp; omega) HB0.out ?_)
  intro v1 w1 ho1 _ hb1
  (try rw [List.nil_append] at ho1)
  obtain ⟨A1, n1, rfl, _, _⟩ := ho1.form
  have HO1 := Lib.hid ho1; have HB1 := Lib.hid hb1
  clear ho1 hb1
  go_wp2_with (at_builtin; refine wpList_append_bytes isBytes rfl (.tmp 29) (.tmp 32) rfl w _ R rfl HO1.out A Y _ c rfl HYL.out.symm (HYT.out.below HB1.out) (by have := HYL.out; have := HRK.out; have := HM.out; omega) HB1.out ?_)
  intro v2 w2 ho2 _ hb2
  obtain ⟨A2, n2, rfl, _, _⟩ := ho2.form
  obtain ⟨L2, hL2⟩ : ∃ L2, L2 = (R ++ Y).length := ⟨_, rfl⟩
  have hp := HQ.out.put hb2 ho2 (by have := HYL.out; have := HRK.out; have := HM.out; rw [List.length_append]; omega)
  rw [← hL2] at hp
  simp only [← hL2]
  obtain ⟨d0, d1, d2⟩ := cells3 (HQ.out.1.below hb2 HQ.out.lt)
  obtain ⟨e0, e1, e2⟩ := free3 (HQ.out.1.below hb2 HQ.out.lt)
  have g2 : (w2.setCell ⟨h, 0, none⟩ (.slice A2 L2 n2)).cell? ⟨h, 2, none⟩ = some (.bool true) := hp.1.1.cell 2
  have HP2 := Lib.hid hp
  clear hp ho2 hb2 hL2
  go_wp2_with fail
  go_ret
  exact ⟨rfl, _, HY.out ▸ HP2.out.1, HP2.out.2⟩

set_option maxHeartbeats 3200000 in
theorem RefPut_big_pass (h : Nat) (M : Int) (v : Value) (R : List UInt8) (A : Option Addr) (c k : Nat) (m : List UInt8) (w : World) (q : RQ w h M v R true) (hm : Bytes w A m) (hc : m.length ≤ c) (hcm : c ≤ maxLen) (hbig : (m.length : Int) < M - (R.length : Int)) (hkm : k = m.length) (hk0 : 0 < (k : Int)) (s2 : Bool) (R2 : List UInt8) (P : ∀ w0 v0, RQ w0 h M v0 (R ++ m.take k) true → Calls Try.prog 24 #[.pointer (some ⟨h, 0, none⟩)] w0 fun e w1 => e = .returned (.tuple #[]) ∧ ∃ v1, RQ w1 h M v1 R2 s2 ∧ Keep w0 w1 h v0 v1) :
    Calls Try.prog 12 #[.pointer (some ⟨h, 0, none⟩), .slice A m.length c] w fun e w' => e = .returned (.int .i64 (k : Int)) ∧ ∃ v', RQ w' h M v' R2 s2 ∧ Keep w w' h v v' := by
  have hsm := q.small
  have hM := q.2.2
  have hyt := bytes_take k hm
  have hRb : ∀ A' c', v = .slice A' R.length c' → Bytes w A' R := fun A' c' e => by
    obtain ⟨A2, c2, e2, _, _, hy⟩ := q.2.1.form
    rw [e2] at e; injection e with e1; subst e1; exact hy
  obtain ⟨Av, cv, rfl, fv, gv, _⟩ := q.2.1.form
  have hyR := hRb _ _ rfl
  obtain ⟨c0, c1, c2⟩ := cells3 q.1
  obtain ⟨f0, f1, f2⟩ := free3 q.1
  have hkc : (k : Int) ≤ (c : Int) := by omega
  have hkz : 0 ≤ (k : Int) := by omega
  have hm1 : c ≤ 9223372036854775807 := by unfold maxLen at hcm; omega
  have hw : wrap64 (M - (R.length : Int)) = M - (R.length : Int) := by unfold wrap64; omega
  have hw' : IntKind.i64.wrap (M - (R.length : Int)) = M - (R.length : Int) := (IntWalk.i64_left _).trans hw
  obtain ⟨Y, hY⟩ : ∃ Y, Y = m.take k := ⟨_, rfl⟩
  have hYl : Y.length = k := by rw [hY, List.length_take]; omega
  rw [← hY] at hyt
  have hRk : (R.length : Int) + k ≤ M := by omega
  have HQ := Lib.hid q; have HYT := Lib.hid hyt; have HYL := Lib.hid hYl; have HYR := Lib.hid hyR; have HRK := Lib.hid hRk; have HM := Lib.hid hM; have HY := Lib.hid hY; have HSM := Lib.hid hsm
  have HKM := Lib.hid hkm; subst hkm
  have HP := Lib.hid P; clear P
  clear q hyt hYl hyR hRk hM hY hm hsm fv gv hcm hRb
  go_enter Try.func12, Try.ntmps12
  go_wp2_with fail
  go_quiet (fail)
  have hb0 : Below w.heap.size w (w.drewN nq) := below_drewN (Below.refl _ _) _
  have HB0 := Lib.hid hb0
  clear hb0
  go_wp2_with (at_builtin; refine wpList_append_bytes isBytes rfl (.tmp 23) (.tmp 27) rfl w _ [] rfl (Own.nil _ _ _) Av R _ cv rfl rfl (HYR.out.below HB0.out) (by have := HSM.out; simp; omega) HB0.out ?_)
  intro v1 w1 ho1 _ hb1
  (try rw [List.nil_append] at ho1)
  obtain ⟨A1, n1, rfl, _, _⟩ := ho1.form
  have HO1 := Lib.hid ho1; have HB1 := Lib.hid hb1
  clear ho1 hb1
  go_wp2_with (at_builtin; refine wpList_append_bytes isBytes rfl (.tmp 29) (.tmp 32) rfl w _ R rfl HO1.out A Y _ c rfl HYL.out.symm (HYT.out.below HB1.out) (by have := HYL.out; have := HRK.out; have := HM.out; omega) HB1.out ?_)
  intro v2 w2 ho2 _ hb2
  obtain ⟨A2, n2, rfl, _, _⟩ := ho2.form
  obtain ⟨L2, hL2⟩ : ∃ L2, L2 = (R ++ Y).length := ⟨_, rfl⟩
  have hp := HQ.out.put hb2 ho2 (by have := HYL.out; have := HRK.out; have := HM.out; rw [List.length_append]; omega)
  rw [← hL2] at hp
  simp only [← hL2]
  obtain ⟨d0, d1, d2⟩ := cells3 (HQ.out.1.below hb2 HQ.out.lt)
  obtain ⟨e0, e1, e2⟩ := free3 (HQ.out.1.below hb2 HQ.out.lt)
  have g2 : (w2.setCell ⟨h, 0, none⟩ (.slice A2 L2 n2)).cell? ⟨h, 2, none⟩ = some (.bool true) := hp.1.1.cell 2
  have HP2 := Lib.hid hp
  clear hp ho2 hb2 hL2
  go_wp2_with fail
  refine (HP.out _ _ (HY.out ▸ HP2.out.1)).mono ?_
  rintro e w3 ⟨rfl, v3, hq3, hk3⟩
  have HQ3 := Lib.hid hq3; have HK3 := Lib.hid hk3
  clear hq3 hk3
  go_wp2_with fail
  go_ret
  exact ⟨rfl, v3, HQ3.out, HP2.out.2.trans HK3.out⟩

set_option maxHeartbeats 3200000 in
theorem RefPut_fit_no (h : Nat) (M : Int) (v : Value) (R : List UInt8) (A : Option Addr) (c k : Nat) (m : List UInt8) (w : World) (q : RQ w h M v R false) (hm : Bytes w A m) (hc : m.length ≤ c) (hcm : c ≤ maxLen) (hfit : (k : Int) = M - (R.length : Int)) (hkm : k ≤ m.length)  :
    Calls Try.prog 12 #[.pointer (some ⟨h, 0, none⟩), .slice A m.length c] w fun e w' => e = .returned (.int .i64 (k : Int)) ∧ ∃ v', RQ w' h M v' (R ++ m.take k) false ∧ Keep w w' h v v' := by
  have hsm := q.small
  have hM := q.2.2
  have hyt := bytes_take k hm
  have hRb : ∀ A' c', v = .slice A' R.length c' → Bytes w A' R := fun A' c' e => by
    obtain ⟨A2, c2, e2, _, _, hy⟩ := q.2.1.form
    rw [e2] at e; injection e with e1; subst e1; exact hy
  obtain ⟨Av, cv, rfl, fv, gv, _⟩ := q.2.1.form
  have hyR := hRb _ _ rfl
  obtain ⟨c0, c1, c2⟩ := cells3 q.1
  obtain ⟨f0, f1, f2⟩ := free3 q.1
  have hkc : (k : Int) ≤ (c : Int) := by omega
  have hkz : 0 ≤ (k : Int) := by omega
  have hm1 : c ≤ 9223372036854775807 := by unfold maxLen at hcm; omega
  have hw : wrap64 (M - (R.length : Int)) = (k : Int) := by unfold wrap64; omega
  have hw' : IntKind.i64.wrap (M - (R.length : Int)) = (k : Int) := (IntWalk.i64_left _).trans hw
  have hnl : ¬ (m.length : Int) < (k : Int) := by omega
  obtain ⟨Y, hY⟩ : ∃ Y, Y = m.take k := ⟨_, rfl⟩
  have hYl : Y.length = k := by rw [hY, List.length_take]; omega
  rw [← hY] at hyt
  have hRk : (R.length : Int) + k ≤ M := by omega
  have HQ := Lib.hid q; have HYT := Lib.hid hyt; have HYL := Lib.hid hYl; have HYR := Lib.hid hyR; have HRK := Lib.hid hRk; have HM := Lib.hid hM; have HY := Lib.hid hY; have HSM := Lib.hid hsm
  skip
  skip
  clear q hyt hYl hyR hRk hM hY hm hsm fv gv hcm hRb hfit
  go_enter Try.func12, Try.ntmps12
  go_wp2_with fail
  go_quiet (fail)
  have hb0 : Below w.heap.size w (w.drewN nq) := below_drewN (Below.refl _ _) _
  have HB0 := Lib.hid hb0
  clear hb0
  go_wp2_with (at_builtin; refine wpList_append_bytes isBytes rfl (.tmp 23) (.tmp 27) rfl w _ [] rfl (Own.nil _ _ _) Av R _ cv rfl rfl (HYR.out.below HB0.out) (by have := HSM.out; simp; omega) HB0.out ?_)
  intro v1 w1 ho1 _ hb1
  (try rw [List.nil_append] at ho1)
  obtain ⟨A1, n1, rfl, _, _⟩ := ho1.form
  have HO1 := Lib.hid ho1; have HB1 := Lib.hid hb1
  clear ho1 hb1
  go_wp2_with (at_builtin; refine wpList_append_bytes isBytes rfl (.tmp 29) (.tmp 32) rfl w _ R rfl HO1.out A Y _ c rfl HYL.out.symm (HYT.out.below HB1.out) (by have := HYL.out; have := HRK.out; have := HM.out; omega) HB1.out ?_)
  intro v2 w2 ho2 _ hb2
  obtain ⟨A2, n2, rfl, _, _⟩ := ho2.form
  obtain ⟨L2, hL2⟩ : ∃ L2, L2 = (R ++ Y).length := ⟨_, rfl⟩
  have hp := HQ.out.put hb2 ho2 (by have := HYL.out; have := HRK.out; have := HM.out; rw [List.length_append]; omega)
  rw [← hL2] at hp
  simp only [← hL2]
  obtain ⟨d0, d1, d2⟩ := cells3 (HQ.out.1.below hb2 HQ.out.lt)
  obtain ⟨e0, e1, e2⟩ := free3 (HQ.out.1.below hb2 HQ.out.lt)
  have g2 : (w2.setCell ⟨h, 0, none⟩ (.slice A2 L2 n2)).cell? ⟨h, 2, none⟩ = some (.bool false) := hp.1.1.cell 2
  have HP2 := Lib.hid hp
  clear hp ho2 hb2 hL2
  go_wp2_with fail
  go_ret
  exact ⟨rfl, _, HY.out ▸ HP2.out.1, HP2.out.2⟩

set_option maxHeartbeats 3200000 in
theorem RefPut_fit_zero (h : Nat) (M : Int) (v : Value) (R : List UInt8) (A : Option Addr) (c k : Nat) (m : List UInt8) (w : World) (q : RQ w h M v R true) (hm : Bytes w A m) (hc : m.length ≤ c) (hcm : c ≤ maxLen) (hfit : (k : Int) = M - (R.length : Int)) (hkm : k ≤ m.length) (hk0 : ¬ 0 < (k : Int)) :
    Calls Try.prog 12 #[.pointer (some ⟨h, 0, none⟩), .slice A m.length c] w fun e w' => e = .returned (.int .i64 (k : Int)) ∧ ∃ v', RQ w' h M v' (R ++ m.take k) true ∧ Keep w w' h v v' := by
  have hsm := q.small
  have hM := q.2.2
  have hyt := bytes_take k hm
  have hRb : ∀ A' c', v = .slice A' R.length c' → Bytes w A' R := fun A' c' e => by
    obtain ⟨A2, c2, e2, _, _, hy⟩ := q.2.1.form
    rw [e2] at e; injection e with e1; subst e1; exact hy
  obtain ⟨Av, cv, rfl, fv, gv, _⟩ := q.2.1.form
  have hyR := hRb _ _ rfl
  obtain ⟨c0, c1, c2⟩ := cells3 q.1
  obtain ⟨f0, f1, f2⟩ := free3 q.1
  have hkc : (k : Int) ≤ (c : Int) := by omega
  have hkz : 0 ≤ (k : Int) := by omega
  have hm1 : c ≤ 9223372036854775807 := by unfold maxLen at hcm; omega
  have hw : wrap64 (M - (R.length : Int)) = (k : Int) := by unfold wrap64; omega
  have hw' : IntKind.i64.wrap (M - (R.length : Int)) = (k : Int) := (IntWalk.i64_left _).trans hw
  have hnl : ¬ (m.length : Int) < (k : Int) := by omega
  obtain ⟨Y, hY⟩ : ∃ Y, Y = m.take k := ⟨_, rfl⟩
  have hYl : Y.length = k := by rw [hY, List.length_take]; omega
  rw [← hY] at hyt
  have hRk : (R.length : Int) + k ≤ M := by omega
  have HQ := Lib.hid q; have HYT := Lib.hid hyt; have HYL := Lib.hid hYl; have HYR := Lib.hid hyR; have HRK := Lib.hid hRk; have HM := Lib.hid hM; have HY := Lib.hid hY; have HSM := Lib.hid hsm
  skip
  skip
  clear q hyt hYl hyR hRk hM hY hm hsm fv gv hcm hRb hfit
  go_enter Try.func12, Try.ntmps12
  go_wp2_with fail
  go_quiet (fail)
  have hb0 : Below w.heap.size w (w.drewN nq) := below_drewN (Below.refl _ _) _
  have HB0 := Lib.hid hb0
  clear hb0
  go_wp2_with (at_builtin; refine wpList_append_bytes isBytes rfl (.tmp 23) (.tmp 27) rfl w _ [] rfl (Own.nil _ _ _) Av R _ cv rfl rfl (HYR.out.below HB0.out) (by have := HSM.out; simp; omega) HB0.out ?_)
  intro v1 w1 ho1 _ hb1
  (try rw [List.nil_append] at ho1)
  obtain ⟨A1, n1, rfl, _, _⟩ := ho1.form
  have HO1 := Lib.hid ho1; have HB1 := Lib.hid hb1
  clear ho1 hb1
  go_wp2_with (at_builtin; refine wpList_append_bytes isBytes rfl (.tmp 29) (.tmp 32) rfl w _ R rfl HO1.out A Y _ c rfl HYL.out.symm (HYT.out.below HB1.out) (by have := HYL.out; have := HRK.out; have := HM.out; omega) HB1.out ?_)
  intro v2 w2 ho2 _ hb2
  obtain ⟨A2, n2, rfl, _, _⟩ := ho2.form
  obtain ⟨L2, hL2⟩ : ∃ L2, L2 = (R ++ Y).length := ⟨_, rfl⟩
  have hp := HQ.out.put hb2 ho2 (by have := HYL.out; have := HRK.out; have := HM.out; rw [List.length_append]; omega)
  rw [← hL2] at hp
  simp only [← hL2]
  obtain ⟨d0, d1, d2⟩ := cells3 (HQ.out.1.below hb2 HQ.out.lt)
  obtain ⟨e0, e1, e2⟩ := free3 (HQ.out.1.below hb2 HQ.out.lt)
  have g2 : (w2.setCell ⟨h, 0, none⟩ (.slice A2 L2 n2)).cell? ⟨h, 2, none⟩ = some (.bool true) := hp.1.1.cell 2
  have HP2 := Lib.hid hp
  clear hp ho2 hb2 hL2
  go_wp2_with fail
  go_ret
  exact ⟨rfl, _, HY.out ▸ HP2.out.1, HP2.out.2⟩

set_option maxHeartbeats 3200000 in
theorem RefPut_fit_pass (h : Nat) (M : Int) (v : Value) (R : List UInt8) (A : Option Addr) (c k : Nat) (m : List UInt8) (w : World) (q : RQ w h M v R true) (hm : Bytes w A m) (hc : m.length ≤ c) (hcm : c ≤ maxLen) (hfit : (k : Int) = M - (R.length : Int)) (hkm : k ≤ m.length) (hk0 : 0 < (k : Int)) (s2 : Bool) (R2 : List UInt8) (P : ∀ w0 v0, RQ w0 h M v0 (R ++ m.take k) true → Calls Try.prog 24 #[.pointer (some ⟨h, 0, none⟩)] w0 fun e w1 => e = .returned (.tuple #[]) ∧ ∃ v1, RQ w1 h M v1 R2 s2 ∧ Keep w0 w1 h v0 v1) :
    Calls Try.prog 12 #[.pointer (some ⟨h, 0, none⟩), .slice A m.length c] w fun e w' => e = .returned (.int .i64 (k : Int)) ∧ ∃ v', RQ w' h M v' R2 s2 ∧ Keep w w' h v v' := by
  have hsm := q.small
  have hM := q.2.2
  have hyt := bytes_take k hm
  have hRb : ∀ A' c', v = .slice A' R.length c' → Bytes w A' R := fun A' c' e => by
    obtain ⟨A2, c2, e2, _, _, hy⟩ := q.2.1.form
    rw [e2] at e; injection e with e1; subst e1; exact hy
  obtain ⟨Av, cv, rfl, fv, gv, _⟩ := q.2.1.form
  have hyR := hRb _ _ rfl
  obtain ⟨c0, c1, c2⟩ := cells3 q.1
  obtain ⟨f0, f1, f2⟩ := free3 q.1
  have hkc : (k : Int) ≤ (c : Int) := by omega
  have hkz : 0 ≤ (k : Int) := by omega
  have hm1 : c ≤ 9223372036854775807 := by unfold maxLen at hcm; omega
  have hw : wrap64 (M - (R.length : Int)) = (k : Int) := by unfold wrap64; omega
  have hw' : IntKind.i64.wrap (M - (R.length : Int)) = (k : Int) := (IntWalk.i64_left _).trans hw
  have hnl : ¬ (m.length : Int) < (k : Int) := by omega
  obtain ⟨Y, hY⟩ : ∃ Y, Y = m.take k := ⟨_, rfl⟩
  have hYl : Y.length = k := by rw [hY, List.length_take]; omega
  rw [← hY] at hyt
  have hRk : (R.length : Int) + k ≤ M := by omega
  have HQ := Lib.hid q; have HYT := Lib.hid hyt; have HYL := Lib.hid hYl; have HYR := Lib.hid hyR; have HRK := Lib.hid hRk; have HM := Lib.hid hM; have HY := Lib.hid hY; have HSM := Lib.hid hsm
  skip
  have HP := Lib.hid P; clear P
  clear q hyt hYl hyR hRk hM hY hm hsm fv gv hcm hRb hfit
  go_enter Try.func12, Try.ntmps12
  go_wp2_with fail
  go_quiet (fail)
  have hb0 : Below w.heap.size w (w.drewN nq) := below_drewN (Below.refl _ _) _
  have HB0 := Lib.hid hb0
  clear hb0
  go_wp2_with (at_builtin; refine wpList_append_bytes isBytes rfl (.tmp 23) (.tmp 27) rfl w _ [] rfl (Own.nil _ _ _) Av R _ cv rfl rfl (HYR.out.below HB0.out) (by have := HSM.out; simp; omega) HB0.out ?_)
  intro v1 w1 ho1 _ hb1
  (try rw [List.nil_append] at ho1)
  obtain ⟨A1, n1, rfl, _, _⟩ := ho1.form
  have HO1 := Lib.hid ho1; have HB1 := Lib.hid hb1
  clear ho1 hb1
  go_wp2_with (at_builtin; refine wpList_append_bytes isBytes rfl (.tmp 29) (.tmp 32) rfl w _ R rfl HO1.out A Y _ c rfl HYL.out.symm (HYT.out.below HB1.out) (by have := HYL.out; have := HRK.out; have := HM.out; omega) HB1.out ?_)
  intro v2 w2 ho2 _ hb2
  obtain ⟨A2, n2, rfl, _, _⟩ := ho2.form
  obtain ⟨L2, hL2⟩ : ∃ L2, L2 = (R ++ Y).length := ⟨_, rfl⟩
  have hp := HQ.out.put hb2 ho2 (by have := HYL.out; have := HRK.out; have := HM.out; rw [List.length_append]; omega)
  rw [← hL2] at hp
  simp only [← hL2]
  obtain ⟨d0, d1, d2⟩ := cells3 (HQ.out.1.below hb2 HQ.out.lt)
  obtain ⟨e0, e1, e2⟩ := free3 (HQ.out.1.below hb2 HQ.out.lt)
  have g2 : (w2.setCell ⟨h, 0, none⟩ (.slice A2 L2 n2)).cell? ⟨h, 2, none⟩ = some (.bool true) := hp.1.1.cell 2
  have HP2 := Lib.hid hp
  clear hp ho2 hb2 hL2
  go_wp2_with fail
  refine (HP.out _ _ (HY.out ▸ HP2.out.1)).mono ?_
  rintro e w3 ⟨rfl, v3, hq3, hk3⟩
  have HQ3 := Lib.hid hq3; have HK3 := Lib.hid hk3
  clear hq3 hk3
  go_wp2_with fail
  go_ret
  exact ⟨rfl, v3, HQ3.out, HP2.out.2.trans HK3.out⟩

theorem passN_false (l : List UInt8) : passN false l = 0 := rfl
theorem passS_false (l : List UInt8) : passS false l = false := rfl
theorem RefPut22 (h : Nat) (M : Int) (v : Value) (R : List UInt8) (s : Bool) (A : Option Addr) (c k : Nat) (m : List UInt8) (w : World) (q : RQ w h M v R s) (hs : s = true → R = []) (hm : Bytes w A m) (hc : m.length ≤ c) (hcm : c ≤ maxLen) (hmin : min (m.length : Int) (M - (R.length : Int)) = (k : Int)) :
    Calls Try.prog 12 #[.pointer (some ⟨h, 0, none⟩), .slice A m.length c] w fun e w' => e = .returned (.int .i64 (k : Int)) ∧ ∃ v', RQ w' h M v' (R ++ (m.take k).drop (passN s (m.take k))) (passS s (m.take k)) ∧ Keep w w' h v v' := by
  have hM := q.2.2
  have hkm : k ≤ m.length := by omega
  have hYl : (m.take k).length = k := by rw [List.length_take]; omega
  cases s with
  | false =>
    rw [passN_false, passS_false, List.drop_zero]
    by_cases hb : (m.length : Int) < M - (R.length : Int)
    · exact RefPut_big_no h M v R A c k m w q hm hc hcm hb (by omega)
    · exact RefPut_fit_no h M v R A c k m w q hm hc hcm (by omega) (by omega)
  | true =>
    obtain rfl := hs rfl
    by_cases hk : 0 < (k : Int)
    · have P : ∀ w0 v0, RQ w0 h M v0 ([] ++ m.take k) true → Calls Try.prog 24 #[.pointer (some ⟨h, 0, none⟩)] w0 fun e w1 => e = .returned (.tuple #[]) ∧ ∃ v1, RQ w1 h M v1 ([] ++ (m.take k).drop (passN true (m.take k))) (passS true (m.take k)) ∧ Keep w0 w1 h v0 v1 := by
        intro w0 v0 q0
        rw [List.nil_append] at q0 ⊢
        unfold passN passS
        by_cases he : eolN (m.take k) = -1
        · refine (RefPass22_none h M v0 (m.take k) true he w0 q0).mono ?_
          rintro e w1 ⟨rfl, v1, q1, k1⟩
          refine ⟨rfl, v1, ?_, k1⟩
          rw [if_neg (by simp), if_pos he, List.drop_eq_nil_of_le (Nat.le_refl _), if_neg (by simp), if_pos he]
          exact q1
        · have h2 := eolN_ge (m.take k)
          obtain ⟨i, hi⟩ : ∃ i : Nat, eolN (m.take k) = (i : Int) := ⟨(eolN (m.take k)).toNat, by omega⟩
          refine (RefPass22_some h M v0 (m.take k) true i hi w0 q0).mono ?_
          rintro e w1 ⟨rfl, v1, q1, k1⟩
          refine ⟨rfl, v1, ?_, k1⟩
          rw [if_neg (by simp), if_neg he, hi, Int.toNat_natCast, if_neg (by simp), if_neg (by omega)]
          exact q1
      by_cases hb : (m.length : Int) < M - (([] : List UInt8).length : Int)
      · exact RefPut_big_pass h M v [] A c k m w q hm hc hcm hb (by omega) hk _ _ P
      · exact RefPut_fit_pass h M v [] A c k m w q hm hc hcm (by omega) (by omega) hk _ _ P
    · obtain rfl : k = 0 := by omega
      have e : m.take 0 = [] := rfl
      have e2 : passN true ([] : List UInt8) = 0 := by decide +kernel
      have e3 : passS true ([] : List UInt8) = true := by decide +kernel
      rw [e, e2, e3]
      by_cases hb : (m.length : Int) < M - (([] : List UInt8).length : Int)
      · exact RefPut_big_zero h M v [] A c 0 m w q hm hc hcm hb (by omega) (by omega)
      · exact RefPut_fit_zero h M v [] A c 0 m w q hm hc hcm (by omega) (by omega) (by omega)

set_option maxHeartbeats 3200000 in
theorem RefLine_far (h : Nat) (M : Int) (v : Value) (R : List UInt8) (s : Bool) (m mx : Int) (w : World) (q : RQ w h M v R s) (hm : m < 0 ∧ mx = 0 ∨ ¬ m < 0 ∧ mx = m) (k : Nat) (he : eolN R = (k : Int)) (hk : mx < (k : Int)) :
    Calls Try.prog 17 #[.pointer (some ⟨h, 0, none⟩), .int .i64 m] w fun e w' => ∃ v', e = .returned (.tuple #[.slice none 0 0, .bool true, .bool true]) ∧ RQ w' h M v' (R.drop (k + 1)) false ∧ Keep w w' h v v' := by
  have hsm := q.small
  have hV := fun i => (q.2.1.lt (g := i))
  have hE := eolN_at R k he
  obtain ⟨Av, cv, rfl, fv, gv, _⟩ := q.2.1.form
  obtain ⟨c0, c1, c2⟩ := cells3 q.1
  obtain ⟨f0, f1, f2⟩ := free3 q.1
  have HQ := Lib.hid q; have HF := Lib.hid fv; have HE := Lib.hid hE; have HEO := Lib.hid he; have HV := Lib.hid hV
  have hmx : 0 ≤ mx := by omega
  have HMX := Lib.hid hm
  clear q fv gv hE he hV hm
  go_enter Try.func17, Try.ntmps17
  go_upto_if 12 with fail
  go_cut [7] (fun vm wc => wc = w ∧ vm = .int .i64 mx)
  case first =>
    rcases HMX.out with ⟨h1, h2⟩ | ⟨h1, h2⟩
    · go_wp2_with fail
      go_meet
      exact ⟨rfl, by rw [h2]⟩
    · go_wp2_with fail
      go_meet
      exact ⟨rfl, by rw [h2]⟩
  case rest =>
  obtain ⟨rfl, rfl⟩ := hcut
  clear HMX
  go_wp2_with fail
  go_loopw [8] (fun vi wr => wr = wc ∧ ∃ i : Nat, (i : Int) ≤ mx + 1 ∧ vi = .int .i64 (i : Int)) (fun i _ => R.length + 1 - (intOf i).toNat)
  case atStart => exact ⟨rfl, 0, by omega, rfl⟩
  case round =>
    obtain ⟨rfl, i, hi, rfl⟩ := hrel
    by_cases hlt : (i : Int) ≤ mx
    · have hiR : i < R.length := by have := HE.out.1; omega
      have hi1 : (i : Int) < (R.length : Int) := by omega
      have hle : (i : Int) ≤ mx := by omega
      have hled : decide ((i : Int) ≤ mx) = true := decide_eq_true hle
      obtain ⟨_, _, b, off, rfl, hbl, hcell⟩ := HQ.out.cell hiR
      have hby := HE.out.2.2 i (by omega)
      obtain ⟨N, hN⟩ : ∃ N, N = byN22 R i := ⟨_, rfl⟩
      rw [← hN] at hcell hby
      have ht := ten_ne hby
      have hti : ¬ (N : Int) = 10 := by omega
      clear hbl hN
      go_wp2_with fail
      go_roundw
      case rel => exact ⟨(by trivial), i + 1, by omega, by simp⟩
      case measure => simp only [intOf]; omega
    · have hled : decide ((i : Int) ≤ mx) = false := decide_eq_false hlt
      have hgt : mx < (R.length : Int) := by have := HE.out.1; omega
      have q1 := HQ.out.flag true
      have D := RefPass22_some h M _ R true k HEO.out _ q1
      have HD := Lib.hid D
      have HK := Lib.hid ((Keep.refl wr h (.slice Av R.length cv)).set 2 (.bool true) (.slice Av R.length cv) (.inl rfl))
      clear D q1
      go_wp2_with fail
      refine HD.out.mono ?_
      rintro e w2 ⟨rfl, v2, hq2, hk2⟩
      have HQ2 := Lib.hid hq2; have HK2 := Lib.hid hk2
      clear hq2 hk2
      go_wp2_with fail
      go_ret3
      exact ⟨v2, rfl, HQ2.out, HK.out.trans HK2.out⟩

set_option maxHeartbeats 3200000 in
theorem RefLine_in (h : Nat) (M : Int) (v : Value) (R : List UInt8) (s : Bool) (m mx : Int) (w : World) (q : RQ w h M v R s) (hm : m < 0 ∧ mx = 0 ∨ ¬ m < 0 ∧ mx = m) (k : Nat) (he : eolN R = (k : Int)) (hk : ¬ mx < (k : Int)) :
    Calls Try.prog 17 #[.pointer (some ⟨h, 0, none⟩), .int .i64 m] w fun e w' => ∃ A1 n1 v', e = .returned (.tuple #[.slice A1 (R.take k).length n1, .bool true, .bool false]) ∧ Own w' w.heap.size 5 (.slice A1 (R.take k).length n1) (R.take k) ∧ RQ w' h M v' (R.drop (k + 1)) s ∧ Keep w w' h v v' := by
  have hsm := q.small
  have hV := fun i => (q.2.1.lt (g := i))
  have hE := eolN_at R k he
  obtain ⟨Av, cv, rfl, fv, gv, _⟩ := q.2.1.form
  obtain ⟨c0, c1, c2⟩ := cells3 q.1
  obtain ⟨f0, f1, f2⟩ := free3 q.1
  have HQ := Lib.hid q; have HF := Lib.hid fv; have HE := Lib.hid hE; have HEO := Lib.hid he; have HV := Lib.hid hV
  have hmx : 0 ≤ mx := by omega
  have HMX := Lib.hid hm
  clear q fv gv hE he hV hm
  go_enter Try.func17, Try.ntmps17
  go_upto_if 12 with fail
  go_cut [7] (fun vm wc => wc = w ∧ vm = .int .i64 mx)
  case first =>
    rcases HMX.out with ⟨h1, h2⟩ | ⟨h1, h2⟩
    · go_wp2_with fail
      go_meet
      exact ⟨rfl, by rw [h2]⟩
    · go_wp2_with fail
      go_meet
      exact ⟨rfl, by rw [h2]⟩
  case rest =>
  obtain ⟨rfl, rfl⟩ := hcut
  clear HMX
  go_wp2_with fail
  go_loopw [8] (fun vi wr => wr = wc ∧ ∃ i : Nat, i ≤ k ∧ vi = .int .i64 (i : Int)) (fun i _ => R.length + 1 - (intOf i).toNat)
  case atStart => exact ⟨rfl, 0, by omega, rfl⟩
  case round =>
    obtain ⟨rfl, i, hi, rfl⟩ := hrel
    by_cases hlt : i < k
    · have hiR : i < R.length := by have := HE.out.1; omega
      have hi1 : (i : Int) < (R.length : Int) := by omega
      have hle : (i : Int) ≤ mx := by omega
      have hled : decide ((i : Int) ≤ mx) = true := decide_eq_true hle
      obtain ⟨_, _, b, off, rfl, hbl, hcell⟩ := HQ.out.cell hiR
      have hby := HE.out.2.2 i (by omega)
      obtain ⟨N, hN⟩ : ∃ N, N = byN22 R i := ⟨_, rfl⟩
      rw [← hN] at hcell hby
      have ht := ten_ne hby
      have hti : ¬ (N : Int) = 10 := by omega
      clear hbl hN
      go_wp2_with fail
      go_roundw
      case rel => exact ⟨(by trivial), i + 1, by omega, by simp⟩
      case measure => simp only [intOf]; omega
    · obtain rfl : i = k := by omega
      have hiR : i < R.length := HE.out.1
      have hi1 : (i : Int) < (R.length : Int) := by omega
      have hle : (i : Int) ≤ mx := by omega
      have hled : decide ((i : Int) ≤ mx) = true := decide_eq_true hle
      obtain ⟨_, _, b, off, rfl, hbl, hcell⟩ := HQ.out.cell hiR
      have hby := HE.out.2.1
      obtain ⟨N, hN⟩ : ∃ N, N = byN22 R i := ⟨_, rfl⟩
      rw [← hN] at hcell hby
      subst hby
      clear hbl hN
      have D := RefTake22 h M _ R s (i : Int) wr HQ.out
      rw [takeN_nat (by omega)] at D
      have HD := Lib.hid D
      clear D
      have HLT := Lib.hid (show (R.take i).length = i by rw [List.length_take]; omega)
      go_wp2_with fail
      refine HD.out.mono ?_
      rintro e w2 ⟨A1, n1, v2, rfl, _, _, ho2, hq2, hk2, hsp2⟩
      have D2 := RefDrop22 h M v2 (R.drop i) s 1 w2 hq2 (by omega)
      rw [List.drop_drop] at D2
      have HOK := Lib.hid (fun (w3 : World) (v3 : Value) (k : Keep w2 w3 h v2 v3) => Own.keep' ho2 k HQ.out.lt hsp2)
      have HD2 := Lib.hid D2; have HQ2 := Lib.hid hq2; have HK2 := Lib.hid hk2; have HO2 := Lib.hid ho2
      clear hq2 hk2 D2 c0 c1 c2 f0 f1 f2 hcell ho2 hsp2
      go_wp2_with fail
      refine HD2.out.mono ?_
      rintro e w3 ⟨rfl, v3, hq3, hk3⟩
      have HQ3 := Lib.hid hq3; have HK3 := Lib.hid hk3
      clear hq3 hk3
      go_wp2_with fail
      go_ret3
      refine ⟨A1, n1, v3, (by simp), HOK.out _ _ HK3.out, HQ3.out, HK2.out.trans HK3.out⟩

set_option maxHeartbeats 3200000 in
theorem RefLine_many (h : Nat) (M : Int) (v : Value) (R : List UInt8) (s : Bool) (m mx : Int) (w : World) (q : RQ w h M v R s) (hm : m < 0 ∧ mx = 0 ∨ ¬ m < 0 ∧ mx = m) (he : eolN R = -1) (hk : mx < (R.length : Int)) :
    Calls Try.prog 17 #[.pointer (some ⟨h, 0, none⟩), .int .i64 m] w fun e w' => ∃ v', e = .returned (.tuple #[.slice none 0 0, .bool true, .bool true]) ∧ RQ w' h M v' [] true ∧ Keep w w' h v v' := by
  have hsm := q.small
  have hV := fun i => (q.2.1.lt (g := i))
  have hE := eolN_no R he
  obtain ⟨Av, cv, rfl, fv, gv, _⟩ := q.2.1.form
  obtain ⟨c0, c1, c2⟩ := cells3 q.1
  obtain ⟨f0, f1, f2⟩ := free3 q.1
  have HQ := Lib.hid q; have HF := Lib.hid fv; have HE := Lib.hid hE; have HEO := Lib.hid he; have HV := Lib.hid hV
  have hmx : 0 ≤ mx := by omega
  have HMX := Lib.hid hm
  clear q fv gv hE he hV hm
  go_enter Try.func17, Try.ntmps17
  go_upto_if 12 with fail
  go_cut [7] (fun vm wc => wc = w ∧ vm = .int .i64 mx)
  case first =>
    rcases HMX.out with ⟨h1, h2⟩ | ⟨h1, h2⟩
    · go_wp2_with fail
      go_meet
      exact ⟨rfl, by rw [h2]⟩
    · go_wp2_with fail
      go_meet
      exact ⟨rfl, by rw [h2]⟩
  case rest =>
  obtain ⟨rfl, rfl⟩ := hcut
  clear HMX
  go_wp2_with fail
  go_loopw [8] (fun vi wr => wr = wc ∧ ∃ i : Nat, (i : Int) ≤ mx + 1 ∧ vi = .int .i64 (i : Int)) (fun i _ => R.length + 1 - (intOf i).toNat)
  case atStart => exact ⟨rfl, 0, by omega, rfl⟩
  case round =>
    obtain ⟨rfl, i, hi, rfl⟩ := hrel
    by_cases hlt : (i : Int) ≤ mx
    · have hiR : i < R.length := by omega
      have hi1 : (i : Int) < (R.length : Int) := by omega
      have hle : (i : Int) ≤ mx := by omega
      have hled : decide ((i : Int) ≤ mx) = true := decide_eq_true hle
      obtain ⟨_, _, b, off, rfl, hbl, hcell⟩ := HQ.out.cell hiR
      have hby := HE.out i hiR
      obtain ⟨N, hN⟩ : ∃ N, N = byN22 R i := ⟨_, rfl⟩
      rw [← hN] at hcell hby
      have ht := ten_ne hby
      have hti : ¬ (N : Int) = 10 := by omega
      clear hbl hN
      go_wp2_with fail
      go_roundw
      case rel => exact ⟨(by trivial), i + 1, by omega, by simp⟩
      case measure => simp only [intOf]; omega
    · have hled : decide ((i : Int) ≤ mx) = false := decide_eq_false hlt
      have hgt : mx < (R.length : Int) := by omega
      have q1 := HQ.out.flag true
      have D := RefPass22_none h M _ R true HEO.out _ q1
      have HD := Lib.hid D
      have HK := Lib.hid ((Keep.refl wr h (.slice Av R.length cv)).set 2 (.bool true) (.slice Av R.length cv) (.inl rfl))
      clear D q1
      go_wp2_with fail
      refine HD.out.mono ?_
      rintro e w2 ⟨rfl, v2, hq2, hk2⟩
      have HQ2 := Lib.hid hq2; have HK2 := Lib.hid hk2
      clear hq2 hk2
      go_wp2_with fail
      go_ret3
      exact ⟨v2, rfl, HQ2.out, HK.out.trans HK2.out⟩

set_option maxHeartbeats 3200000 in
theorem RefLine_none (h : Nat) (M : Int) (v : Value) (R : List UInt8) (s : Bool) (m mx : Int) (w : World) (q : RQ w h M v R s) (hm : m < 0 ∧ mx = 0 ∨ ¬ m < 0 ∧ mx = m) (he : eolN R = -1) (hk : ¬ mx < (R.length : Int)) :
    Calls Try.prog 17 #[.pointer (some ⟨h, 0, none⟩), .int .i64 m] w fun e w' => e = .returned (.tuple #[.slice none 0 0, .bool false, .bool false]) ∧ w' = w := by
  have hsm := q.small
  have hV := fun i => (q.2.1.lt (g := i))
  have hE := eolN_no R he
  obtain ⟨Av, cv, rfl, fv, gv, _⟩ := q.2.1.form
  obtain ⟨c0, c1, c2⟩ := cells3 q.1
  obtain ⟨f0, f1, f2⟩ := free3 q.1
  have HQ := Lib.hid q; have HF := Lib.hid fv; have HE := Lib.hid hE; have HEO := Lib.hid he; have HV := Lib.hid hV
  have hmx : 0 ≤ mx := by omega
  have HMX := Lib.hid hm
  clear q fv gv hE he hV hm
  go_enter Try.func17, Try.ntmps17
  go_upto_if 12 with fail
  go_cut [7] (fun vm wc => wc = w ∧ vm = .int .i64 mx)
  case first =>
    rcases HMX.out with ⟨h1, h2⟩ | ⟨h1, h2⟩
    · go_wp2_with fail
      go_meet
      exact ⟨rfl, by rw [h2]⟩
    · go_wp2_with fail
      go_meet
      exact ⟨rfl, by rw [h2]⟩
  case rest =>
  obtain ⟨rfl, rfl⟩ := hcut
  clear HMX
  go_wp2_with fail
  go_loopw [8] (fun vi wr => wr = wc ∧ ∃ i : Nat, i ≤ R.length ∧ vi = .int .i64 (i : Int)) (fun i _ => R.length + 1 - (intOf i).toNat)
  case atStart => exact ⟨rfl, 0, by omega, rfl⟩
  case round =>
    obtain ⟨rfl, i, hi, rfl⟩ := hrel
    by_cases hlt : i < R.length
    · have hiR : i < R.length := by omega
      have hi1 : (i : Int) < (R.length : Int) := by omega
      have hle : (i : Int) ≤ mx := by omega
      have hled : decide ((i : Int) ≤ mx) = true := decide_eq_true hle
      obtain ⟨_, _, b, off, rfl, hbl, hcell⟩ := HQ.out.cell hiR
      have hby := HE.out i hiR
      obtain ⟨N, hN⟩ : ∃ N, N = byN22 R i := ⟨_, rfl⟩
      rw [← hN] at hcell hby
      have ht := ten_ne hby
      have hti : ¬ (N : Int) = 10 := by omega
      clear hbl hN
      go_wp2_with fail
      go_roundw
      case rel => exact ⟨(by trivial), i + 1, by omega, by simp⟩
      case measure => simp only [intOf]; omega
    · have hi2 : R.length = i := by omega
      have hi1 : ¬ (i : Int) < (R.length : Int) := by omega
      have hk1 : ¬ mx < (R.length : Int) := by omega
      have hle : (i : Int) ≤ mx := by omega
      have hled : decide ((i : Int) ≤ mx) = true := decide_eq_true hle
      clear hi2
      go_wp2_with fail
      go_ret3
      exact ⟨rfl, rfl⟩
end Go.Proofs.Ytgbialnnfadlgaa

/-
  Texts of this seat, put together: NarP4.
-/
import Derived.Test.YtkpbldhkoobnaaaDoorBack4WMg
import Derived.Test.YtkpbldhkoobnaaaDoorMg25
import Derived.Test.YtkpbldhkoobnaaaDoorReadN4Mg
/-
  P4.4: right attributes, put narrow: what is read of them, as Lean functions.
-/
namespace Go.Proofs.YtkpbldhkoobnaaaDoor
set_option linter.unusedVariables false
set_option linter.unusedSimpArgs false
open Go.RowKit

theorem nar_all (a : Av) (w : World) (ht : TabK w) (ha : AvArg w a) (hok : a.okB = true) (N : Nat) (hN : a.next = (N : Int)) (hnb : nextB N = true) :
    ∃ (d : List UInt8) (Sf : Rs), (∀ W, Below w.heap.size w W → Calls Tryd.prog 20 #[.agg a.row.toArray, .bool false] W (RetPut W d)) ∧ RunK (fun _ => true) false d rs0 Sf ∧ d.length ≤ 100000 ∧
      (Sf.path.length ≤ 12 ∧ totA Sf.path ≤ 1048576 ∧ Sf.wpath.length ≤ 12 ∧ totA Sf.wpath ≤ 1048576) ∧
      ∃ F : Rs, widenF false Sf = F ∧
      ∀ x : Av, x.org = (F.org : Int) → x.path.map Sg.abs = F.path → x.next = (F.next : Int) → x.med = F.med → x.pref = F.pref → x.atomic = F.atomic → x.has = F.has → x.aas = (F.aas : Int) → x.aad = (F.aad : Int) → x.comms = F.comms → x.raws.map Rw.abs = F.raws →
        cntN x.path = cntN a.path ∧ x.path.length = a.path.length ∧ totN x.path = totN a.path ∧ x.raws.length = a.raws.length ∧
        (bigs (flatN a.path) = false → a.aas ≤ 65535 → a.aas ≠ 23456 → x.same a = true) ∧
        (bigs (flatN a.path) = true → a.has = false → x.same a = true) := by
  obtain ⟨h1, h2, hr, h3, h4, h5, h6, hha, h7, h8, h9⟩ := okB_all hok
  have hre := raws_small a.raws (-1) h8
  obtain ⟨hin, hcm, hfit, _, hnx, haa, had, _, _, _⟩ := ha
  obtain ⟨org, pa, pc, path, next, med, pref, atomic, has, aas, aad, ca, cc, comms, ra, rc, raws⟩ := a
  dsimp only at h1 h2 hr h3 h4 h5 h6 hha h7 h8 h9 hre hcm hfit hnx haa had hN
  obtain ⟨O, rfl⟩ := Int.eq_ofNat_of_zero_le h1
  obtain ⟨SA, rfl⟩ := Int.eq_ofNat_of_zero_le haa.1
  obtain ⟨AD, rfl⟩ := Int.eq_ofNat_of_zero_le had.1
  subst hN
  obtain ⟨mm, hwm, hmm, hm2⟩ := u32_wrap_of med h5
  obtain ⟨mp, hwp, hmp, hp2⟩ := u32_wrap_of pref h6
  have hh2 : has = false → SA = 0 ∧ AD = 0 := fun e => by have := hha e; omega
  obtain ⟨ks, n, hrun⟩ := back4 O N SA AD path med pref mm mp atomic has comms raws false (by omega) hr (fun s hs => (hfit s hs).1) hnb (by omega) h5.1 hm2 hmm h6.1 hp2 hmp hh2 (by omega) (by omega) h7 hcm h8 h9
  obtain ⟨P, A, D, Wb, G, hw, ⟨q1, q2, q3⟩, q4, q5⟩ := widen_nar O N SA AD path med pref atomic has comms raws ks hr (by omega) (by omega) hh2
  have hz : totA ([] : List (Int × List Nat)) = 0 := rfl
  refine ⟨_, _, fun W q => PutA_ok O N SA AD pa pc path med pref atomic has ca cc comms ra rc raws mm mp false W (ht.below q ht.lt) ((hin.below q (Nat.le_refl _)).lift q.size) hok (by omega) (by omega) (by omega) (by omega) hwm hmm hwp hmp (by omega) (by omega) (by omega) hcm (by omega) hre, ⟨n, Runs.all n _ _ _ hrun⟩, putA_small _ _ _ _ _ _ _ _ _ _ _ _ _ h3 h4 h7 h9 hre false, ?_, _, hw, ?_⟩
  · dsimp only
    have t1 := totA_nar path false
    have t2 := tot_abs path
    refine ⟨by simp; omega, by omega, ?_, ?_⟩
    · split
      · simp; omega
      · simp
    · split
      · omega
      · omega
  intro x e1 e2 e3 e4 e5 e6 e7 e8 e9 e10 e11
  dsimp only at e1 e2 e3 e4 e5 e6 e7 e8 e9 e10 e11 ⊢
  have hsame : P = path.map Sg.abs ∧ A = SA ∧ D = AD → x.same ⟨(O : Int), pa, pc, path, (N : Int), med, pref, atomic, has, (SA : Int), (AD : Int), ca, cc, comms, ra, rc, raws⟩ = true := by
    rintro ⟨r1, r2, r3⟩
    rw [r1] at e2
    rw [r2] at e8
    rw [r3] at e9
    unfold Av.same sameP sameRs
    dsimp only
    rw [e1, e3, e4, e5, e6, e7, e8, e9, e10, decide_eq_true e2, decide_eq_true e11]
    simp [sameZ]
  refine ⟨by rw [cnt_abs, e2]; exact q1, by have := congrArg List.length e2; simpa [q2] using this, by rw [tot_abs, e2]; exact q3, by have := congrArg List.length e11; simpa using this, fun g1 g2 g3 => hsame (q4 g1 (by omega) (by omega)), fun g1 g2 => hsame (q5 g1 g2)⟩
end Go.Proofs.YtkpbldhkoobnaaaDoor

/-
  Texts of this seat, put together: BackK5.
-/
import Derived.Test.YtnaangnmlbgmkaaGreatDoorMg26
import Derived.Test.YtnaangnmlbgmkaaGreatDoorMg22
/-
  Attributes that are put wide are read as they were: both Puts, and which kinds there are.
-/
namespace Go.Proofs.YtnaangnmlbgmkaaGreatDoor
set_option linter.unusedVariables false
set_option linter.unusedSimpArgs false
open Go.RowKit

theorem kinds_keep {ok : Nat → Bool} {wide : Bool} {k : Nat} : ∀ (n : Nat) (l : List UInt8) (S Sf : Rs), runK ok wide n l S Sf → k ∈ S.kinds → k ∈ Sf.kinds := by
  intro n
  induction n with
  | zero => intro l S Sf h hk; rw [← h.2]; exact hk
  | succ n ih =>
    intro l S Sf h hk
    rcases h with ⟨_, h⟩ | ⟨_, _, _, T, hs, h⟩
    · rw [← h]; exact hk
    · exact ih _ _ _ h (by rw [(step_kinds hs).2]; exact List.mem_append_left _ hk)
theorem step_p5 {wide : Bool} {S T : Rs} {p : Pa} (h : stepF wide S p = some T) (hc : S.pref ≠ -1 → 5 ∈ S.kinds) : T.pref ≠ -1 → 5 ∈ T.kinds := by
  have hk := (step_kinds h).2
  intro hn
  rw [hk]
  by_cases h5 : p.kind = 5
  · rw [h5]; simp
  · have e : T.pref = S.pref := by
      unfold stepF at h
      split at h
      · cases h
      · obtain ⟨U, hU, rfl⟩ := Option.map_eq_some_iff.1 h
        show U.pref = S.pref
        revert hU
        split <;> intro hU
        all_goals first
          | exact absurd (by assumption) h5
          | (split at hU <;> first | (cases hU; rfl) | cases hU | (split at hU <;> first | (cases hU; rfl) | cases hU) | (obtain ⟨r, _, rfl⟩ := Option.map_eq_some_iff.1 hU; rfl))
    rw [e] at hn
    exact List.mem_append_left _ (hc hn)
theorem pref_run {ok : Nat → Bool} {wide : Bool} : ∀ (n : Nat) (l : List UInt8) (S Sf : Rs), runK ok wide n l S Sf → (S.pref ≠ -1 → 5 ∈ S.kinds) → Sf.pref ≠ -1 → 5 ∈ Sf.kinds := by
  intro n
  induction n with
  | zero => intro l S Sf h hk; rw [← h.2]; exact hk
  | succ n ih =>
    intro l S Sf h hk
    rcases h with ⟨_, h⟩ | ⟨_, _, _, T, hs, h⟩
    · rw [← h]; exact hk
    · exact ih _ _ _ h (step_p5 hs hk)
theorem run_one {ok : Nat → Bool} {wide : Bool} {f k : Nat} {v r : List UInt8} {S Sf : Rs} (h : RunK ok wide (wholeL f k v ++ r) S Sf) (hf : f = 64 ∨ f = 128 ∨ f = 192 ∨ f = 224) (hk : k < 256) (hv : v.length < 65536) :
    ∃ T, k ∈ T.kinds ∧ RunK ok wide r T Sf := by
  have hne : ¬ (wholeL f k v ++ r = []) := by unfold wholeL; split <;> simp
  obtain ⟨_, _, T, hs, h2⟩ := h.step hne
  obtain ⟨f', _, he⟩ := nextA_whole (r := r) hf hk hv
  rw [he] at hs h2
  exact ⟨T, by rw [(step_kinds hs).2]; simp, h2⟩
theorem kinds3 {ok : Nat → Bool} {wide : Bool} {v1 v2 v3 r : List UInt8} {S Sf : Rs} (h : RunK ok wide (wholeL 64 1 v1 ++ (wholeL 64 2 v2 ++ (wholeL 64 3 v3 ++ r))) S Sf) (h1 : v1.length < 65536) (h2 : v2.length < 65536) (h3 : v3.length < 65536) :
    1 ∈ Sf.kinds ∧ 2 ∈ Sf.kinds ∧ 3 ∈ Sf.kinds := by
  obtain ⟨T1, k1, r1⟩ := run_one h (.inl rfl) (by decide) h1
  obtain ⟨T2, k2, r2⟩ := run_one r1 (.inl rfl) (by decide) h2
  obtain ⟨T3, k3, r3⟩ := run_one r2 (.inl rfl) (by decide) h3
  obtain ⟨n1, r1⟩ := r1
  obtain ⟨n2, r2⟩ := r2
  obtain ⟨n3, r3⟩ := r3
  exact ⟨kinds_keep _ _ _ _ r1 k1, kinds_keep _ _ _ _ r2 k2, kinds_keep _ _ _ _ r3 k3⟩
theorem kinds_len {ok : Nat → Bool} {wide : Bool} : ∀ (n : Nat) (l : List UInt8) (S Sf : Rs), runK ok wide n l S Sf → Sf.kinds.length ≤ S.kinds.length + l.length := by
  intro n
  induction n with
  | zero => intro l S Sf h; rw [← h.2]; omega
  | succ n ih =>
    intro l S Sf h
    rcases h with ⟨_, h⟩ | ⟨hl, _, _, T, hs, h⟩
    · rw [← h]; omega
    · have h1 := ih _ _ _ h
      have h2 := next_less hl
      rw [(step_kinds hs).2, List.length_append] at h1
      simp only [List.length_cons, List.length_nil] at h1
      omega
theorem putA_tiny5 (org next sa ad : Nat) (path : List Sg) (med pref : Int) (mm mp : Nat) (atomic has : Bool) (comms : List Nat) (raws : List Rw) (h3 : path.length ≤ 8) (h4 : totN path ≤ 64) (h5 : comms.length ≤ 32) (h6 : raws.length ≤ 8) (h7 : ∀ s ∈ raws, s.data.length ≤ 64) (wide : Bool) :
    (putA org next sa ad path med pref mm mp atomic has comms raws wide).length ≤ 5000 := by
  have p1 := putB_len wide path
  have p2 := putB_len true path
  have q1 := numsB_len true [next]
  have q2 := numsB_len true [mm]
  have q3 := numsB_len true [mp]
  have q4 := numsB_len true comms
  have q5 := aggrB_len wide sa ad
  have q6 := aggrB_len true sa ad
  have q7 := rawsB_len raws h7
  have o1 := oneB_len true 64 1 [UInt8.ofNat org]
  have o2 := oneB_len true 64 2 (putB wide path)
  have o3 := oneB_len true 64 3 (numsB true [next])
  have o4 := oneB_len (decide (0 ≤ med)) 128 4 (numsB true [mm])
  have o5 := oneB_len (decide (0 ≤ pref)) 64 5 (numsB true [mp])
  have o6 := oneB_len atomic 64 6 []
  have o7 := oneB_len has 192 7 (aggrB wide sa ad)
  have o8 := oneB_len (decide (0 < comms.length)) 192 8 (numsB true comms)
  have o9 := oneB_len (!wide && bigs (flatN path)) 192 17 (putB true path)
  have o10 := oneB_len (!wide && bigB sa) 192 18 (aggrB true sa ad)
  unfold putA
  simp only [List.length_append, List.length_cons, List.length_nil] at *
  omega
set_option maxHeartbeats 1600000 in
/-- Attributes that may be, put wide: what is read of it is the same. -/
theorem back_all5 (a : Av) (w : World) (ht : TabK w) (ha : AvArg w a) (hok : a.okB = true) (N : Nat) (hN : a.next = (N : Int)) (hnb : nextB N = true) :
    ∃ (d : List UInt8) (Sf : Rs), (∀ W, Below w.heap.size w W → Calls Tryz.prog 44 #[.agg a.row.toArray, .bool true] W (RetPut W d) ∧ Calls Tryz.prog 23 #[.agg a.row.toArray, .bool true] W (RetPut W d)) ∧ RunK (fun _ => true) true d rs0 Sf ∧ d.length ≤ 5000 ∧ (1 ∈ Sf.kinds ∧ 2 ∈ Sf.kinds ∧ 3 ∈ Sf.kinds) ∧ (0 ≤ a.pref → 5 ∈ Sf.kinds) ∧
      ∀ x : Av, x.org = (Sf.org : Int) → x.path.map Sg.abs = Sf.path → x.next = (Sf.next : Int) → x.med = Sf.med → x.pref = Sf.pref → x.atomic = Sf.atomic → x.has = Sf.has → x.aas = (Sf.aas : Int) → x.aad = (Sf.aad : Int) → x.comms = Sf.comms → x.raws.map Rw.abs = Sf.raws → x.same a = true ∧ x.path.length = a.path.length ∧ x.raws.length = a.raws.length := by
  obtain ⟨h1, h2, hr, h3, h4, h5, h6, hha, h7, h8, h9⟩ := okB_all hok
  have hre := raws_small a.raws (-1) h8
  have hre2 := raws_facts a.raws (-1) (Int.le_refl _) h8
  have hR := fun (W : World) (q : Below w.heap.size w W) => RefRight4_any a W ((ha.inn.below q (Nat.le_refl _)).lift q.size) (by omega) (by omega) (by omega)
  rw [hok] at hR
  obtain ⟨hin, hcm, hfit, _, hnx, haa, had, _, _, _⟩ := ha
  obtain ⟨org, pa, pc, path, next, med, pref, atomic, has, aas, aad, ca, cc, comms, ra, rc, raws⟩ := a
  dsimp only at h1 h2 hr h3 h4 h5 h6 hha h7 h8 h9 hre hre2 hcm hfit hnx haa had hN
  obtain ⟨O, rfl⟩ := Int.eq_ofNat_of_zero_le h1
  obtain ⟨SA, rfl⟩ := Int.eq_ofNat_of_zero_le haa.1
  obtain ⟨AD, rfl⟩ := Int.eq_ofNat_of_zero_le had.1
  subst hN
  obtain ⟨mm, hwm, hmm, hm2⟩ := u32_wrap_of med h5
  obtain ⟨mp, hwp, hmp, hp2⟩ := u32_wrap_of pref h6
  obtain ⟨ks, n, hrun⟩ := back4 O N SA AD path med pref mm mp atomic has comms raws true (by omega) hr (fun s hs => (hfit s hs).1) hnb (by omega) h5.1 hm2 hmm h6.1 hp2 hmp (fun e => by have := hha e; omega) (by omega) (by omega) h7 hcm h8 h9
  have hlp : (putB true path).length < 65536 := by
    have := putB_len true path
    omega
  have hK : RunK (fun _ => true) true (putA O N SA AD path med pref mm mp atomic has comms raws true) rs0 _ := ⟨n, Runs.all n _ _ _ hrun⟩
  have hK3 := hK
  have h1b : ∀ (f k : Nat) (v : List UInt8), oneB true f k v = wholeL f k v := fun f k v => if_pos rfl
  unfold putA at hK3
  simp only [List.nil_append, List.append_assoc, h1b] at hK3
  refine ⟨_, _, fun W q => ⟨PutA_ok O N SA AD pa pc path med pref atomic has ca cc comms ra rc raws mm mp true W (ht.below q ht.lt) ((hin.below q (Nat.le_refl _)).lift q.size) hok (by omega) (by omega) (by omega) (by omega) hwm hmm hwp hmp (by omega) (by omega) (by omega) hcm (by omega) hre, RefPut4_ok O N SA AD pa pc path med pref atomic has ca cc comms ra rc raws mm mp true W ((hin.below q (Nat.le_refl _)).lift q.size) (fun W' q' => hR W' (q.trans (q'.mono q.size))) (by omega) (by omega) (by omega) (by omega) hwm hmm hwp hmp (by omega) (by omega) (by omega) hcm (by omega) hre2⟩, hK, putA_tiny5 _ _ _ _ _ _ _ _ _ _ _ _ _ h3 h4 h7 h9 hre true, kinds3 hK3 (by show 1 < 65536; decide) hlp (by have h : (numsB true [N]).length ≤ 4 * 1 := numsB_len true [N]; exact Nat.lt_of_le_of_lt h (by decide)), fun h0 => pref_run n _ _ _ (Runs.all n _ _ _ hrun) (fun h => absurd rfl h) (by have h1 : 0 ≤ pref := h0; show pref ≠ -1; omega), ?_⟩
  intro x e1 e2 e3 e4 e5 e6 e7 e8 e9 e10 e11
  have hpath : path.map (narS true) = path.map Sg.abs := List.map_congr_left fun s _ => by
    unfold narS Sg.abs
    rw [show s.nums.map (nar true) = s.nums from by rw [show nar true = id from funext nar_wide]; exact List.map_id _]
  dsimp only at e1 e2 e3 e4 e5 e6 e7 e8 e9 e10 e11
  rw [hpath] at e2
  rw [nar_wide] at e8
  refine ⟨?_, by have := congrArg List.length e2; simpa using this, by have := congrArg List.length e11; simpa using this⟩
  unfold Av.same sameP sameRs
  dsimp only
  rw [e1, e3, e4, e5, e6, e7, e8, e9, e10, decide_eq_true e2, decide_eq_true e11]
  simp [sameZ]
end Go.Proofs.YtnaangnmlbgmkaaGreatDoor

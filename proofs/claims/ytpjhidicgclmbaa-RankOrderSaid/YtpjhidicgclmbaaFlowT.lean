/-
  A region that draws its order, and ends in operations that wait for all others: by an invariant, and the walk of its tail; no program stands here.
-/
import Derived.Test.YtpjhidicgclmbaaFlow
namespace Go.Proofs.Ytpjhidicgclmbaa
set_option linter.unusedVariables false
set_option linter.unusedSimpArgs false
open Go.RowKit

/-- From m on each operation waits for all that stand ahead of it, itself or by one that it waits for. -/
def tailB (ops : Array Oper) (m : Nat) : Bool :=
  (List.range ops.size).all fun j => decide (j < m) || match ops[j]? with
    | some o => (List.range j).all fun i => waitsB o i || (List.range j).any fun k => waitsB o k && match ops[k]? with
      | some ok => waitsB ok i
      | none => false
    | none => true
section
variable {P : Program} {ops : Array Oper}
theorem tail_spec {m : Nat} (h : tailB ops m = true) {j : Nat} {o : Oper} (hj : ops[j]? = some o) (hm : m ≤ j) {i : Nat} (hi : i < j) : waitsB o i = true ∨ ∃ (k : Nat) (ok : Oper), k < j ∧ ops[k]? = some ok ∧ waitsB o k = true ∧ waitsB ok i = true := by
  unfold tailB at h
  simp only [List.all_eq_true, List.mem_range] at h
  have h1 := h j (Array.getElem?_eq_some_iff.1 hj).1
  rw [hj] at h1
  simp only [Bool.or_eq_true, decide_eq_true_eq, List.all_eq_true, List.mem_range, List.any_eq_true, Bool.and_eq_true] at h1
  rcases h1 with h1 | h1
  · omega
  · rcases h1 i hi with h2 | ⟨k, hk, h3, h4⟩
    · exact .inl h2
    · right
      cases hok : ops[k]? with
      | none => rw [hok] at h4; cases h4
      | some ok => rw [hok] at h4; exact ⟨k, ok, hk, hok, h3, h4⟩
theorem waits_listed {o : Oper} {listed : Array Bool} (h : ∀ e ∈ o.after, Region.binds .any e = true → listed.getD e.on false = true) {k : Nat} (hk : waitsB o k = true) : listed.getD k false = true := by
  unfold waitsB at hk
  rw [Array.any_eq_true'] at hk
  obtain ⟨e, he, hb2⟩ := hk
  simp only [Bool.and_eq_true, beq_iff_eq] at hb2
  rw [← hb2.2]
  exact h e he hb2.1

/-- THE LAW. -/
theorem region_tail {Q : Exit → Act → World → Prop} {id : Nat} {a0 : Act} {w0 : World} (hm : P.follows .mixedOrders = true) (m : Nat)
    (D : Nat → World → Value → Prop) (R : World → World → Prop) (J : Act → World → Prop)
    (hD : ∀ i w w' v, D i w v → R w w' → D i w' v)
    (hshape : flowB ops a0.tmps.size = true) (htail : tailB ops m = true) (hmz : m < ops.size) (hJ0 : J a0 w0.drew)
    (hstep : ∀ (i : Nat) (o : Oper), i < m → ops[i]? = some o → ∀ (a : Act) (w : World), J a w → (∀ s, freeB ops s = true → a.tmps.getD s undef = a0.tmps.getD s undef) → a.tmps.size = a0.tmps.size →
      (∀ (j : Nat) (oj : Oper) (s : Tmp), ops[j]? = some oj → oj.dst = some s → waitsB o j = true → D j w (a.tmps.getD s undef)) → OpTo P o a.eval w (fun v w' => R w w' ∧ D i w' (seen o v) ∧ J (a.put o.dst v) w'))
    (hdone : ∀ (a : Act) (w : World), J a w → (∀ s, freeB ops s = true → a.tmps.getD s undef = a0.tmps.getD s undef) → a.tmps.size = a0.tmps.size → a.defers = a0.defers →
      (∀ (j : Nat) (oj : Oper), j < m → ops[j]? = some oj → D j w (slotOf oj a)) → wpList P ops Q (ops.toList.drop m) a w) :
    (Code.region id ops true).wp P Q a0 w0 := by
  obtain ⟨hg, hb, hn, hd⟩ := flow_spec hshape
  refine wp_region_any hm ?_
  refine wpAny_inv (fun listed a w => listed.size = ops.size ∧
    (((∀ j, m ≤ j → listed.getD j false = false) ∧ (∀ (j : Nat) (oj : Oper), ops[j]? = some oj → listed.getD j false = true → ∀ e ∈ oj.after, Region.binds .any e = true → listed.getD e.on false = true) ∧
      J a w ∧ (∀ s, freeB ops s = true → a.tmps.getD s undef = a0.tmps.getD s undef) ∧ a.tmps.size = a0.tmps.size ∧ a.defers = a0.defers ∧
      ∀ (j : Nat) (oj : Oper), ops[j]? = some oj → listed.getD j false = true → D j w (slotOf oj a)) ∨
     ∃ k, m ≤ k ∧ (∀ j, j < k → listed.getD j true = true) ∧ (∀ j, k ≤ j → listed.getD j false = false) ∧ wpList P ops Q (ops.toList.drop k) a w)) ?_ ?_ _ _ _ _ ?_ (by simp) ?_
  · rintro listed a w i o ⟨hs, hI⟩ hi ho
    have hm' := mem_ready.1 hi
    obtain ⟨o', ho', hw⟩ := hm'.2
    obtain rfl : o = o' := Option.some.inj (ho.symm.trans ho')
    have hil := (Array.getElem?_eq_some_iff.1 ho).1
    have hif : listed.getD i false = false := by
      have := hm'.1
      simp [hs, hil] at this ⊢
      exact this
    -- the tail's walk, one further
    have tail : ∀ k, k = i → m ≤ k → (∀ j, j < k → listed.getD j true = true) → (∀ j, k ≤ j → listed.getD j false = false) → wpList P ops Q (ops.toList.drop k) a w →
        wpOp P ops Q i (fun a' w' => (listed.setIfInBounds i true).size = ops.size ∧
          (((∀ j, m ≤ j → (listed.setIfInBounds i true).getD j false = false) ∧ (∀ (j : Nat) (oj : Oper), ops[j]? = some oj → (listed.setIfInBounds i true).getD j false = true → ∀ e ∈ oj.after, Region.binds .any e = true → (listed.setIfInBounds i true).getD e.on false = true) ∧
            J a' w' ∧ (∀ s, freeB ops s = true → a'.tmps.getD s undef = a0.tmps.getD s undef) ∧ a'.tmps.size = a0.tmps.size ∧ a'.defers = a0.defers ∧
            ∀ (j : Nat) (oj : Oper), ops[j]? = some oj → (listed.setIfInBounds i true).getD j false = true → D j w' (slotOf oj a')) ∨
           ∃ k, m ≤ k ∧ (∀ j, j < k → (listed.setIfInBounds i true).getD j true = true) ∧ (∀ j, k ≤ j → (listed.setIfInBounds i true).getD j false = false) ∧ wpList P ops Q (ops.toList.drop k) a' w')) a w := by
      rintro k rfl hmk h1 h2 hl
      have hlt : k < ops.toList.length := by simpa using hil
      have hoe : ops.toList[k] = o := by
        have := (Array.getElem?_eq_some_iff.1 ho).2
        simpa using this
      rw [List.drop_eq_getElem_cons hlt, hoe] at hl
      have go : wpOp P ops Q k (wpList P ops Q (ops.toList.drop (k + 1))) a w := by
        unfold wpOp
        rw [ho]
        exact hl
      refine wpOp_mono (fun a' w' h' => ⟨by simpa using hs, .inr ⟨k + 1, by omega, fun j hj => ?_, fun j hj => ?_, h'⟩⟩) go
      · by_cases e : j = k
        · subst e; simp [hs, hil]
        · have := h1 j (by omega)
          simpa [Array.getD_eq_getD_getElem?, Array.getElem?_setIfInBounds, Ne.symm e] using this
      · have := h2 j (by omega)
        have e : k ≠ j := by omega
        simpa [Array.getD_eq_getD_getElem?, Array.getElem?_setIfInBounds, e] using this
    rcases hI with ⟨hnl, hcl, hJ, hf, hz, hdf, hl⟩ | ⟨k, hmk, h1, h2, hlst⟩
    · by_cases him : i < m
      · unfold wpOp
        rw [ho]
        have hwant : Region.wanted o (yielded ops a.tmps) = true := by simp [Region.wanted, hg i o ho]
        simp only [hwant, if_true]
        refine .inl (opTo_wp (hstep i o him ho a w hJ hf hz (fun j oj s hj hjs hwt => ?_)) ?_)
        · have := hl j oj hj (waits_listed hw hwt)
          unfold slotOf at this
          rw [hjs] at this
          exact this
        · rintro v w' ⟨hR, hDi, hJ'⟩
          have other : ∀ s, o.dst ≠ some s → (a.put o.dst v).tmps.getD s undef = a.tmps.getD s undef := by
            intro s hs'
            cases hdst : o.dst with
            | none => rfl
            | some d =>
              have hne : d ≠ s := fun e => hs' (by rw [hdst, e])
              simp [Act.put, Array.getD_eq_getD_getElem?, Array.getElem?_setIfInBounds, hne]
          refine ⟨by simpa using hs, .inl ⟨fun j hj => ?_, fun j oj hj hlj e he hbe => ?_, hJ', fun s hsf => ?_, ?_, ?_, fun j oj hj hlj => ?_⟩⟩
          · have := hnl j hj
            have e : i ≠ j := by omega
            simpa [Array.getD_eq_getD_getElem?, Array.getElem?_setIfInBounds, e] using this
          · have h6 : listed.getD e.on false = true := by
              by_cases hji : j = i
              · subst hji
                obtain rfl : o = oj := Option.some.inj (ho.symm.trans hj)
                exact hw e he hbe
              · refine hcl j oj hj ?_ e he hbe
                simpa [Array.getD_eq_getD_getElem?, Array.getElem?_setIfInBounds, Ne.symm hji] using hlj
            by_cases he2 : i = e.on
            · rw [← he2] at h6; rw [hif] at h6; cases h6
            · simpa [Array.getD_eq_getD_getElem?, Array.getElem?_setIfInBounds, he2] using h6
          · rw [other s ?_]
            · exact hf s hsf
            · intro e
              unfold freeB at hsf
              have := List.all_eq_true.1 hsf o (Array.mem_toList_iff.2 (Array.mem_of_getElem? ho))
              simp [e] at this
          · rw [← hz]
            cases o.dst <;> simp [Act.put]
          · rw [← hdf]
            cases o.dst <;> rfl
          · by_cases hji : j = i
            · subst hji
              obtain rfl : o = oj := Option.some.inj (ho.symm.trans hj)
              unfold seen at hDi
              unfold slotOf
              cases hdst : o.dst with
              | none => rw [hdst] at hDi; exact hDi
              | some d =>
                rw [hdst] at hDi
                have hlt : d < a.tmps.size := by rw [hz]; exact hn j o d ho hdst
                simpa [Act.put, Array.getD_eq_getD_getElem?, Array.getElem?_setIfInBounds, hlt] using hDi
            · have hlj' : listed.getD j false = true := by
                simpa [Array.getD_eq_getD_getElem?, Array.getElem?_setIfInBounds, Ne.symm hji] using hlj
              have h3 := hD j w w' _ (hl j oj hj hlj') hR
              unfold slotOf at h3 ⊢
              cases hdj : oj.dst with
              | none => rw [hdj] at h3; exact h3
              | some s =>
                rw [hdj] at h3
                simp only at h3 ⊢
                rw [other s (fun e => hji (hd j i oj o s hj ho hdj e))]
                exact h3
      · -- the tail begins
        have hall : ∀ j, j < i → listed.getD j false = true := by
          intro j hj
          rcases tail_spec htail ho (by omega) hj with h5 | ⟨k, ok, hk, hok, h6, h7⟩
          · exact waits_listed hw h5
          · exact waits_listed (hcl k ok hok (waits_listed hw h6)) h7
        have hmi : i = m := by
          rcases Nat.lt_or_ge m i with h8 | h8
          · have h9 := hall m h8
            rw [hnl m (Nat.le_refl _)] at h9
            cases h9
          · omega
        subst hmi
        refine tail i rfl (Nat.le_refl _) (fun j hj => ?_) (fun j hj => hnl j hj) (hdone a w hJ hf hz hdf fun j oj hj hoj => hl j oj hoj (hall j hj))
        have h10 := hall j hj
        have hjz : j < listed.size := by omega
        simp [hjz] at h10 ⊢
        exact h10
    · have hki : k = i := by
        rcases Nat.lt_trichotomy k i with h3 | h3 | h3
        · rcases tail_spec htail ho (by omega) h3 with h5 | ⟨k', ok, hk', hok, h6, h7⟩
          · have := waits_listed hw h5
            rw [h2 k (Nat.le_refl _)] at this; cases this
          · have h8 := waits_listed hw h6
            rcases Nat.lt_or_ge k' k with h9 | h9
            · have h10 := hb k' ok hok
              unfold waitsB at h7
              rw [Array.any_eq_true'] at h7
              obtain ⟨e, he, hb2⟩ := h7
              simp only [Bool.and_eq_true, beq_iff_eq] at hb2
              have := h10 e he
              omega
            · rw [h2 k' h9] at h8; cases h8
        · exact h3
        · have h11 := h1 i h3
          rw [hm'.1] at h11; cases h11
      exact tail k hki hmk h1 h2 hlst
  · rintro listed a w ⟨hs, hI⟩ hr
    have hal := ready_nil_all hs hb hr
    rcases hI with ⟨hnl, _⟩ | ⟨k, hmk, h1, h2, hlst⟩
    · have := hal m hmz
      rw [hnl m (Nat.le_refl _)] at this
      cases this
    · have hk : ops.size ≤ k := by
        rcases Nat.lt_or_ge k ops.size with h3 | h3
        · have := hal k h3
          rw [h2 k (Nat.le_refl _)] at this; cases this
        · exact h3
      rw [List.drop_eq_nil_of_le (by simpa using hk)] at hlst
      exact hlst
  · unfold leftN; simp
  · refine ⟨by simp, .inl ⟨fun j hj => ?_, fun j oj hj hl => ?_, hJ0, fun _ _ => rfl, rfl, rfl, fun j oj hj hl => ?_⟩⟩
    · by_cases hlt : j < ops.size
      · simp [hlt]
      · simp [Array.getElem?_eq_none (show (Array.replicate ops.size false).size ≤ j by simp; omega)]
    · exfalso
      have hlt := (Array.getElem?_eq_some_iff.1 hj).1
      simp [hlt] at hl
    · exfalso
      have hlt := (Array.getElem?_eq_some_iff.1 hj).1
      simp [hlt] at hl
theorem act_eq {A : Act} {t : Array Value} (hd : A.defers = []) (hs : A.tmps.size = t.size) (h : ∀ s, s < t.size → A.tmps.getD s undef = t.getD s undef) : A = { tmps := t, defers := [] } := by
  obtain ⟨at_, ad⟩ := A
  simp only at hd hs h
  subst hd
  congr 1
  apply Array.ext hs
  intro i h1 h2
  have := h i h2
  simpa [h1, h2] using this
end
end Go.Proofs.Ytpjhidicgclmbaa

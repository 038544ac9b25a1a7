/-
  A region that draws its order, by an invariant: each operation's value is told of the operations that it waits for, whatever else has been done; no program stands here.
-/
import Derived.Orders
import Derived.Test.YtpjhidicgclmbaaBase
namespace Go.Proofs.Ytpjhidicgclmbaa
set_option linter.unusedVariables false
set_option linter.unusedSimpArgs false

/-- What one operation comes to: some value in some world, of which Post holds. -/
def OpTo (P : Program) (o : Oper) (ev : Operand → Value) (w : World) (Post : Value → World → Prop) : Prop :=
  match (execOp ev o).run P w with
  | .ok (.value v) w' => Post v w'
  | .ok .skip w' => Post undef w'
  | .ok (.enter f args) w' => w' = w ∧ Calls P f args w fun e w'' => ∃ v, e = .returned v ∧ Post v w''
  | _ => False
theorem opTo_wp {P : Program} {o : Oper} {a : Act} {w : World} {Post : Value → World → Prop} {K : Act → World → Prop} {Q : Exit → Act → World → Prop} (h : OpTo P o a.eval w Post) (hK : ∀ v w', Post v w' → K (a.put o.dst v) w') : o.wp P a w K Q := by
  unfold OpTo at h
  unfold Oper.wp
  generalize (execOp a.eval o).run P w = r at h
  split at h
  · rw [Oper.upon_value]; exact hK _ _ h
  · rw [Oper.upon_skip]; exact hK _ _ h
  · obtain ⟨rfl, h⟩ := h
    rw [Oper.upon_enter]
    refine h.mono ?_
    rintro e w'' ⟨v, rfl, hp⟩
    exact hK _ _ hp
  · exact h.elim

/-- Nothing is guarded, each operation waits for earlier ones alone, and each writes a slot of its own. -/
def flowB (ops : Array Oper) (n : Nat) : Bool :=
  (ops.toList.all fun o => o.guard.isNone) && ((List.range ops.size).all fun j => match ops[j]? with
    | some o => (o.after.all fun e => decide (e.on < j)) && (match o.dst with
      | none => true
      | some s => decide (s < n) && ((List.range j).all fun i => match ops[i]? with
        | some o' => !(o'.dst == some s)
        | none => true))
    | none => true)
/-- No operation writes the slot s. -/
def freeB (ops : Array Oper) (s : Nat) : Bool := ops.toList.all fun o => !(o.dst == some s)
/-- The slot that an operation writes. -/
def slotOf (o : Oper) (a : Act) : Value := match o.dst with
  | some s => a.tmps.getD s undef
  | none => undef
/-- What a slot sees of a value. -/
def seen (o : Oper) (v : Value) : Value := match o.dst with
  | some _ => v
  | none => undef
def waitsB (o : Oper) (j : Nat) : Bool := o.after.any fun e => Region.binds .any e && e.on == j

section
variable {P : Program} {ops : Array Oper}
theorem flow_spec {n : Nat} (h : flowB ops n = true) : (∀ (i : Nat) (o : Oper), ops[i]? = some o → o.guard = none) ∧ (∀ (j : Nat) (o : Oper), ops[j]? = some o → ∀ e ∈ o.after, e.on < j) ∧ (∀ (j : Nat) (o : Oper) (s : Tmp), ops[j]? = some o → o.dst = some s → s < n) ∧
    ∀ (i j : Nat) (o o' : Oper) (s : Tmp), ops[i]? = some o → ops[j]? = some o' → o.dst = some s → o'.dst = some s → i = j := by
  unfold flowB at h
  simp only [Bool.and_eq_true, List.all_eq_true, List.mem_range] at h
  obtain ⟨h1, h2⟩ := h
  have at_ : ∀ (j : Nat) (o : Oper), ops[j]? = some o → (∀ e ∈ o.after, e.on < j) ∧ ∀ s, o.dst = some s → s < n ∧ ∀ i, i < j → ∀ o' : Oper, ops[i]? = some o' → o'.dst ≠ some s := by
    intro j o hj
    have hlt := (Array.getElem?_eq_some_iff.1 hj).1
    have h3 := h2 j hlt
    rw [hj] at h3
    simp only [Bool.and_eq_true] at h3
    obtain ⟨h4, h5⟩ := h3
    refine ⟨fun e he => by simpa using (Array.all_eq_true_iff_forall_mem.1 h4) e he, fun s hs => ?_⟩
    rw [hs] at h5
    simp only [Bool.and_eq_true, decide_eq_true_eq, List.all_eq_true, List.mem_range] at h5
    refine ⟨h5.1, fun i hi o' ho' e => ?_⟩
    have h6 := h5.2 i hi
    rw [ho'] at h6
    simp [e] at h6
  refine ⟨fun i o hi => ?_, fun j o hj => (at_ j o hj).1, fun j o s hj hs => ((at_ j o hj).2 s hs).1, fun i j o o' s hi hj hs hs' => ?_⟩
  · have := h1 o (Array.mem_toList_iff.2 (Array.mem_of_getElem? hi))
    simpa using this
  · rcases Nat.lt_trichotomy i j with h7 | h7 | h7
    · exact absurd hs (((at_ j o' hj).2 s hs').2 i h7 o hi)
    · exact h7
    · exact absurd hs' (((at_ i o hi).2 s hs).2 j h7 o' hj)

theorem ready_nil_all {listed : Array Bool} (hs : listed.size = ops.size) (hb : ∀ (j : Nat) (o : Oper), ops[j]? = some o → ∀ e ∈ o.after, e.on < j) (hr : Region.ready .any ops listed = []) : ∀ j, j < ops.size → listed.getD j false = true := by
  intro j
  induction j using Nat.strongRecOn with
  | _ j ih =>
    intro hj
    cases hl : listed.getD j false with
    | true => rfl
    | false =>
      exfalso
      have hmem : j ∈ Region.ready .any ops listed := by
        rw [mem_ready]
        refine ⟨getD_in' (by omega) hl, ops[j], Array.getElem?_eq_getElem hj, fun e he _ => ?_⟩
        have h2 := hb j ops[j] (Array.getElem?_eq_getElem hj) e he
        exact ih e.on h2 (by omega)
      rw [hr] at hmem
      cases hmem
where
  getD_in' {listed : Array Bool} {i : Nat} (hi : i < listed.size) (h : listed.getD i false = false) : listed.getD i true = false := by
    simp [hi] at h ⊢; exact h

def leftN (listed : Array Bool) : Nat := listed.toList.count false
theorem leftN_set {listed : Array Bool} {i : Nat} (h : listed.getD i true = false) : leftN (listed.setIfInBounds i true) + 1 = leftN listed := by
  have hi : i < listed.size := by
    rcases Nat.lt_or_ge i listed.size with h' | h'
    · exact h'
    · simp [Array.getElem?_eq_none h'] at h
  have hv : listed.toList[i]'(by simpa using hi) = false := by
    simp [hi] at h
    simpa using h
  unfold leftN
  rw [Array.toList_setIfInBounds, List.count_set (by simpa using hi), hv]
  have hc : 0 < listed.toList.count false := List.count_pos_iff.2 (by rw [← hv]; exact List.getElem_mem _)
  have e1 : (if (false == false) = true then 1 else 0) = 1 := rfl
  have e2 : (if (true == false) = true then 1 else 0) = 0 := rfl
  rw [e1, e2]
  omega

theorem wpAny_inv {Q : Exit → Act → World → Prop} (I : Array Bool → Act → World → Prop)
    (hstep : ∀ (listed : Array Bool) (a : Act) (w : World) (i : Nat) (o : Oper), I listed a w → i ∈ Region.ready .any ops listed → ops[i]? = some o → wpOp P ops Q i (fun a' w' => I (listed.setIfInBounds i true) a' w') a w)
    (hdone : ∀ listed a w, I listed a w → Region.ready .any ops listed = [] → Q .normal a w) :
    ∀ (fuel : Nat) (listed : Array Bool) (a : Act) (w : World), leftN listed ≤ fuel → listed.size = ops.size → I listed a w → wpAny P .any ops Q fuel listed a w
  | 0, listed, a, w, hf, hs, hI => by
    have hr : Region.ready .any ops listed = [] := by
      apply List.eq_nil_iff_forall_not_mem.2
      intro i hi
      have := leftN_set (mem_ready.1 hi).1
      omega
    exact ⟨hr, hdone _ _ _ hI hr⟩
  | fuel + 1, listed, a, w, hf, hs, hI => by
    refine ⟨fun hr => hdone _ _ _ hI hr, fun i hi => ?_⟩
    have hm := mem_ready.1 hi
    obtain ⟨o, ho, _⟩ := hm.2
    have h1 := leftN_set hm.1
    exact wpOp_mono (fun a' w' h' => wpAny_inv I hstep hdone fuel _ a' w' (by omega) (by simpa using hs) h') (hstep _ _ _ _ _ hI hi ho)

/-- THE LAW. -/
theorem region_flow {Q : Exit → Act → World → Prop} {id : Nat} {a0 : Act} {w0 : World} (hm : P.follows .mixedOrders = true)
    (D : Nat → World → Value → Prop) (R : World → World → Prop) (Inv : World → Prop)
    (hD : ∀ i w w' v, D i w v → R w w' → D i w' v) (hI : ∀ w w', Inv w → R w w' → Inv w')
    (hshape : flowB ops a0.tmps.size = true) (hI0 : Inv w0.drew)
    (hstep : ∀ (i : Nat) (o : Oper), ops[i]? = some o → ∀ (a : Act) (w : World), Inv w → (∀ s, freeB ops s = true → a.tmps.getD s undef = a0.tmps.getD s undef) →
      (∀ (j : Nat) (oj : Oper) (s : Tmp), ops[j]? = some oj → oj.dst = some s → waitsB o j = true → D j w (a.tmps.getD s undef)) → OpTo P o a.eval w (fun v w' => R w w' ∧ D i w' (seen o v)))
    (hdone : ∀ (a : Act) (w : World), Inv w → (∀ s, freeB ops s = true → a.tmps.getD s undef = a0.tmps.getD s undef) → a.tmps.size = a0.tmps.size → a.defers = a0.defers →
      (∀ (j : Nat) (oj : Oper), ops[j]? = some oj → D j w (slotOf oj a)) → Q .normal a w) :
    (Code.region id ops true).wp P Q a0 w0 := by
  obtain ⟨hg, hb, hn, hd⟩ := flow_spec hshape
  refine wp_region_any hm ?_
  refine wpAny_inv (fun listed a w => listed.size = ops.size ∧ Inv w ∧ (∀ s, freeB ops s = true → a.tmps.getD s undef = a0.tmps.getD s undef) ∧ a.tmps.size = a0.tmps.size ∧ a.defers = a0.defers ∧
    ∀ (j : Nat) (oj : Oper), ops[j]? = some oj → listed.getD j false = true → D j w (slotOf oj a)) ?_ ?_ _ _ _ _ ?_ (by simp) ?_
  · rintro listed a w i o ⟨hs, hInv, hf, hz, hdf, hl⟩ hi ho
    have hm' := mem_ready.1 hi
    obtain ⟨o', ho', hw⟩ := hm'.2
    obtain rfl : o = o' := Option.some.inj (ho.symm.trans ho')
    unfold wpOp
    rw [ho]
    have hwant : Region.wanted o (yielded ops a.tmps) = true := by simp [Region.wanted, hg i o ho]
    simp only [hwant, if_true]
    refine .inl (opTo_wp (hstep i o ho a w hInv hf (fun j oj s hj hjs hwt => ?_)) ?_)
    · unfold waitsB at hwt
      rw [Array.any_eq_true'] at hwt
      obtain ⟨e, he, hb2⟩ := hwt
      simp only [Bool.and_eq_true, beq_iff_eq] at hb2
      have := hl j oj hj (by rw [← hb2.2]; exact hw e he hb2.1)
      unfold slotOf at this
      rw [hjs] at this
      exact this
    · rintro v w' ⟨hR, hDi⟩
      have other : ∀ s, o.dst ≠ some s → (a.put o.dst v).tmps.getD s undef = a.tmps.getD s undef := by
        intro s hs'
        cases hdst : o.dst with
        | none => rfl
        | some d =>
          have hne : d ≠ s := fun e => hs' (by rw [hdst, e])
          simp [Act.put, Array.getD_eq_getD_getElem?, Array.getElem?_setIfInBounds, hne]
      refine ⟨by simpa using hs, hI _ _ hInv hR, fun s hsf => ?_, ?_, ?_, fun j oj hj hlj => ?_⟩
      · rw [other s ?_]
        · exact hf s hsf
        · intro e
          unfold freeB at hsf
          have := List.all_eq_true.1 hsf o (Array.mem_toList_iff.2 (Array.mem_of_getElem? ho))
          simp [e] at this
      · rw [← hz]
        cases o.dst <;> simp [Act.put]
      · rw [← hdf]
        cases o.dst <;> rfl
      · by_cases hji : j = i
        · subst hji
          obtain rfl : o = oj := Option.some.inj (ho.symm.trans hj)
          unfold seen at hDi
          unfold slotOf
          cases hdst : o.dst with
          | none => rw [hdst] at hDi; exact hDi
          | some d =>
            rw [hdst] at hDi
            have hlt : d < a.tmps.size := by rw [hz]; exact hn j o d ho hdst
            simpa [Act.put, Array.getD_eq_getD_getElem?, Array.getElem?_setIfInBounds, hlt] using hDi
        · have hlj' : listed.getD j false = true := by
            simpa [Array.getD_eq_getD_getElem?, Array.getElem?_setIfInBounds, Ne.symm hji] using hlj
          have h3 := hD j w w' _ (hl j oj hj hlj') hR
          unfold slotOf at h3 ⊢
          cases hdj : oj.dst with
          | none => rw [hdj] at h3; exact h3
          | some s =>
            rw [hdj] at h3
            simp only at h3 ⊢
            rw [other s (fun e => hji (hd j i oj o s hj ho hdj e))]
            exact h3
  · rintro listed a w ⟨hs, hInv, hf, hz, hdf, hl⟩ hr
    exact hdone a w hInv hf hz hdf fun j oj hj => hl j oj hj (ready_nil_all hs hb hr j (Array.getElem?_eq_some_iff.1 hj).1)
  · unfold leftN; simp
  · refine ⟨by simp, hI0, fun _ _ => rfl, rfl, rfl, fun j oj hj hl => ?_⟩
    exfalso
    have hlt := (Array.getElem?_eq_some_iff.1 hj).1
    simp [hlt] at hl
end
end Go.Proofs.Ytpjhidicgclmbaa

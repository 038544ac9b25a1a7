/-
  What holds of a table's cursors, whatever is done: pure.
-/
import Derived.Test.YtgaoonnokhlgjaaRefO26
import Derived.Test.YtgaoonnokhlgjaaOpen26
namespace Go.Proofs.Ytgaoonnokhlgjaa
set_option linter.unusedVariables false
set_option linter.unusedSimpArgs false
open Go.RowKit

structure Good (mo li la : Int) (L : List Cu) : Prop where
  len : (L.length : Int) ≤ mo
  moB : 0 ≤ mo ∧ mo ≤ 8
  liB : 1 ≤ li ∧ li ≤ 9223372036854775807
  ids : L.Pairwise fun a b => a.id < b.id
  last : ∀ c ∈ L, 1 ≤ c.id ∧ c.id ≤ la
  age : ∀ c ∈ L, 0 ≤ c.age ∧ c.age < li
theorem Good.short {mo li la : Int} {L : List Cu} (h : Good mo li la L) : L.length ≤ 8 := by have := h.len; have := h.moB; omega
theorem Good.nil {mo li : Int} (hm : 0 ≤ mo ∧ mo ≤ 8) (hl : 1 ≤ li ∧ li ≤ 9223372036854775807) : Good mo li 0 [] := ⟨by simp; exact hm.1, hm, hl, List.Pairwise.nil, (fun c hc => by cases hc), (fun c hc => by cases hc)⟩
theorem Good.up {mo li la la' : Int} {L : List Cu} (h : Good mo li la L) (hl : la ≤ la') : Good mo li la' L := ⟨h.len, h.moB, h.liB, h.ids, fun c hc => ⟨(h.last c hc).1, Int.le_trans (h.last c hc).2 hl⟩, h.age⟩
theorem Good.filter {mo li la : Int} {L : List Cu} (h : Good mo li la L) (p : Cu → Bool) : Good mo li la (L.filter p) :=
  ⟨by have := h.len; have := List.length_filter_le p L; omega, h.moB, h.liB, h.ids.sublist (List.filter_sublist), fun c hc => h.last c (List.mem_filter.1 hc).1, fun c hc => h.age c (List.mem_filter.1 hc).1⟩
theorem Good.same {mo li la : Int} {L : List Cu} (h : Good mo li la L) {j k : Nat} {a b : Cu} (ha : L[j]? = some a) (hb : L[k]? = some b) (he : a.id = b.id) : j = k := by
  obtain ⟨hj, rfl⟩ := List.getElem?_eq_some_iff.1 ha
  obtain ⟨hk, rfl⟩ := List.getElem?_eq_some_iff.1 hb
  have hp := List.pairwise_iff_getElem.1 h.ids
  rcases Nat.lt_trichotomy j k with h1 | h1 | h1
  · have := hp j k hj hk h1; omega
  · exact h1
  · have := hp k j hk hj h1; omega
theorem hit_id {o i : Int} {c : Cu} (h : hitU o i c = true) : c.id = i ∧ c.owner = o := by
  unfold hitU at h
  simpa using h
/-- The one of a number stands where it stands. -/
theorem Good.pos {mo li la : Int} {L : List Cu} (h : Good mo li la L) {k : Nat} {c : Cu} (hc : L[k]? = some c) : posU L c.owner c.id = some k := by
  refine posU_at hc (by unfold hitU; simp) fun x hx => ?_
  obtain ⟨j, hj, rfl⟩ := List.mem_take_iff_getElem.1 hx
  cases hh : hitU c.owner c.id L[j] with
  | false => rfl
  | true =>
    have := h.same (List.getElem?_eq_getElem (show j < L.length by omega)) hc (hit_id hh).1
    omega
/-! ### Open -/
theorem over_cons {mo : Int} {y : Cu} {t : List Cu} (hp : (y :: t).Pairwise fun a b => a.id < b.id) (hov : mo < ((y :: t).length : Int)) :
    ((y :: t).filter fun x => overU mo (y :: t) x) = [y] ∧ ((y :: t).filter fun x => !overU mo (y :: t) x) = t := by
  have hd : ∀ x, overU mo (y :: t) x = (x.id == y.id) := fun x => by
    unfold overU leastId
    rw [decide_eq_true hov]
    rfl
  have ht : ∀ x ∈ t, (x.id == y.id) = false := fun x hx => by
    have := (List.pairwise_cons.1 hp).1 x hx
    simp; omega
  constructor
  · rw [List.filter_cons_of_pos (by rw [hd]; simp)]
    rw [List.filter_eq_nil_iff.2 (fun x hx => by rw [hd, ht x hx]; simp)]
  · rw [List.filter_cons_of_neg (by rw [hd]; simp)]
    exact List.filter_eq_self.2 (fun x hx => by rw [hd, ht x hx]; rfl)
/-- What Open makes of the cursors: those that are there, and those that went. -/
structure OpenTo (mo la : Int) (L : List Cu) (c : Cu) (L' G : List Cu) : Prop where
  how : (mo < (L.length : Int) + 1 ∧ L' = (L ++ [openedU c (la + 1)]).drop 1 ∧ G = (L ++ [openedU c (la + 1)]).take 1) ∨ (¬ mo < (L.length : Int) + 1 ∧ L' = L ++ [openedU c (la + 1)] ∧ G = [])
  stay : ((L ++ [openedU c (la + 1)]).filter fun x => !overU mo (L ++ [openedU c (la + 1)]) x) = L'
  went : ((L ++ [openedU c (la + 1)]).filter fun x => overU mo (L ++ [openedU c (la + 1)]) x) = G
theorem app_ids {mo li la : Int} {L : List Cu} (h : Good mo li la L) (c : Cu) : (L ++ [openedU c (la + 1)]).Pairwise fun a b => a.id < b.id := by
  refine List.pairwise_append.2 ⟨h.ids, List.pairwise_singleton _ _, fun a ha b hb => ?_⟩
  rw [List.mem_singleton.1 hb]
  have := (h.last a ha).2
  show a.id < la + 1
  omega
theorem open_to {mo li la : Int} {L : List Cu} (h : Good mo li la L) (hla : 0 ≤ la) (c : Cu) : ∃ L' G, OpenTo mo la L c L' G ∧ Good mo li (la + 1) L' ∧ (∀ x ∈ G, x ∈ L ∨ x = openedU c (la + 1)) ∧ (∀ x ∈ L', x ∈ L ∨ x = openedU c (la + 1)) ∧ G.length ≤ 1 ∧ (0 < mo → openedU c (la + 1) ∈ L') := by
  have hp := app_ids h c
  have hmem : ∀ x ∈ L ++ [openedU c (la + 1)], x ∈ L ∨ x = openedU c (la + 1) := fun x hx => by
    rcases List.mem_append.1 hx with hx | hx
    · exact .inl hx
    · exact .inr (List.mem_singleton.1 hx)
  have hlast : ∀ x ∈ L ++ [openedU c (la + 1)], 1 ≤ x.id ∧ x.id ≤ la + 1 := fun x hx => by
    rcases hmem x hx with hx | rfl
    · have := h.last x hx; omega
    · show 1 ≤ la + 1 ∧ la + 1 ≤ la + 1
      omega
  have hage : ∀ x ∈ L ++ [openedU c (la + 1)], 0 ≤ x.age ∧ x.age < li := fun x hx => by
    rcases hmem x hx with hx | rfl
    · exact h.age x hx
    · have := h.liB
      show (0 : Int) ≤ 0 ∧ 0 < li
      omega
  by_cases hov : mo < (L.length : Int) + 1
  · refine ⟨(L ++ [openedU c (la + 1)]).drop 1, (L ++ [openedU c (la + 1)]).take 1, ⟨.inl ⟨hov, rfl, rfl⟩, ?_, ?_⟩, ⟨?_, h.moB, h.liB, hp.sublist (List.drop_sublist _ _), fun x hx => hlast x (List.mem_of_mem_drop hx), fun x hx => hage x (List.mem_of_mem_drop hx)⟩, fun x hx => hmem x (List.mem_of_mem_take hx), fun x hx => hmem x (List.mem_of_mem_drop hx), by rw [List.length_take]; omega, fun hm => ?_⟩
    · cases L with
      | nil => exact (over_cons (t := []) hp (by simpa using hov)).2
      | cons y t => exact (over_cons (t := t ++ [openedU c (la + 1)]) hp (by simpa using hov)).2
    · cases L with
      | nil => exact (over_cons (t := []) hp (by simpa using hov)).1
      | cons y t => exact (over_cons (t := t ++ [openedU c (la + 1)]) hp (by simpa using hov)).1
    · rw [List.length_drop, List.length_append]
      have := h.len
      simp
      omega
    · cases L with
      | nil => simp at hov; omega
      | cons y t => simp
  · have hd : ∀ x, overU mo (L ++ [openedU c (la + 1)]) x = false := fun x => by
      unfold overU
      rw [show decide (mo < ((L ++ [openedU c (la + 1)]).length : Int)) = false from decide_eq_false (by simpa using hov)]
      rfl
    refine ⟨L ++ [openedU c (la + 1)], [], ⟨.inr ⟨hov, rfl, rfl⟩, List.filter_eq_self.2 (fun x _ => by rw [hd]; rfl), List.filter_eq_nil_iff.2 (fun x _ => by rw [hd]; simp)⟩, ⟨by simp; omega, h.moB, h.liB, hp, hlast, hage⟩, (fun x hx => by cases hx), hmem, (by simp), (fun _ => by simp)⟩
/-! ### Move -/
theorem Good.moved {mo li la : Int} {L : List Cu} (h : Good mo li la L) {k : Nat} {c : Cu} (hc : L[k]? = some c) (a l : Int) : Good mo li la (L.set k (movedU c a l)) := by
  have hm : ∀ x ∈ L.set k (movedU c a l), x ∈ L ∨ x = movedU c a l := fun x hx => List.mem_or_eq_of_mem_set hx
  have hcm := List.mem_of_getElem? hc
  obtain ⟨hk, rfl⟩ := List.getElem?_eq_some_iff.1 hc
  refine ⟨by rw [List.length_set]; exact h.len, h.moB, h.liB, ?_, fun x hx => ?_, fun x hx => ?_⟩
  · have hp := List.pairwise_iff_getElem.1 h.ids
    refine List.pairwise_iff_getElem.2 fun i j hi hj hij => ?_
    rw [List.length_set] at hi hj
    have h0 := hp i j hi hj hij
    rw [List.getElem_set, List.getElem_set]
    by_cases e1 : k = i
    · subst e1
      rw [if_pos rfl, if_neg (by omega)]
      exact h0
    · by_cases e2 : k = j
      · subst e2
        rw [if_neg e1, if_pos rfl]
        exact h0
      · rw [if_neg e1, if_neg e2]
        exact h0
  · rcases hm x hx with hx | rfl
    · exact h.last x hx
    · have := h.last L[k] hcm
      exact this
  · rcases hm x hx with hx | rfl
    · exact h.age x hx
    · have := h.liB
      show (0 : Int) ≤ 0 ∧ 0 < li
      omega
theorem move_none {L : List Cu} {o i a l : Int} (h : posU L o i = none) : L.map (moveU o i a l) = L ∧ L.any (hitU o i) = false := by
  have hno : ∀ x ∈ L, hitU o i x = false := by
    unfold posU at h
    exact List.findIdx?_eq_none_iff.1 h
  refine ⟨?_, List.any_eq_false.2 (fun x hx => by rw [hno x hx]; simp)⟩
  conv => rhs; rw [← List.map_id L]
  exact List.map_congr_left fun x hx => by unfold moveU; rw [hno x hx]; rfl
theorem move_some {mo li la : Int} {L : List Cu} (h : Good mo li la L) {o i a l : Int} {k : Nat} {c : Cu} (hk : posU L o i = some k) (hc : L[k]? = some c) : L.map (moveU o i a l) = L.set k (movedU c a l) ∧ L.any (hitU o i) = true := by
  obtain ⟨c', hc', hh⟩ := posU_some hk
  obtain rfl : c = c' := by rw [hc] at hc'; exact Option.some.inj hc'
  refine ⟨?_, List.any_eq_true.2 ⟨c, List.mem_of_getElem? hc, hh⟩⟩
  apply List.ext_getElem?
  intro j
  rw [List.getElem?_map, List.getElem?_set]
  by_cases e : k = j
  · subst e
    rw [if_pos rfl, if_pos (List.getElem?_eq_some_iff.1 hc).1, hc]
    simp [moveU, hh]
  · rw [if_neg e]
    cases hj : L[j]? with
    | none => rfl
    | some x =>
      simp only [Option.map_some]
      unfold moveU
      cases hx : hitU o i x with
      | false => rfl
      | true => exact absurd (h.same hc hj ((hit_id hh).1.trans (hit_id hx).1.symm)) e
/-! ### Tick -/
theorem Good.tick {mo li la : Int} {L : List Cu} (h : Good mo li la L) : Good mo li la ((L.map older).filter fun c => !(c.age == li)) ∧ ((L.map older).filter fun c => !(decide (li ≤ c.age))) = ((L.map older).filter fun c => !(c.age == li)) ∧ ((L.map older).filter fun c => decide (li ≤ c.age)) = ((L.map older).filter fun c => c.age == li) := by
  have ha : ∀ x ∈ L.map older, 0 ≤ x.age ∧ x.age ≤ li := fun x hx => by
    obtain ⟨y, hy, rfl⟩ := List.mem_map.1 hx
    have := h.age y hy
    show 0 ≤ y.age + 1 ∧ y.age + 1 ≤ li
    omega
  have he : ∀ x ∈ L.map older, decide (li ≤ x.age) = (x.age == li) := fun x hx => by
    have := (ha x hx).2
    by_cases e : x.age = li
    · simp [e]
    · rw [decide_eq_false (by omega)]
      simp [e]
  refine ⟨⟨?_, h.moB, h.liB, ?_, ?_, ?_⟩, List.filter_congr fun x hx => by rw [he x hx], List.filter_congr fun x hx => he x hx⟩
  · have h1 := h.len
    have h2 := List.length_filter_le (fun c : Cu => !(c.age == li)) (L.map older)
    rw [List.length_map] at h2
    omega
  · refine List.Pairwise.sublist (List.filter_sublist) ?_
    exact List.pairwise_map.2 (h.ids.imp fun hab => hab)
  · intro x hx
    obtain ⟨y, hy, rfl⟩ := List.mem_map.1 (List.mem_filter.1 hx).1
    exact h.last y hy
  · intro x hx
    have h1 := ha x (List.mem_filter.1 hx).1
    have h2 := (List.mem_filter.1 hx).2
    have h3 : x.age ≠ li := by simpa using h2
    omega
end Go.Proofs.Ytgaoonnokhlgjaa

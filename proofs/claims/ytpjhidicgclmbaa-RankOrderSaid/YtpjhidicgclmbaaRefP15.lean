/-
  Those that are left, step by step: what the document answers is the one that is taken; no program stands here.
-/
import Derived.Test.YtpjhidicgclmbaaRnk15
namespace Go.Proofs.Ytpjhidicgclmbaa
set_option linter.unusedVariables false
set_option linter.unusedSimpArgs false

/-- What a step looks at. -/
def Rn.num (x : Rn) (s : Nat) : Int :=
  if s = 1 then x.p else if s = 2 then x.c else if s = 3 then x.o else if s = 4 then x.m else if s = 5 then x.e else if s = 6 then x.i else if s = 7 then x.a else x.r
/-- Does one go at a step, because of another one? -/
def goesB (s : Nat) (x y : Rn) : Bool := (s != 4 || x.near == y.near) && decide (y.num s < x.num s)
/-- Those that are left behind a step. -/
def leftK (K : Nat → Rn) (s : Nat) (l : List Nat) : List Nat := l.filter fun i => l.all fun k => !goesB s (K i) (K k)
def amongL (K : Nat → Rn) (l : List Nat) : Nat → List Nat
  | 0 => l
  | s + 1 => leftK K (s + 1) (amongL K l s)
def headZ : List Nat → Int
  | [] => -1
  | a :: _ => (a : Nat)
def amongZ (K : Nat → Rn) (l : List Nat) : Int := headZ (amongL K l 8)
section
variable {K : Nat → Rn} {s i k : Nat} {l : List Nat}
theorem mem_left (hs : s ≠ 4) : i ∈ leftK K s l ↔ i ∈ l ∧ ∀ k ∈ l, (K i).num s ≤ (K k).num s := by
  have h4 : (s != 4) = true := by simpa using hs
  unfold leftK goesB
  rw [List.mem_filter, List.all_eq_true]
  simp [h4]
theorem mem_left4 : i ∈ leftK K 4 l ↔ i ∈ l ∧ ∀ k ∈ l, (K k).near = (K i).near → (K i).m ≤ (K k).m := by
  unfold leftK goesB
  rw [List.mem_filter, List.all_eq_true]
  constructor
  · rintro ⟨h1, h2⟩
    refine ⟨h1, fun k hk hn => ?_⟩
    have := h2 k hk
    simp [Rn.num, hn] at this
    omega
  · rintro ⟨h1, h2⟩
    refine ⟨h1, fun k hk => ?_⟩
    by_cases hn : (K k).near = (K i).near
    · have := h2 k hk hn
      simp [Rn.num]
      right; omega
    · have : ((K i).near == (K k).near) = false := by simpa using fun e => hn e.symm
      simp [this]
theorem left_le (hs : s ≠ 4) (h : i ∈ leftK K s l) (hk : k ∈ l) : (K i).num s ≤ (K k).num s := ((mem_left hs).1 h).2 k hk
theorem left_in (h : i ∈ leftK K s l) : i ∈ l := (List.mem_filter.1 h).1
theorem left_same (hs : s ≠ 4) (h : i ∈ leftK K s l) (hk : k ∈ l) (e : (K k).num s = (K i).num s) : k ∈ leftK K s l :=
  (mem_left hs).2 ⟨hk, fun j hj => by rw [e]; exact left_le hs h hj⟩
theorem min_one (f : Nat → Int) : ∀ l : List Nat, l ≠ [] → ∃ b ∈ l, ∀ y ∈ l, f b ≤ f y
  | [], h => absurd rfl h
  | [x], _ => ⟨x, by simp, fun y hy => by rw [List.mem_singleton.1 hy]; omega⟩
  | x :: x' :: l, _ => by
    obtain ⟨b, hb, hm⟩ := min_one f (x' :: l) (by simp)
    by_cases k : f x < f b
    · refine ⟨x, by simp, fun y hy => ?_⟩
      rcases List.mem_cons.1 hy with rfl | hy
      · omega
      · have := hm y hy; omega
    · refine ⟨b, List.mem_cons_of_mem _ hb, fun y hy => ?_⟩
      rcases List.mem_cons.1 hy with rfl | hy
      · omega
      · exact hm y hy
theorem left_ne (h : l ≠ []) : leftK K s l ≠ [] := by
  by_cases hs : s = 4
  · subst hs
    obtain ⟨b, hb, hm⟩ := min_one (fun i => (K i).m) l h
    exact List.ne_nil_of_mem (mem_left4.2 ⟨hb, fun k hk _ => hm k hk⟩)
  · obtain ⟨b, hb, hm⟩ := min_one (fun i => (K i).num s) l h
    exact List.ne_nil_of_mem ((mem_left hs).2 ⟨hb, hm⟩)
theorem among_ne (h : l ≠ []) : ∀ s, amongL K l s ≠ []
  | 0 => h
  | s + 1 => left_ne (among_ne h s)
theorem among_sub : ∀ s, (amongL K l s).Sublist l
  | 0 => List.Sublist.refl _
  | s + 1 => List.Sublist.trans List.filter_sublist (among_sub s)

theorem three (i : Nat) : i ∈ amongL K l 3 ↔ i ∈ l ∧ ∀ k ∈ l, ¬ preLt (K k) (K i) := by
  constructor
  · intro h
    have h2 := left_in h
    have h1 := left_in h2
    have h0 := left_in h1
    refine ⟨h0, fun k hk => ?_⟩
    have a1 : (K i).p ≤ (K k).p := left_le (by decide) h1 hk
    by_cases e1 : (K k).p = (K i).p
    · have k1 := left_same (by decide) h1 hk e1
      have a2 : (K i).c ≤ (K k).c := left_le (by decide) h2 k1
      by_cases e2 : (K k).c = (K i).c
      · have k2 := left_same (by decide) h2 k1 e2
        have a3 : (K i).o ≤ (K k).o := left_le (by decide) h k2
        unfold preLt; omega
      · unfold preLt; omega
    · unfold preLt; omega
  · rintro ⟨h0, h⟩
    have h1 : i ∈ amongL K l 1 := (mem_left (by decide)).2 ⟨h0, fun k hk => by
      have := h k hk
      show (K i).p ≤ (K k).p
      unfold preLt at this; omega⟩
    have h2 : i ∈ amongL K l 2 := (mem_left (by decide)).2 ⟨h1, fun k hk => by
      have := h k (left_in hk)
      have e : (K k).p ≤ (K i).p := left_le (by decide) hk h0
      show (K i).c ≤ (K k).c
      unfold preLt at this; omega⟩
    refine (mem_left (by decide)).2 ⟨h2, fun k hk => ?_⟩
    have := h k (left_in (left_in hk))
    have e : (K k).p ≤ (K i).p := left_le (by decide) (left_in hk) h0
    have e2 : (K k).c ≤ (K i).c := left_le (by decide) hk h1
    show (K i).o ≤ (K k).o
    unfold preLt at this; omega
theorem four (i : Nat) : i ∈ amongL K l 4 ↔ i ∈ l ∧ Four (l.map K) (K i) := by
  constructor
  · intro h
    obtain ⟨h3, h4⟩ := mem_left4.1 h
    obtain ⟨h0, hp⟩ := (three i).1 h3
    refine ⟨h0, List.mem_map_of_mem h0, fun x hx => ?_, fun x hx hle hn => ?_⟩
    · obtain ⟨k, hk, rfl⟩ := List.mem_map.1 hx
      exact hp k hk
    · obtain ⟨k, hk, rfl⟩ := List.mem_map.1 hx
      exact h4 k ((three k).2 ⟨hk, fun k' hk' => pre_neg (hp k' hk') hle⟩) hn
  · rintro ⟨h0, _, hp, hm⟩
    refine mem_left4.2 ⟨(three i).2 ⟨h0, fun k hk => hp _ (List.mem_map_of_mem hk)⟩, fun k hk hn => ?_⟩
    obtain ⟨k0, kp⟩ := (three k).1 hk
    exact hm _ (List.mem_map_of_mem k0) (kp i h0) hn
theorem eight {a : Nat} (h : a ∈ amongL K l 8) : a ∈ amongL K l 4 ∧ ∀ k ∈ amongL K l 4, ¬ ((K k).e < (K a).e ∨ ((K k).e = (K a).e ∧ ((K k).i < (K a).i ∨ ((K k).i = (K a).i ∧ ((K k).a < (K a).a ∨ ((K k).a = (K a).a ∧ (K k).r < (K a).r)))))) ∧
    ((K k).e = (K a).e → (K k).i = (K a).i → (K k).a = (K a).a → (K k).r = (K a).r → k ∈ amongL K l 8) := by
  have h7 := left_in h
  have h6 := left_in h7
  have h5 := left_in h6
  have h4 := left_in h5
  refine ⟨h4, fun k hk => ⟨?_, fun e1 e2 e3 e4 => ?_⟩⟩
  · have a1 : (K a).e ≤ (K k).e := left_le (by decide) h5 hk
    by_cases e1 : (K k).e = (K a).e
    · have k1 := left_same (by decide) h5 hk e1
      have a2 : (K a).i ≤ (K k).i := left_le (by decide) h6 k1
      by_cases e2 : (K k).i = (K a).i
      · have k2 := left_same (by decide) h6 k1 e2
        have a3 : (K a).a ≤ (K k).a := left_le (by decide) h7 k2
        by_cases e3 : (K k).a = (K a).a
        · have k3 := left_same (by decide) h7 k2 e3
          have a4 : (K a).r ≤ (K k).r := left_le (by decide) h k3
          omega
        · omega
      · omega
    · omega
  · exact left_same (by decide) h (left_same (by decide) h7 (left_same (by decide) h6 (left_same (by decide) h5 hk e1) e2) e3) e4
/-- What the document answers. -/
theorem among_best (hz : ∀ i, (K i).z = (i : Int)) (hs : l.Pairwise (· < ·)) : (l = [] ∧ amongZ K l = -1) ∨ ∃ i, i ∈ l ∧ amongZ K l = (i : Int) ∧ Best (l.map K) (K i) := by
  by_cases h0 : l = []
  · subst h0
    exact .inl ⟨rfl, by simp [amongZ, amongL, leftK, headZ]⟩
  · right
    have hne := among_ne (K := K) h0 8
    have hsb := among_sub (K := K) (l := l) 8
    obtain ⟨a, t, e⟩ : ∃ a t, amongL K l 8 = a :: t := by
      cases h : amongL K l 8 with
      | nil => exact absurd h hne
      | cons a t => exact ⟨a, t, rfl⟩
    have ha : a ∈ amongL K l 8 := by rw [e]; exact List.mem_cons_self
    obtain ⟨h4, h8⟩ := eight ha
    have hso : (amongL K l 8).Pairwise (· < ·) := hs.sublist hsb
    obtain ⟨hal, hF⟩ := (four a).1 h4
    refine ⟨a, hal, by unfold amongZ; rw [e]; rfl, hF, fun y hy hlt => ?_⟩
    obtain ⟨k, hk, rfl⟩ := List.mem_map.1 hy.1
    obtain ⟨h9, h10⟩ := h8 k ((four k).2 ⟨hk, hy⟩)
    unfold sufLt at hlt
    rw [hz, hz] at hlt
    have h11 : k ∈ amongL K l 8 := h10 (by omega) (by omega) (by omega) (by omega)
    rw [e] at h11 hso
    rcases List.mem_cons.1 h11 with rfl | h12
    · omega
    · have := (List.pairwise_cons.1 hso).1 k h12
      omega
end

/-- Held against one another, the one that stands first and is taken is the same. -/
theorem taken_is {K : Nat → Rn} {l : List Nat} {t : Int} (hz : ∀ i, (K i).z = (i : Int)) (hs : l.Pairwise (· < ·)) (h : Taken (l.map K) t) :
    (l = [] ∧ t = -1 ∧ amongZ K l = -1) ∨ ∃ j i, t = (j : Nat) ∧ l[j]? = some i ∧ amongZ K l = (i : Int) ∧ Best (l.map K) (K i) := by
  rcases among_best hz hs with ⟨rfl, h1⟩ | ⟨i, hi, h1, h2⟩
  · rcases h with ⟨h3, _⟩ | ⟨j, b, _, h3, _⟩
    · exact .inl ⟨rfl, h3, h1⟩
    · simp at h3
  · rcases h with ⟨_, h3⟩ | ⟨j, b, h3, h4, h5⟩
    · have : l = [] := by simpa using h3
      rw [this] at hi; cases hi
    · right
      rw [List.getElem?_map] at h4
      cases h6 : l[j]? with
      | none => rw [h6] at h4; cases h4
      | some i' =>
        rw [h6] at h4
        obtain rfl : K i' = b := by simpa using h4
        have h7 := (best_one h5 h2).1
        rw [hz, hz] at h7
        obtain rfl : i' = i := by omega
        exact ⟨j, i', h3, by first | exact h6 | rfl, h1, h2⟩

/-! ### All of them, one taken behind the other -/

/-- The places, one taken behind the other. -/
def ordL (K : Nat → Rn) : Nat → List Nat → List Int
  | 0, _ => []
  | n + 1, l => amongZ K l :: ordL K n (l.filter fun (i : Nat) => decide ((i : Int) ≠ amongZ K l))
theorem erase_is : ∀ (l : List Nat) (j i : Nat), l.Pairwise (· < ·) → l[j]? = some i → l.eraseIdx j = l.filter fun (k : Nat) => decide ((k : Int) ≠ (i : Int))
  | [], j, i, _, h => by simp at h
  | a :: l, 0, i, hs, h => by
    obtain rfl : a = i := by simpa using h
    rw [List.eraseIdx_cons_zero, List.filter_cons]
    have h1 : ¬ decide ((a : Int) ≠ (a : Int)) = true := by simp
    rw [if_neg h1]
    symm
    rw [List.filter_eq_self]
    intro k hk
    have := (List.pairwise_cons.1 hs).1 k hk
    simp; omega
  | a :: l, j + 1, i, hs, h => by
    have h1 : l[j]? = some i := by simpa using h
    have h2 := (List.pairwise_cons.1 hs).1 i (List.mem_of_getElem? h1)
    rw [List.eraseIdx_cons_succ, List.filter_cons, if_pos (by simp; omega), erase_is l j i (List.pairwise_cons.1 hs).2 h1]
theorem filter_len {l : List Nat} {j i : Nat} (hs : l.Pairwise (· < ·)) (h : l[j]? = some i) : (l.filter fun (k : Nat) => decide ((k : Int) ≠ (i : Int))).length + 1 = l.length := by
  rw [← erase_is l j i hs h]
  have := (List.getElem?_eq_some_iff.1 h).1
  rw [List.length_eraseIdx_of_lt this]
  omega
theorem map_erase (K : Nat → Rn) : ∀ (l : List Nat) (j : Nat), (l.map K).eraseIdx j = (l.eraseIdx j).map K
  | [], _ => rfl
  | _ :: _, 0 => rfl
  | a :: l, j + 1 => by simp [map_erase K l j]

/-! ### Two of them -/

/-- Which of two is taken, and at which step, from a step on; k: how many are left. -/
def pairF (x y : Rn) : Nat → Nat → Int × Int
  | 0, _ => (0, 0)
  | k + 1, s => if goesB s y x then (-1, (s : Int)) else if goesB s x y then (1, (s : Int)) else pairF x y k (s + 1)
theorem pair_turn (x y : Rn) : ∀ k s, pairF y x k s = (-(pairF x y k s).1, (pairF x y k s).2)
  | 0, _ => rfl
  | k + 1, s => by
    unfold pairF
    by_cases h1 : goesB s x y = true
    · have h2 : goesB s y x = false := by
        unfold goesB at h1 ⊢
        simp only [Bool.and_eq_true, decide_eq_true_eq] at h1
        rw [decide_eq_false (by omega)]
        simp
      simp [h1, h2]
    · by_cases h2 : goesB s y x = true
      · simp [h1, h2]
      · simp only [h1, h2]
        exact pair_turn x y k (s + 1)
/-- Less is known of the best than that it is taken. -/
theorem best_turn {X Y : List Rn} {f : Rn → Rn} (hf : ∀ x, (f x).near = x.near ∧ (f x).p = x.p ∧ (f x).c = x.c ∧ (f x).o = x.o ∧ (f x).m = x.m ∧ (f x).e = x.e ∧ (f x).i = x.i ∧ (f x).a = x.a ∧ (f x).r = x.r)
    (h1 : ∀ x ∈ X, ∃ y ∈ Y, f y = f x) (h2 : ∀ y ∈ Y, ∃ x ∈ X, f x = f y) {b b' : Rn} (h : Best X b) (h' : Best Y b') : b.r = b'.r := by
  have eqs : ∀ x y : Rn, f x = f y → x.near = y.near ∧ x.p = y.p ∧ x.c = y.c ∧ x.o = y.o ∧ x.m = y.m ∧ x.e = y.e ∧ x.i = y.i ∧ x.a = y.a ∧ x.r = y.r := by
    intro x y e
    have a := hf x; have b := hf y
    rw [e] at a
    obtain ⟨a1, a2, a3, a4, a5, a6, a7, a8, a9⟩ := a
    obtain ⟨b1, b2, b3, b4, b5, b6, b7, b8, b9⟩ := b
    exact ⟨a1.symm.trans b1, a2.symm.trans b2, a3.symm.trans b3, a4.symm.trans b4, a5.symm.trans b5, a6.symm.trans b6, a7.symm.trans b7, a8.symm.trans b8, a9.symm.trans b9⟩
  have over : ∀ (X Y : List Rn), (∀ x ∈ X, ∃ y ∈ Y, f y = f x) → (∀ y ∈ Y, ∃ x ∈ X, f x = f y) → ∀ x, Four X x → ∃ y, Four Y y ∧ f y = f x := by
    intro X Y h1 h2 x hx
    obtain ⟨y, hy, e⟩ := h1 x hx.1
    have E := eqs _ _ e
    refine ⟨y, ⟨hy, fun v hv => ?_, fun v hv hle hn => ?_⟩, e⟩
    · obtain ⟨u, hu, eu⟩ := h2 v hv
      have U := eqs _ _ eu
      have := hx.2.1 u hu
      unfold preLt at this ⊢
      omega
    · obtain ⟨u, hu, eu⟩ := h2 v hv
      have U := eqs _ _ eu
      have := hx.2.2 u hu (by unfold preLt at hle ⊢; omega) (by omega)
      omega
  obtain ⟨c, hc, ec⟩ := over X Y h1 h2 b h.1
  obtain ⟨c', hc', ec'⟩ := over Y X h2 h1 b' h'.1
  have k1 := h'.2 c hc
  have k2 := h.2 c' hc'
  have E := eqs _ _ ec
  have E' := eqs _ _ ec'
  unfold sufLt at k1 k2
  omega
end Go.Proofs.Ytpjhidicgclmbaa

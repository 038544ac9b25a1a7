/-
  Which of some candidates is taken: numbers and lists; no program stands here.
-/
import Derived.Test.YtpjhidicgclmbaaBase
namespace Go.Proofs.Ytpjhidicgclmbaa
set_option linter.unusedVariables false
set_option linter.unusedSimpArgs false

/-- What a candidate is held against others by, and its place. -/
structure Rn where
  near : Int
  p : Int
  c : Int
  o : Int
  m : Int
  e : Int
  i : Int
  a : Int
  r : Int
  z : Int
def Rn.keys (x : Rn) : List Int := [x.p, x.c, x.o, x.m, x.e, x.i, x.a, x.r, x.z]
/-- How two lists of numbers are held against one another. -/
def lexC : List Int → List Int → Int
  | [], [] => 0
  | [], _ :: _ => -1
  | _ :: _, [] => 1
  | a :: l, b :: m => if a < b then -1 else if b < a then 1 else lexC l m
theorem lexC_cons (a b : Int) (l m : List Int) : lexC (a :: l) (b :: m) = if a < b then -1 else if b < a then 1 else lexC l m := rfl
theorem lexC_ways : ∀ l m : List Int, lexC l m = -1 ∨ lexC l m = 0 ∨ lexC l m = 1
  | [], [] => .inr (.inl rfl)
  | [], _ :: _ => .inl rfl
  | _ :: _, [] => .inr (.inr rfl)
  | a :: l, b :: m => by
    rw [lexC_cons]
    split
    · exact .inl rfl
    · split
      · exact .inr (.inr rfl)
      · exact lexC_ways l m

def preLt (x y : Rn) : Prop := x.p < y.p ∨ (x.p = y.p ∧ (x.c < y.c ∨ (x.c = y.c ∧ x.o < y.o)))
def sufLt (x y : Rn) : Prop := x.e < y.e ∨ (x.e = y.e ∧ (x.i < y.i ∨ (x.i = y.i ∧ (x.a < y.a ∨ (x.a = y.a ∧ (x.r < y.r ∨ (x.r = y.r ∧ x.z < y.z)))))))
def medLt (x y : Rn) : Prop := x.m < y.m ∨ (x.m = y.m ∧ sufLt x y)
theorem lex_pre (x y : Rn) : (lexC (x.keys.take 3) (y.keys.take 3) = -1 ↔ preLt x y) ∧ (lexC (x.keys.take 3) (y.keys.take 3) = 1 ↔ preLt y x) := by
  simp only [Rn.keys, List.take, lexC_cons, lexC, preLt]
  constructor <;> repeat' split
  all_goals omega
theorem lex_suf (x y : Rn) : lexC (x.keys.drop 4) (y.keys.drop 4) = -1 ↔ sufLt x y := by
  simp only [Rn.keys, List.drop, lexC_cons, lexC, sufLt]
  repeat' split
  all_goals omega
theorem lex_med (x y : Rn) : lexC (x.keys.drop 3) (y.keys.drop 3) = -1 ↔ medLt x y := by
  have h := lex_suf x y
  have e1 : x.keys.drop 3 = x.m :: x.keys.drop 4 := rfl
  have e2 : y.keys.drop 3 = y.m :: y.keys.drop 4 := rfl
  rw [e1, e2, lexC_cons]
  unfold medLt
  split
  · simp [*]
  · split
    · have e3 : ¬ x.m = y.m := by omega
      simp [*]
    · have e3 : x.m = y.m := by omega
      rw [h]
      simp [*]
section
variable {x y v : Rn}
theorem pre_irr (x : Rn) : ¬ preLt x x := by unfold preLt; omega
theorem pre_trans (h : preLt x y) (k : preLt y v) : preLt x v := by unfold preLt at *; omega
theorem pre_neg (h : ¬ preLt x y) (k : ¬ preLt y v) : ¬ preLt x v := by unfold preLt at *; omega
theorem pre_lt_le (h : preLt x y) (k : ¬ preLt v y) : preLt x v := by unfold preLt at *; omega
theorem pre_le_lt (h : ¬ preLt y x) (k : preLt y v) : preLt x v := by unfold preLt at *; omega
def PreEq (x y : Rn) : Prop := x.p = y.p ∧ x.c = y.c ∧ x.o = y.o
theorem PreEq.of (h : ¬ preLt x y) (k : ¬ preLt y x) : PreEq x y := by unfold preLt at *; unfold PreEq; omega
theorem PreEq.lt_left (h : PreEq x y) : preLt x v ↔ preLt y v := by obtain ⟨h1, h2, h3⟩ := h; unfold preLt; rw [h1, h2, h3]
theorem PreEq.lt_right (h : PreEq x y) : preLt v x ↔ preLt v y := by obtain ⟨h1, h2, h3⟩ := h; unfold preLt; rw [h1, h2, h3]
theorem pre_trans2 (h : preLt x y) (k : ¬ preLt v y) : preLt x v := by unfold preLt at *; omega
theorem med_irr (x : Rn) : ¬ medLt x x := by unfold medLt sufLt; omega
theorem med_neg (h : ¬ medLt x y) (k : ¬ medLt y v) : ¬ medLt x v := by unfold medLt sufLt at *; omega
theorem med_trans (h : medLt x y) (k : medLt y v) : medLt x v := by unfold medLt sufLt at *; omega
theorem med_asym (h : medLt x y) : ¬ medLt y x := by unfold medLt sufLt at *; omega
theorem suf_irr (x : Rn) : ¬ sufLt x x := by unfold sufLt; omega
theorem suf_neg (h : ¬ sufLt x y) (k : ¬ sufLt y v) : ¬ sufLt x v := by unfold sufLt at *; omega
theorem suf_asym (h : sufLt x y) : ¬ sufLt y x := by unfold sufLt at *; omega
end

/-- Of some, y is left behind the step at which those of one Near are held against one another. -/
def Four (X : List Rn) (y : Rn) : Prop := y ∈ X ∧ (∀ x ∈ X, ¬ preLt x y) ∧ ∀ x ∈ X, ¬ preLt y x → x.near = y.near → y.m ≤ x.m
/-- b is taken of some. -/
def Best (X : List Rn) (b : Rn) : Prop := Four X b ∧ ∀ y, Four X y → ¬ sufLt y b
theorem best_one {X : List Rn} {b b' : Rn} (h : Best X b) (h' : Best X b') : b.z = b'.z ∧ b.r = b'.r := by
  have h1 := h.2 b' h'.1
  have h2 := h'.2 b h.1
  unfold sufLt at h1 h2
  omega
theorem pre_min : ∀ X : List Rn, X ≠ [] → ∃ b ∈ X, ∀ y ∈ X, ¬ preLt y b
  | [], h => absurd rfl h
  | [x], _ => ⟨x, by simp, fun y hy => by rw [List.mem_singleton.1 hy]; exact pre_irr x⟩
  | x :: x' :: l, _ => by
    obtain ⟨b, hb, hm⟩ := pre_min (x' :: l) (by simp)
    by_cases k : preLt x b
    · refine ⟨x, by simp, fun y hy => ?_⟩
      rcases List.mem_cons.1 hy with rfl | hy
      · exact pre_irr _
      · exact fun hk => hm y hy (pre_trans hk k)
    · refine ⟨b, List.mem_cons_of_mem _ hb, fun y hy => ?_⟩
      rcases List.mem_cons.1 hy with rfl | hy
      · exact k
      · exact hm y hy

/-! ### The best of each Near -/

/-- F is where the best of each Near stands. -/
def Nears (X : List Rn) (F : Int → Option Nat) : Prop :=
  (∀ n i, F n = some i → ∃ x, X[i]? = some x ∧ x.near = n ∧ (∀ y ∈ X, ¬ preLt y x) ∧ ∀ y ∈ X, ¬ preLt x y → y.near = n → ¬ medLt y x) ∧ ∀ y ∈ X, (∀ x ∈ X, ¬ preLt x y) → (F y.near).isSome
theorem nears_nil : Nears [] (fun _ => none) := ⟨fun n i h => (by cases h), fun y h => (by cases h)⟩
section
variable {X : List Rn} {F : Int → Option Nat} {f x : Rn}
theorem at_snoc {i : Nat} {y : Rn} (h : X[i]? = some y) : (X ++ [x])[i]? = some y := by
  rw [List.getElem?_append_left (List.getElem?_eq_some_iff.1 h).1]; exact h
theorem at_end (X : List Rn) (x : Rn) : (X ++ [x])[X.length]? = some x := by simp
/-- One that goes. -/
theorem nears_worse (h : Nears X F) (hf : f ∈ X) (hm : ∀ y ∈ X, ¬ preLt y f) (hx : preLt f x) : Nears (X ++ [x]) F := by
  refine ⟨fun n i hi => ?_, fun y hy hmin => ?_⟩
  · obtain ⟨b, h1, h2, h3, h4⟩ := h.1 n i hi
    have hb : preLt b x := pre_le_lt (h3 f hf) hx
    refine ⟨b, at_snoc h1, h2, fun y hy => ?_, fun y hy hle hn => ?_⟩
    · rcases List.mem_append.1 hy with hy | hy
      · exact h3 y hy
      · rw [List.mem_singleton.1 hy]
        exact fun k => pre_irr _ (pre_trans hb k)
    · rcases List.mem_append.1 hy with hy | hy
      · exact h4 y hy hle hn
      · rw [List.mem_singleton.1 hy] at hle
        exact absurd hb hle
  · rcases List.mem_append.1 hy with hy | hy
    · exact h.2 y hy (fun x' hx' => hmin x' (List.mem_append_left _ hx'))
    · rw [List.mem_singleton.1 hy] at hmin
      exact absurd hx (hmin f (List.mem_append_left _ hf))
def oneF (n : Int) (i : Nat) : Int → Option Nat := fun j => if j = n then some i else none
def setF (F : Int → Option Nat) (n : Int) (i : Nat) : Int → Option Nat := fun j => if j = n then some i else F j
/-- One ahead of which all others go. -/
theorem nears_first (hx : ∀ y ∈ X, preLt x y) : Nears (X ++ [x]) (oneF x.near X.length) := by
  refine ⟨fun n i hi => ?_, fun y hy hmin => ?_⟩
  · unfold oneF at hi
    split at hi
    · rename_i e
      cases hi
      subst e
      refine ⟨x, at_end _ _, rfl, fun y hy => ?_, fun y hy hle _ => ?_⟩
      · rcases List.mem_append.1 hy with hy | hy
        · exact fun k => pre_irr _ (pre_trans (hx y hy) k)
        · rw [List.mem_singleton.1 hy]; exact pre_irr _
      · rcases List.mem_append.1 hy with hy | hy
        · exact absurd (hx y hy) hle
        · rw [List.mem_singleton.1 hy]; exact med_irr _
    · cases hi
  · rcases List.mem_append.1 hy with hy | hy
    · exact absurd (hx y hy) (hmin x (by simp))
    · rw [List.mem_singleton.1 hy]
      simp [oneF]
/-- One as good as the first, and none of its Near. -/
theorem nears_new (h : Nears X F) (hf : f ∈ X) (hm : ∀ y ∈ X, ¬ preLt y f) (h1 : ¬ preLt x f) (h2 : ¬ preLt f x) (hn : F x.near = none) : Nears (X ++ [x]) (setF F x.near X.length) := by
  refine ⟨fun n i hi => ?_, fun y hy hmin => ?_⟩
  · unfold setF at hi
    split at hi
    · rename_i e
      cases hi
      subst e
      refine ⟨x, at_end _ _, rfl, fun y hy => ?_, fun y hy hle hne => ?_⟩
      · rcases List.mem_append.1 hy with hy | hy
        · exact fun k => hm y hy (pre_lt_le k h2)
        · rw [List.mem_singleton.1 hy]; exact pre_irr _
      · rcases List.mem_append.1 hy with hy | hy
        · have hmin : ∀ x' ∈ X, ¬ preLt x' y := fun x' hx' k => hm x' hx' (pre_trans2 k (fun q => hle ((PreEq.of h1 h2).lt_left.2 q)))
          have := h.2 y hy hmin
          rw [hne, hn] at this
          cases this
        · rw [List.mem_singleton.1 hy]; exact med_irr _
    · rename_i e
      obtain ⟨b, g1, g2, g3, g4⟩ := h.1 n i hi
      refine ⟨b, at_snoc g1, g2, fun y hy => ?_, fun y hy hle hne => ?_⟩
      · rcases List.mem_append.1 hy with hy | hy
        · exact g3 y hy
        · rw [List.mem_singleton.1 hy]
          exact pre_neg h1 (g3 f hf)
      · rcases List.mem_append.1 hy with hy | hy
        · exact g4 y hy hle hne
        · rw [List.mem_singleton.1 hy] at hne
          exact absurd hne.symm e
  · rcases List.mem_append.1 hy with hy | hy
    · have := h.2 y hy (fun x' hx' => hmin x' (List.mem_append_left _ hx'))
      unfold setF
      split
      · rfl
      · exact this
    · rw [List.mem_singleton.1 hy]
      simp [setF]
/-- One as good as the first, better than the one of its Near. -/
theorem nears_better {w : Nat} {g : Rn} (h : Nears X F) (hf : f ∈ X) (hm : ∀ y ∈ X, ¬ preLt y f) (h1 : ¬ preLt x f) (h2 : ¬ preLt f x) (hn : F x.near = some w) (hg : X[w]? = some g) (hb : medLt x g) : Nears (X ++ [x]) (setF F x.near X.length) := by
  have E := PreEq.of h1 h2
  refine ⟨fun n i hi => ?_, fun y hy hmin => ?_⟩
  · unfold setF at hi
    split at hi
    · rename_i e
      cases hi
      subst e
      obtain ⟨b, g1, g2, g3, g4⟩ := h.1 _ _ hn
      obtain rfl : b = g := Option.some.inj (g1.symm.trans hg)
      have E2 : PreEq b f := PreEq.of (hm b (List.mem_of_getElem? g1)) (g3 f hf)
      refine ⟨x, at_end _ _, rfl, fun y hy => ?_, fun y hy hle hne => ?_⟩
      · rcases List.mem_append.1 hy with hy | hy
        · exact fun k => hm y hy (E.lt_right.1 k)
        · rw [List.mem_singleton.1 hy]; exact pre_irr _
      · rcases List.mem_append.1 hy with hy | hy
        · have hle' : ¬ preLt b y := fun k => hle (E.lt_left.2 (E2.lt_left.1 k))
          exact fun k => g4 y hy hle' hne (med_trans k hb)
        · rw [List.mem_singleton.1 hy]; exact med_irr _
    · rename_i e
      obtain ⟨b, g1, g2, g3, g4⟩ := h.1 n i hi
      refine ⟨b, at_snoc g1, g2, fun y hy => ?_, fun y hy hle hne => ?_⟩
      · rcases List.mem_append.1 hy with hy | hy
        · exact g3 y hy
        · rw [List.mem_singleton.1 hy]
          exact pre_neg h1 (g3 f hf)
      · rcases List.mem_append.1 hy with hy | hy
        · exact g4 y hy hle hne
        · rw [List.mem_singleton.1 hy] at hne
          exact absurd hne.symm e
  · rcases List.mem_append.1 hy with hy | hy
    · have := h.2 y hy (fun x' hx' => hmin x' (List.mem_append_left _ hx'))
      unfold setF
      split
      · rfl
      · exact this
    · rw [List.mem_singleton.1 hy]
      simp [setF]
/-- One as good as the first, no better than the one of its Near. -/
theorem nears_keep {w : Nat} {g : Rn} (h : Nears X F) (hf : f ∈ X) (hm : ∀ y ∈ X, ¬ preLt y f) (h1 : ¬ preLt x f) (h2 : ¬ preLt f x) (hn : F x.near = some w) (hg : X[w]? = some g) (hb : ¬ medLt x g) : Nears (X ++ [x]) F := by
  have E := PreEq.of h1 h2
  refine ⟨fun n i hi => ?_, fun y hy hmin => ?_⟩
  · obtain ⟨b, g1, g2, g3, g4⟩ := h.1 n i hi
    refine ⟨b, at_snoc g1, g2, fun y hy => ?_, fun y hy hle hne => ?_⟩
    · rcases List.mem_append.1 hy with hy | hy
      · exact g3 y hy
      · rw [List.mem_singleton.1 hy]
        exact pre_neg h1 (g3 f hf)
    · rcases List.mem_append.1 hy with hy | hy
      · exact g4 y hy hle hne
      · rw [List.mem_singleton.1 hy] at hne ⊢
        subst hne
        rw [hn] at hi
        obtain rfl : w = i := by simpa using hi
        obtain rfl : b = g := Option.some.inj (g1.symm.trans hg)
        exact hb
  · rcases List.mem_append.1 hy with hy | hy
    · exact h.2 y hy (fun x' hx' => hmin x' (List.mem_append_left _ hx'))
    · rw [List.mem_singleton.1 hy, hn]
      rfl
/-- The first of one more. -/
theorem first_worse (hm : ∀ y ∈ X, ¬ preLt y f) (hx : ¬ preLt x f) : ∀ y ∈ X ++ [x], ¬ preLt y f := fun y hy => by
  rcases List.mem_append.1 hy with hy | hy
  · exact hm y hy
  · rw [List.mem_singleton.1 hy]; exact hx
theorem first_new (hm : ∀ y ∈ X, ¬ preLt y f) (hx : preLt x f) : (∀ y ∈ X ++ [x], ¬ preLt y x) ∧ ∀ y ∈ X, preLt x y :=
  ⟨fun y hy => by
    rcases List.mem_append.1 hy with hy | hy
    · exact fun k => hm y hy (pre_trans k hx)
    · rw [List.mem_singleton.1 hy]; exact pre_irr _, fun y hy => pre_lt_le hx (hm y hy)⟩

/-! ### The best of these -/

/-- Where the best stands of those that were looked at. -/
def Seen (X : List Rn) (F : Int → Option Nat) (done : Int → Bool) (best : Int) : Prop :=
  (best = -1 ∧ ∀ n, done n = true → F n = none) ∨ ∃ n i b, best = (i : Nat) ∧ F n = some i ∧ X[i]? = some b ∧ ∀ n' i' y, done n' = true → F n' = some i' → X[i']? = some y → ¬ sufLt y b
theorem seen_none : Seen X F (fun _ => false) (-1) := .inl ⟨rfl, fun n h => by cases h⟩
theorem seen_first {done done' : Int → Bool} {n : Int} {i : Nat} (h : Seen X F done (-1)) (hd : ∀ k, done' k = true → done k = true ∨ k = n) (hF : F n = some i) (hi : X[i]? = some x) : Seen X F done' (i : Int) := by
  rcases h with ⟨_, h⟩ | ⟨n0, i0, b, e, _⟩
  · refine .inr ⟨n, i, x, rfl, hF, hi, fun n' i' y hn' hF' hy => ?_⟩
    rcases hd n' hn' with h1 | rfl
    · rw [h n' h1] at hF'; cases hF'
    · obtain rfl : i = i' := Option.some.inj (hF.symm.trans hF')
      obtain rfl : x = y := Option.some.inj (hi.symm.trans hy)
      exact suf_irr _
  · omega
theorem seen_take {done done' : Int → Bool} {n : Int} {i j : Nat} {b : Rn} (h : Seen X F done (j : Int)) (hj : X[j]? = some b) (hd : ∀ k, done' k = true → done k = true ∨ k = n) (hF : F n = some i) (hi : X[i]? = some x) (hx : sufLt x b) : Seen X F done' (i : Int) := by
  rcases h with ⟨e, _⟩ | ⟨n0, i0, b0, e, h1, h2, h3⟩
  · omega
  · obtain rfl : j = i0 := by omega
    obtain rfl : b = b0 := Option.some.inj (hj.symm.trans h2)
    refine .inr ⟨n, i, x, rfl, hF, hi, fun n' i' y hn' hF' hy => ?_⟩
    rcases hd n' hn' with h4 | rfl
    · exact suf_neg (h3 n' i' y h4 hF' hy) (suf_asym hx)
    · obtain rfl : i = i' := Option.some.inj (hF.symm.trans hF')
      obtain rfl : x = y := Option.some.inj (hi.symm.trans hy)
      exact suf_irr _
theorem seen_leave {done done' : Int → Bool} {n : Int} {i j : Nat} {b : Rn} (h : Seen X F done (j : Int)) (hj : X[j]? = some b) (hd : ∀ k, done' k = true → done k = true ∨ k = n) (hF : F n = some i) (hi : X[i]? = some x) (hx : ¬ sufLt x b) : Seen X F done' (j : Int) := by
  rcases h with ⟨e, _⟩ | ⟨n0, i0, b0, e, h1, h2, h3⟩
  · omega
  · obtain rfl : j = i0 := by omega
    obtain rfl : b = b0 := Option.some.inj (hj.symm.trans h2)
    refine .inr ⟨n0, j, b, rfl, h1, hj, fun n' i' y hn' hF' hy => ?_⟩
    rcases hd n' hn' with h4 | rfl
    · exact h3 n' i' y h4 hF' hy
    · obtain rfl : i = i' := Option.some.inj (hF.symm.trans hF')
      obtain rfl : x = y := Option.some.inj (hi.symm.trans hy)
      exact hx
/-- What is told of some: where the one stands that is taken. -/
def Taken (X : List Rn) (best : Int) : Prop := (best = -1 ∧ X = []) ∨ ∃ i b, best = (i : Nat) ∧ X[i]? = some b ∧ Best X b
theorem seen_end {done : Int → Bool} {best : Int} (h : Seen X F done best) (hN : Nears X F) (hd : ∀ n i, F n = some i → done n = true) : Taken X best := by
  rcases h with ⟨e, h⟩ | ⟨n, i, b, e, h1, h2, h3⟩
  · refine .inl ⟨e, ?_⟩
    by_cases h0 : X = []
    · exact h0
    · obtain ⟨y, hy, hm⟩ := pre_min X h0
      have h4 := hN.2 y hy hm
      cases h5 : F y.near with
      | none => rw [h5] at h4; cases h4
      | some i => rw [h y.near (hd _ _ h5)] at h5; cases h5
  · obtain ⟨b', g1, g2, g3, g4⟩ := hN.1 n i h1
    obtain rfl : b = b' := Option.some.inj (h2.symm.trans g1)
    refine .inr ⟨i, b, e, h2, ⟨List.mem_of_getElem? h2, g3, fun x hx hle hn => ?_⟩, fun y hy => ?_⟩
    · have := g4 x hx hle (hn.trans g2)
      unfold medLt at this
      omega
    · have h6 := hN.2 y hy.1 hy.2.1
      cases h5 : F y.near with
      | none => rw [h5] at h6; cases h6
      | some i' =>
        obtain ⟨y', k1, k2, k3, k4⟩ := hN.1 _ _ h5
        have h7 := h3 y.near i' y' (hd _ _ h5) h5 k1
        have h8 := k4 y hy.1 (hy.2.1 y' (List.mem_of_getElem? k1) |> fun q => fun k => q k) rfl
        have h9 := hy.2.2 y' (List.mem_of_getElem? k1) (k3 y hy.1) k2
        have h10 : ¬ sufLt y y' := fun k => by
          unfold medLt at h8
          apply h8
          by_cases q : y.m < y'.m
          · exact .inl q
          · exact .inr ⟨by omega, k⟩
        exact suf_neg h10 h7
end
end Go.Proofs.Ytpjhidicgclmbaa

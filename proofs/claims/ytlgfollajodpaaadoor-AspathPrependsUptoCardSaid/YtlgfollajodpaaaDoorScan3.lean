/-
  The path of a text as the document reads it, a piece at a time: the same as by words.
-/
import Derived.Test.YtlgfollajodpaaaDoorBack3
import Derived.Test.YtlgfollajodpaaaDoorNormTwice3
namespace Go.Proofs.YtlgfollajodpaaaDoor
set_option linter.unusedVariables false
set_option linter.unusedSimpArgs false

theorem splitGo_none (c : UInt8) : ∀ (x cur : List UInt8), c ∉ x → splitGo c cur x = [cur ++ x] := by
  intro x
  induction x with
  | nil => intro cur _; simp [splitGo]
  | cons a x ih =>
    intro cur h
    have h1 : ¬ a = c := fun e => h (by simp [e])
    rw [splitGo, if_neg h1, ih _ (fun e => h (List.mem_cons_of_mem _ e))]
    simp
theorem splitGo_cut (c : UInt8) : ∀ (x cur r : List UInt8), c ∉ x → splitGo c cur (x ++ c :: r) = (cur ++ x) :: splitGo c [] r := by
  intro x
  induction x with
  | nil => intro cur r _; simp [splitGo]
  | cons a x ih =>
    intro cur r h
    have h1 : ¬ a = c := fun e => h (by simp [e])
    rw [List.cons_append, splitGo, if_neg h1, ih _ _ (fun e => h (List.mem_cons_of_mem _ e))]
    simp
theorem split_join (c : UInt8) : ∀ (ws : List (List UInt8)), ws ≠ [] → (∀ w ∈ ws, c ∉ w) → splitL (joinL ws c) c = ws := by
  intro ws
  induction ws with
  | nil => intro h _; exact absurd rfl h
  | cons x ws ih =>
    intro _ h
    cases ws with
    | nil => rw [joinL_one]; exact (splitGo_none c x [] (h x (by simp))).trans (by simp)
    | cons y ys =>
      rw [joinL_two]
      refine (splitGo_cut c x [] _ (h x (by simp))).trans ?_
      have := ih (by simp) (fun w hw => h w (List.mem_cons_of_mem _ hw))
      unfold splitL at this
      rw [this]
      simp
theorem dec_no (n : Nat) {c : UInt8} (hc : ¬ isDig c) : c ∉ dec n := fun h => hc (dec_digs n c h)
theorem intSpec_dec {n : Nat} (h : n < 4294967296) : intSpec (dec n) = some n := intSpec_of rfl (by omega)
theorem numsL_dec {z : List Nat} (hz : ∀ x ∈ z, x < 4294967296) : numsL (z.map dec) = some z := by
  unfold numsL
  rw [if_pos, List.map_map]
  · congr 1
    conv => rhs; rw [← List.map_id z]
    exact List.map_congr_left fun x hx => by simp [intSpec_dec (hz x hx)]
  · rw [List.all_eq_true]
    intro p hp
    obtain ⟨x, hx, rfl⟩ := List.mem_map.1 hp
    rw [intSpec_dec (hz x hx)]
    rfl
theorem join_no (c d : UInt8) : ∀ (ws : List (List UInt8)), (∀ w ∈ ws, c ∉ w) → c ≠ d → c ∉ joinL ws d := by
  intro ws
  induction ws with
  | nil => intro _ _; simp [joinL, Lib.join_nil]
  | cons x ws ih =>
    intro h hcd
    cases ws with
    | nil => rw [joinL_one]; exact h x (by simp)
    | cons y ys =>
      rw [joinL_two]
      intro hm
      rcases List.mem_append.1 hm with h1 | h1
      · exact h x (by simp) h1
      · rcases List.mem_cons.1 h1 with h2 | h2
        · exact hcd h2
        · exact ih (fun w hw => h w (List.mem_cons_of_mem _ hw)) hcd h2
theorem decs_no {c : UInt8} (hc : ¬ isDig c) (z : List Nat) : ∀ w ∈ z.map dec, c ∉ w := by
  intro w hw
  obtain ⟨x, _, rfl⟩ := List.mem_map.1 hw
  exact dec_no x hc
theorem nd44 : ¬ isDig 44 := by unfold isDig; decide
theorem nd32 : ¬ isDig 32 := by unfold isDig; decide
theorem nd123 : ¬ isDig 123 := by unfold isDig; decide
theorem nd125 : ¬ isDig 125 := by unfold isDig; decide
theorem segL_set {z : List Nat} (hne : z ≠ []) (hz : ∀ x ∈ z, x < 4294967296) : segL (textS 1 z) = some (1, z) := by
  unfold textS
  rw [if_pos rfl]
  have hs : splitL (joinL (z.map dec) 44) 44 = z.map dec := split_join 44 _ (by simpa using hne) (decs_no nd44 z)
  obtain ⟨J, hJ⟩ : ∃ J, J = joinL (z.map dec) 44 := ⟨_, rfl⟩
  rw [← hJ] at hs ⊢
  have e1 : Lib.hasPrefix (123 :: (J ++ [125])) [123] = true := by simp [Lib.hasPrefix, List.isPrefixOf]
  have e2 : Lib.trimPrefix (123 :: (J ++ [125])) [123] = J ++ [125] := by unfold Lib.trimPrefix; rw [if_pos e1]; simp
  have e3 : Lib.hasSuffix (J ++ [125]) [125] = true := by
    unfold Lib.hasSuffix
    exact List.isSuffixOf_iff_suffix.2 ⟨J, rfl⟩
  have e4 : Lib.trimSuffix (J ++ [125]) [125] = J := by unfold Lib.trimSuffix; rw [if_pos e3]; simp
  unfold segL
  rw [if_pos e1, e2, if_pos e3, e4, hs, numsL_dec hz]
  rfl
theorem segL_one {n : Nat} (hn : n < 4294967296) : segL (dec n) = some (2, [n]) := by
  have e1 : Lib.hasPrefix (dec n) [123] = false := by
    unfold Lib.hasPrefix
    cases hd : dec n with
    | nil => have := dec_ne n; rw [hd] at this; simp at this
    | cons a r =>
      have h1 : a ≠ 123 := fun e => dec_no n nd123 (by rw [hd]; simp [e])
      simp [List.isPrefixOf]
      exact fun e => h1 e.symm
  unfold segL
  rw [e1, if_neg (by decide)]
  have := numsL_dec (z := [n]) (by intro x hx; simp at hx; omega)
  simp only [List.map_cons, List.map_nil] at this
  rw [this]
  rfl
/-- A word's part: a set, or one number of a sequence. -/
def PartOk (s : Int × List Nat) : Prop := (∀ x ∈ s.2, x < 4294967296) ∧ ((s.1 = 1 ∧ s.2 ≠ []) ∨ (s.1 = 2 ∧ ∃ n, s.2 = [n]))
theorem textS_two (n : Nat) : textS 2 [n] = dec n := by
  unfold textS
  rw [if_neg (by decide)]
  simp [joinL_one]
theorem part_seg {s : Int × List Nat} (h : PartOk s) : segL (textS s.1 s.2) = some s := by
  obtain ⟨k, z⟩ := s
  obtain ⟨hz, ⟨h1, h2⟩ | ⟨h1, n, h2⟩⟩ := h
  · simp only at h1 h2 hz ⊢
    subst h1
    exact segL_set h2 hz
  · simp only at h1 h2 hz ⊢
    subst h1 h2
    rw [textS_two]
    exact segL_one (hz n (by simp))
theorem part_no32 {s : Int × List Nat} (h : PartOk s) : (32 : UInt8) ∉ textS s.1 s.2 := by
  obtain ⟨k, z⟩ := s
  obtain ⟨hz, ⟨h1, h2⟩ | ⟨h1, n, h2⟩⟩ := h
  · simp only at h1 h2 ⊢
    subst h1
    unfold textS
    rw [if_pos rfl]
    intro hm
    rcases List.mem_cons.1 hm with h3 | h3
    · cases h3
    · rcases List.mem_append.1 h3 with h4 | h4
      · exact join_no 32 44 _ (decs_no nd32 z) (by decide) h4
      · simp at h4
  · simp only at h1 h2 ⊢
    subst h1 h2
    rw [textS_two]
    exact dec_no n nd32
/-- Parts that are written, word by word, are read as they were. -/
theorem segsL_parts {rs : List (Int × List Nat)} (hne : rs ≠ []) (h : ∀ s ∈ rs, PartOk s) : segsL (splitL (joinL (wordsA rs) 32) 32) = some rs := by
  have h1 : splitL (joinL (wordsA rs) 32) 32 = wordsA rs := split_join 32 _ (by simpa [wordsA] using hne) (by
    intro w hw
    obtain ⟨s, hs, rfl⟩ := List.mem_map.1 hw
    exact part_no32 (h s hs))
  rw [h1]
  unfold segsL
  rw [if_pos]
  · unfold wordsA
    rw [List.map_map]
    congr 1
    conv => rhs; rw [← List.map_id rs]
    exact List.map_congr_left fun s hs => by simp [part_seg (h s hs)]
  · rw [List.all_eq_true]
    intro p hp
    obtain ⟨s, hs, rfl⟩ := List.mem_map.1 hp
    rw [part_seg (h s hs)]
    rfl
theorem segL_part {l : List UInt8} {s : Int × List Nat} (h : segL l = some s) : PartOk s := by
  obtain ⟨k, z⟩ := s
  have h2 := (segL_text h).2
  have h3 := segL_fit h
  refine ⟨h3.2.1, ?_⟩
  unfold segL at h
  split at h
  · split at h
    · cases hn : numsL (splitL (Lib.trimSuffix (Lib.trimPrefix l [123]) [125]) 44) with
      | none => rw [hn] at h; cases h
      | some z2 =>
        rw [hn] at h
        simp only [Option.map_some, Option.some.injEq, Prod.mk.injEq] at h
        exact .inl ⟨h.1.symm, h2⟩
    · cases h
  · cases hn : numsL [l] with
    | none => rw [hn] at h; cases h
    | some z2 =>
      rw [hn] at h
      simp only [Option.map_some, Option.some.injEq, Prod.mk.injEq] at h
      obtain ⟨rfl, rfl⟩ := h
      have := (numsL_fit hn).1
      refine .inr ⟨rfl, ?_⟩
      match z2, this with
      | [n], _ => exact ⟨n, rfl⟩
theorem segsL_some {l : List UInt8} {rs : List (Int × List Nat)} (h : segsL (splitL l 32) = some rs) : l = joinL (wordsA rs) 32 ∧ rs ≠ [] ∧ ∀ s ∈ rs, PartOk s := by
  have h1 := segsL_text h
  refine ⟨?_, ?_, ?_⟩
  · rw [h1.1]
    unfold splitL
    rw [join_split]
    rfl
  · intro e
    subst e
    have h2 := (split_len 32 l []).2
    have h3 : splitL l 32 = [] := h1.1.symm
    unfold splitL at h3
    rw [h3] at h2
    simp at h2
  · unfold segsL at h
    split at h
    · rename_i ha
      cases h
      intro s hs
      obtain ⟨p, hp, rfl⟩ := List.mem_map.1 hs
      have h2 := List.all_eq_true.1 ha p hp
      cases hi : segL p with
      | none => rw [hi] at h2; cases h2
      | some r => exact segL_part hi
    · cases h

/-- Is a byte a digit? -/
def digB (c : UInt8) : Bool := decide (48 ≤ c.toNat ∧ c.toNat ≤ 57)
theorem digB_iff (c : UInt8) : digB c = true ↔ isDig c := by unfold digB isDig; simp
theorem drop_le (l : List UInt8) : (l.dropWhile digB).length ≤ l.length := (List.dropWhile_sublist _).length_le
/-- Numbers, from a place of a text on, and what stands behind them; set: do commas go on? -/
def scanN (set : Bool) (l : List UInt8) (acc : List Nat) : Option (List Nat × List UInt8) := match intSpec (l.takeWhile digB) with
  | none => none
  | some n => match h : l.dropWhile digB with
    | [] => some (acc ++ [n], [])
    | x :: r => if set = true ∧ x = 44 then scanN set r (acc ++ [n]) else some (acc ++ [n], x :: r)
termination_by l.length
decreasing_by
  have h1 := congrArg List.length h
  have h2 := drop_le l
  simp only [List.length_cons] at h1
  omega
theorem scanN_none {set : Bool} {l : List UInt8} {acc : List Nat} (h : intSpec (l.takeWhile digB) = none) : scanN set l acc = none := by
  rw [scanN, h]
theorem scanN_more {l r : List UInt8} {acc : List Nat} {n : Nat} (h : intSpec (l.takeWhile digB) = some n) (hd : l.dropWhile digB = 44 :: r) : scanN true l acc = scanN true r (acc ++ [n]) := by
  rw [scanN, h]
  simp only
  split
  · rename_i h2; rw [h2] at hd; cases hd
  · rename_i x r2 h2
    rw [h2] at hd
    injection hd with e1 e2
    subst e1 e2
    simp
theorem scanN_end {set : Bool} {l : List UInt8} {acc : List Nat} {n : Nat} (h : intSpec (l.takeWhile digB) = some n) (hd : set = true → ∀ r, l.dropWhile digB ≠ 44 :: r) : scanN set l acc = some (acc ++ [n], l.dropWhile digB) := by
  rw [scanN, h]
  simp only
  split
  · rename_i h2; rw [h2]
  · rename_i x r2 h2
    rw [if_neg, h2]
    intro e
    exact hd e.1 r2 (by rw [h2, e.2])
theorem take_dec (n : Nat) (r : List UInt8) (hr : ∀ x ∈ r.head?, ¬ isDig x) : (dec n ++ r).takeWhile digB = dec n ∧ (dec n ++ r).dropWhile digB = r := by
  have hd : ∀ a ∈ dec n, digB a = true := fun a ha => (digB_iff a).2 (dec_digs n a ha)
  constructor
  · rw [List.takeWhile_append_of_pos hd]
    cases r with
    | nil => simp
    | cons x r =>
      have : digB x = false := by
        have := hr x (by simp)
        cases hb : digB x with
        | false => rfl
        | true => exact absurd ((digB_iff x).1 hb) this
      rw [List.takeWhile_cons, this]
      simp
  · rw [List.dropWhile_append_of_pos hd]
    cases r with
    | nil => simp
    | cons x r =>
      have : digB x = false := by
        have := hr x (by simp)
        cases hb : digB x with
        | false => rfl
        | true => exact absurd ((digB_iff x).1 hb) this
      rw [List.dropWhile_cons, this]
      simp
theorem scanN_one {set : Bool} {n : Nat} (hn : n < 4294967296) (r : List UInt8) (acc : List Nat) (hr : ∀ x ∈ r.head?, ¬ isDig x) (h44 : set = true → ∀ r', r ≠ 44 :: r') : scanN set (dec n ++ r) acc = some (acc ++ [n], r) := by
  obtain ⟨h1, h2⟩ := take_dec n r hr
  rw [scanN_end (n := n) (by rw [h1]; exact intSpec_dec hn) (by rw [h2]; exact h44), h2]
theorem scanN_set : ∀ (z : List Nat) (acc : List Nat) (r : List UInt8), z ≠ [] → (∀ x ∈ z, x < 4294967296) → scanN true (joinL (z.map dec) 44 ++ 125 :: r) acc = some (acc ++ z, 125 :: r) := by
  intro z
  induction z with
  | nil => intro _ _ h _; exact absurd rfl h
  | cons n z ih =>
    intro acc r _ hz
    cases z with
    | nil =>
      simp only [List.map_cons, List.map_nil, joinL_one]
      exact scanN_one (hz n (by simp)) _ _ (by intro x hx; simp at hx; subst hx; exact nd125) (by intro _ r' e; cases e)
    | cons m z =>
      simp only [List.map_cons, joinL_two]
      rw [List.append_assoc, List.cons_append]
      obtain ⟨h1, h2⟩ := take_dec n (44 :: (joinL (dec m :: z.map dec) 44 ++ 125 :: r)) (by intro x hx; simp at hx; subst hx; exact nd44)
      rw [scanN_more (n := n) (by rw [h1]; exact intSpec_dec (hz n (by simp))) h2]
      have := ih (acc ++ [n]) r (by simp) (fun x hx => hz x (List.mem_cons_of_mem _ hx))
      simp only [List.map_cons] at this
      rw [this]
      simp
/-- What was read stands ahead of what is left. -/
theorem scanN_some (set : Bool) : ∀ (k : Nat) (l : List UInt8) (acc z : List Nat) (r : List UInt8), l.length ≤ k → scanN set l acc = some (z, r) →
    ∃ z', z = acc ++ z' ∧ z' ≠ [] ∧ l = joinL (z'.map dec) 44 ++ r ∧ (∀ x ∈ z', x < 4294967296) ∧ (set = false → ∃ n, z' = [n]) := by
  intro k
  induction k with
  | zero =>
    intro l acc z r hl h
    obtain rfl := List.eq_nil_of_length_eq_zero (Nat.le_zero.1 hl)
    rw [scanN_none (by simp [intSpec_none_len])] at h
    cases h
  | succ k ih =>
    intro l acc z r hl h
    cases hi : intSpec (l.takeWhile digB) with
    | none => rw [scanN_none hi] at h; cases h
    | some n =>
      have hn := intSpec_some hi
      have hl2 : l = dec n ++ l.dropWhile digB := by rw [hn.1, List.takeWhile_append_dropWhile]
      by_cases hm : set = true ∧ ∃ r', l.dropWhile digB = 44 :: r'
      · obtain ⟨rfl, r', hr'⟩ := hm
        rw [scanN_more hi hr'] at h
        have hlen : r'.length ≤ k := by
          have h1 := congrArg List.length hr'
          have h2 := drop_le l
          simp only [List.length_cons] at h1
          omega
        obtain ⟨z', h1, h2, h3, h4, _⟩ := ih r' _ _ _ hlen h
        refine ⟨n :: z', by simp [h1], by simp, ?_, ?_, by intro e; cases e⟩
        · cases z' with
          | nil => exact absurd rfl h2
          | cons m z' =>
            simp only [List.map_cons, joinL_two] at h3 ⊢
            rw [hl2, hr', h3]
            simp
        · intro x hx
          rcases List.mem_cons.1 hx with rfl | hx
          · omega
          · exact h4 x hx
      · rw [scanN_end hi (fun e r' h2 => hm ⟨e, r', h2⟩)] at h
        simp only [Option.some.injEq, Prod.mk.injEq] at h
        obtain ⟨rfl, rfl⟩ := h
        refine ⟨[n], rfl, by simp, ?_, by intro x hx; simp at hx; omega, fun _ => ⟨n, rfl⟩⟩
        simp only [List.map_cons, List.map_nil, joinL_one]
        exact hl2
/-- One part, from a place of a text on, and what stands behind it. -/
def scanS (l : List UInt8) : Option ((Int × List Nat) × List UInt8) := if l.head? = some 123 then (match scanN true l.tail [] with
    | none => none
    | some p => if p.2.head? = some 125 then some ((1, p.1), p.2.tail) else none)
  else (scanN false l []).map fun p => ((2, p.1), p.2)
theorem scanS_some {l r : List UInt8} {s : Int × List Nat} (h : scanS l = some (s, r)) : PartOk s ∧ l = textS s.1 s.2 ++ r ∧ r.length < l.length := by
  unfold scanS at h
  split at h
  · rename_i h0
    cases hs : scanN true l.tail [] with
    | none => rw [hs] at h; cases h
    | some p =>
      obtain ⟨z, r2⟩ := p
      rw [hs] at h
      simp only at h
      split at h
      · rename_i h125
        simp only [Option.some.injEq, Prod.mk.injEq] at h
        obtain ⟨rfl, rfl⟩ := h
        obtain ⟨z', h1, h2, h3, h4, _⟩ := scanN_some true _ _ _ _ _ (Nat.le_refl _) hs
        simp only [List.nil_append] at h1
        subst h1
        cases l with
        | nil => simp at h0
        | cons a l =>
          simp only [List.head?_cons, Option.some.injEq] at h0
          subst h0
          cases r2 with
          | nil => simp at h125
          | cons b r2 =>
            simp only [List.head?_cons, Option.some.injEq] at h125
            subst h125
            simp only [List.tail_cons] at h3 ⊢
            refine ⟨⟨h4, .inl ⟨rfl, h2⟩⟩, ?_, ?_⟩
            · unfold textS
              rw [if_pos rfl, h3]
              simp
            · rw [h3]
              simp
              omega
      · cases h
  · cases hs : scanN false l [] with
    | none => rw [hs] at h; cases h
    | some p =>
      obtain ⟨z, r2⟩ := p
      rw [hs] at h
      simp only [Option.map_some, Option.some.injEq, Prod.mk.injEq] at h
      obtain ⟨rfl, rfl⟩ := h
      obtain ⟨z', h1, h2, h3, h4, h5⟩ := scanN_some false _ _ _ _ _ (Nat.le_refl _) hs
      obtain ⟨n, rfl⟩ := h5 rfl
      simp only [List.nil_append] at h1
      subst h1
      simp only [List.map_cons, List.map_nil, joinL_one] at h3
      refine ⟨⟨h4, .inr ⟨rfl, n, rfl⟩⟩, ?_, ?_⟩
      · simp only
        rw [textS_two]
        exact h3
      · have := dec_ne n
        rw [h3, List.length_append]
        omega
theorem scanS_part {s : Int × List Nat} (h : PartOk s) (r : List UInt8) (hr : ∀ x ∈ r.head?, ¬ isDig x) : scanS (textS s.1 s.2 ++ r) = some (s, r) := by
  obtain ⟨k, z⟩ := s
  obtain ⟨hz, ⟨h1, h2⟩ | ⟨h1, n, h2⟩⟩ := h
  · simp only at h1 h2 hz ⊢
    subst h1
    unfold textS
    rw [if_pos rfl]
    have e : 123 :: (joinL (z.map dec) 44 ++ [125]) ++ r = 123 :: (joinL (z.map dec) 44 ++ 125 :: r) := by simp
    rw [e]
    unfold scanS
    rw [if_pos (by simp)]
    simp only [List.tail_cons]
    rw [scanN_set z [] r h2 hz]
    simp
  · simp only at h1 h2 hz ⊢
    subst h1 h2
    rw [textS_two]
    unfold scanS
    rw [if_neg]
    · rw [scanN_one (hz n (by simp)) r [] hr (by intro e; cases e)]
      rfl
    · intro e
      cases hd : dec n with
      | nil => have := dec_ne n; rw [hd] at this; simp at this
      | cons a t =>
        rw [hd] at e
        simp at e
        exact dec_no n nd123 (by rw [hd]; simp [e])
/-- All parts behind the first, each behind a blank: what a text says from a place on. -/
def scanR (l : List UInt8) (acc : List (Int × List Nat)) : Option (List (Int × List Nat)) := match l with
  | [] => some acc
  | x :: l => if x = 32 then (match h : scanS l with
      | none => none
      | some p => scanR p.2 (acc ++ [p.1])) else none
termination_by l.length
decreasing_by
  have := (scanS_some (s := p.1) (r := p.2) h).2.2
  simp only [List.length_cons]
  omega
theorem scanR_nil (acc : List (Int × List Nat)) : scanR [] acc = some acc := by rw [scanR]
theorem scanR_bad {x : UInt8} {l : List UInt8} (acc : List (Int × List Nat)) (h : x ≠ 32) : scanR (x :: l) acc = none := by rw [scanR, if_neg h]
theorem scanR_none {l : List UInt8} (acc : List (Int × List Nat)) (h : scanS l = none) : scanR (32 :: l) acc = none := by
  rw [scanR, if_pos rfl]
  split
  · rfl
  · rename_i p hp; rw [h] at hp; cases hp
theorem scanR_some {l r : List UInt8} {s : Int × List Nat} (acc : List (Int × List Nat)) (h : scanS l = some (s, r)) : scanR (32 :: l) acc = scanR r (acc ++ [s]) := by
  rw [scanR, if_pos rfl]
  split
  · rename_i hp; rw [h] at hp; cases hp
  · rename_i p hp; rw [h] at hp; cases hp; rfl
/-- All parts that a text says. -/
def scanA (l : List UInt8) : Option (List (Int × List Nat)) := if l = [] then some [] else match scanS l with
  | none => none
  | some p => scanR p.2 [p.1]
/-- Words behind a first one. -/
def tailW (rs : List (Int × List Nat)) : List UInt8 := (rs.map fun s => 32 :: textS s.1 s.2).flatten
theorem join_tail (s : Int × List Nat) (rs : List (Int × List Nat)) : joinL (wordsA (s :: rs)) 32 = textS s.1 s.2 ++ tailW rs := by
  unfold wordsA tailW
  rw [List.map_cons, joinL_cons, List.map_map]
  rfl
theorem tail_head (rs : List (Int × List Nat)) : ∀ x ∈ (tailW rs).head?, ¬ isDig x := by
  cases rs with
  | nil => intro x hx; simp [tailW] at hx
  | cons s rs =>
    intro x hx
    simp [tailW] at hx
    subst hx
    exact nd32
theorem scanR_parts : ∀ (rs acc : List (Int × List Nat)), (∀ s ∈ rs, PartOk s) → scanR (tailW rs) acc = some (acc ++ rs) := by
  intro rs
  induction rs with
  | nil => intro acc _; simp [tailW, scanR_nil]
  | cons s rs ih =>
    intro acc h
    have e : tailW (s :: rs) = 32 :: (textS s.1 s.2 ++ tailW rs) := by simp [tailW]
    rw [e, scanR_some acc (scanS_part (h s (by simp)) (tailW rs) (tail_head rs)), ih _ (fun t ht => h t (List.mem_cons_of_mem _ ht))]
    simp
theorem scanR_sound : ∀ (k : Nat) (l : List UInt8) (acc rs : List (Int × List Nat)), l.length ≤ k → scanR l acc = some rs → ∃ rs', rs = acc ++ rs' ∧ l = tailW rs' ∧ ∀ s ∈ rs', PartOk s := by
  intro k
  induction k with
  | zero =>
    intro l acc rs hl h
    obtain rfl := List.eq_nil_of_length_eq_zero (Nat.le_zero.1 hl)
    rw [scanR_nil] at h
    cases h
    exact ⟨[], by simp, rfl, by simp⟩
  | succ k ih =>
    intro l acc rs hl h
    cases l with
    | nil =>
      rw [scanR_nil] at h
      cases h
      exact ⟨[], by simp, rfl, by simp⟩
    | cons x l =>
      by_cases hx : x = 32
      · subst hx
        cases hs : scanS l with
        | none => rw [scanR_none acc hs] at h; cases h
        | some p =>
          obtain ⟨s, r⟩ := p
          rw [scanR_some acc hs] at h
          obtain ⟨h1, h2, h3⟩ := scanS_some hs
          simp only [List.length_cons] at hl
          obtain ⟨rs', g1, g2, g3⟩ := ih r _ _ (by omega) h
          refine ⟨s :: rs', by simp [g1], ?_, ?_⟩
          · rw [h2, g2]
            simp [tailW]
          · intro t ht
            rcases List.mem_cons.1 ht with rfl | ht
            · exact h1
            · exact g3 t ht
      · rw [scanR_bad acc hx] at h
        cases h
/-- THE TWO WAYS ARE ONE. -/
theorem scan_segs {l : List UInt8} (hl : l ≠ []) : scanA l = segsL (splitL l 32) := by
  have sound : ∀ rs, scanA l = some rs → segsL (splitL l 32) = some rs := by
    intro rs h
    unfold scanA at h
    rw [if_neg hl] at h
    cases hs : scanS l with
    | none => rw [hs] at h; cases h
    | some p =>
      obtain ⟨s, r⟩ := p
      rw [hs] at h
      simp only at h
      obtain ⟨h1, h2, _⟩ := scanS_some hs
      obtain ⟨rs', g1, g2, g3⟩ := scanR_sound _ _ _ _ (Nat.le_refl _) h
      have e : l = joinL (wordsA rs) 32 := by
        rw [g1, List.singleton_append, join_tail, h2, g2]
      rw [e]
      refine segsL_parts (by rw [g1]; simp) ?_
      intro t ht
      rw [g1] at ht
      rcases List.mem_append.1 ht with ht | ht
      · simp at ht; subst ht; exact h1
      · exact g3 t ht
  have whole : ∀ rs, segsL (splitL l 32) = some rs → scanA l = some rs := by
    intro rs h
    obtain ⟨h1, h2, h3⟩ := segsL_some h
    cases rs with
    | nil => exact absurd rfl h2
    | cons s rs =>
      rw [join_tail] at h1
      unfold scanA
      rw [if_neg hl, h1, scanS_part (h3 s (by simp)) (tailW rs) (tail_head rs)]
      simp only
      rw [scanR_parts rs [s] (fun t ht => h3 t (List.mem_cons_of_mem _ ht))]
      rfl
  cases h1 : scanA l with
  | some rs => exact (sound rs h1).symm
  | none =>
    cases h2 : segsL (splitL l 32) with
    | none => rfl
    | some rs => rw [whole rs h2] at h1; cases h1
theorem parse_scan (l : List UInt8) : parseL l = match scanA l with
    | none => none
    | some r => if rightA (normL r) then some (normL r) else none := by
  unfold parseL
  by_cases hl : l = []
  · subst hl
    simp [scanA, normL, rightA, totA]
  · rw [if_neg hl, scan_segs hl]
    rfl
end Go.Proofs.YtlgfollajodpaaaDoor

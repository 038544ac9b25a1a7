/-
  Which path bytes are: what aspath.Read answers, as a function of lists.
-/
import Derived.Test.YtiegfellgnfiiaaDoorNext3
import Derived.Test.YtiegfellgnfiiaaDoorNormCnt3
import Derived.Test.YtiegfellgnfiiaaDoorParse3
import Derived.Test.YtiegfellgnfiiaaDoorPut3
namespace Go.Proofs.YtiegfellgnfiiaaDoor
set_option linter.unusedVariables false
set_option linter.unusedSimpArgs false
open Go.RowKit

theorem rdTake_rest (l : List UInt8) (s : Bool) (n : Int) : (rdTake l s n).2.1.length ≤ l.length := by
  unfold rdTake
  by_cases hn : 0 ≤ n ∧ n ≤ l.length
  · rw [if_pos hn]; simp
  · rw [if_neg hn]; simp
theorem rdTake_one {l : List UInt8} (s : Bool) (h : l ≠ []) : (rdTake l s 1).2.1.length + 1 = l.length ∧ (rdTake l s 1).2.2 = s := by
  have h1 : 0 < l.length := List.length_pos_iff.2 h
  unfold rdTake
  rw [if_pos ⟨by omega, by omega⟩]
  simp
  omega
theorem rdTake_app (a r : List UInt8) (s : Bool) (n : Int) (hn : n = (a.length : Int)) : rdTake (a ++ r) s n = (a, r, s) := by
  subst hn
  unfold rdTake
  rw [if_pos ⟨by omega, by rw [List.length_append]; omega⟩]
  simp
/-- Numbers that are read, one after another: these, what is left, is it short? -/
def numsS (wide : Bool) (l : List UInt8) (s : Bool) : Nat → List Nat × List UInt8 × Bool
  | 0 => ([], l, s)
  | n + 1 => ((numsS wide l s n).1 ++ [num (rdTake (numsS wide l s n).2.1 (numsS wide l s n).2.2 (nextN wide)).1], (rdTake (numsS wide l s n).2.1 (numsS wide l s n).2.2 (nextN wide)).2)
theorem numsS_len (wide : Bool) (l : List UInt8) (s : Bool) (n : Nat) : (numsS wide l s n).1.length = n ∧ (numsS wide l s n).2.1.length ≤ l.length := by
  induction n with
  | zero => simp [numsS]
  | succ n ih =>
    have := rdTake_rest (numsS wide l s n).2.1 (numsS wide l s n).2.2 (nextN wide)
    simp only [numsS, List.length_append, List.length_cons, List.length_nil]
    omega
theorem num_take_lt (l : List UInt8) (s : Bool) (wide : Bool) : num (rdTake l s (nextN wide)).1 < 4294967296 := by
  have := (rdTake_len l s (nextN wide)).2
  refine num_lt4 ?_
  unfold nextN at this ⊢
  split at this <;> split <;> first | omega | (simp_all; done)
theorem num_one_lt (l : List UInt8) (s : Bool) : num (rdTake l s 1).1 < 256 := by
  have := (rdTake_len l s 1).2
  obtain ⟨x, hx⟩ : ∃ x, x = (rdTake l s 1).1 := ⟨_, rfl⟩
  rw [← hx] at this ⊢
  match x, this with
  | [], _ => decide
  | [b], _ => simpa [num] using b.toNat_lt
  | a :: b :: r, h => simp at h; omega
theorem numsS_fit (wide : Bool) (l : List UInt8) (s : Bool) (n : Nat) : ∀ x ∈ (numsS wide l s n).1, x < 4294967296 := by
  induction n with
  | zero => intro x hx; simp [numsS] at hx
  | succ n ih =>
    intro x hx
    simp only [numsS] at hx
    rcases List.mem_append.1 hx with h | h
    · exact ih x h
    · obtain rfl := List.mem_singleton.1 h
      exact num_take_lt _ _ _

/-- A reader of segments: those that it has read, what is left, is it short? -/
abbrev RdSt := List (Int × List Nat) × List UInt8 × Bool
/-- What one segment's head takes: its kind, then how many numbers. -/
def headS (l : List UInt8) (s : Bool) : (Nat × Nat) × List UInt8 × Bool := ((num (rdTake l s 1).1, num (rdTake (rdTake l s 1).2.1 (rdTake l s 1).2.2 1).1), (rdTake (rdTake l s 1).2.1 (rdTake l s 1).2.2 1).2)
def readStep (wide : Bool) (t : RdSt) : RdSt :=
  (t.1 ++ [(((headS t.2.1 t.2.2).1.1 : Int), (numsS wide (headS t.2.1 t.2.2).2.1 (headS t.2.1 t.2.2).2.2 (headS t.2.1 t.2.2).1.2).1)], (numsS wide (headS t.2.1 t.2.2).2.1 (headS t.2.1 t.2.2).2.2 (headS t.2.1 t.2.2).1.2).2)
def readGo (wide : Bool) : Nat → RdSt → RdSt
  | 0, t => t
  | n + 1, t => if t.2.1 = [] then t else readGo wide n (readStep wide t)
theorem step_less (wide : Bool) {t : RdSt} (h : t.2.1 ≠ []) : (readStep wide t).2.1.length < t.2.1.length := by
  have h1 := rdTake_one t.2.2 h
  have h2 := rdTake_rest (rdTake t.2.1 t.2.2 1).2.1 (rdTake t.2.1 t.2.2 1).2.2 1
  have h3 := (numsS_len wide (headS t.2.1 t.2.2).2.1 (headS t.2.1 t.2.2).2.2 (headS t.2.1 t.2.2).1.2).2
  have h4 : (headS t.2.1 t.2.2).2.1 = (rdTake (rdTake t.2.1 t.2.2 1).2.1 (rdTake t.2.1 t.2.2 1).2.2 1).2.1 := rfl
  show (numsS wide (headS t.2.1 t.2.2).2.1 (headS t.2.1 t.2.2).2.2 (headS t.2.1 t.2.2).1.2).2.1.length < _
  have h5 := congrArg List.length h4
  omega
theorem readGo_nil (wide : Bool) (n : Nat) {t : RdSt} (h : t.2.1 = []) : readGo wide n t = t := by
  cases n with
  | zero => rfl
  | succ n => rw [readGo, if_pos h]
theorem readGo_any (wide : Bool) : ∀ (n m : Nat) (t : RdSt), t.2.1.length ≤ n → t.2.1.length ≤ m → readGo wide n t = readGo wide m t := by
  intro n
  induction n with
  | zero =>
    intro m t h1 h2
    have e : t.2.1 = [] := List.eq_nil_of_length_eq_zero (by omega)
    rw [readGo_nil wide m e]
    rfl
  | succ n ih =>
    intro m t h1 h2
    by_cases e : t.2.1 = []
    · rw [readGo_nil wide _ e, readGo_nil wide _ e]
    · cases m with
      | zero => exact absurd (List.eq_nil_of_length_eq_zero (by omega)) e
      | succ m =>
        rw [readGo, if_neg e, readGo, if_neg e]
        have := step_less wide e
        exact ih m _ (by omega) (by omega)
theorem readGo_step (wide : Bool) {t : RdSt} (h : t.2.1 ≠ []) : readGo wide t.2.1.length t = readGo wide (readStep wide t).2.1.length (readStep wide t) := by
  obtain ⟨k, hk⟩ : ∃ k, t.2.1.length = k + 1 := ⟨t.2.1.length - 1, by have := List.length_pos_iff.2 h; omega⟩
  rw [hk, readGo, if_neg h]
  have := step_less wide h
  exact readGo_any wide _ _ _ (by omega) (Nat.le_refl _)
/-- All segments that bytes say. -/
def readAll (wide : Bool) (l : List UInt8) : RdSt := readGo wide l.length ([], l, false)
/-- Which path bytes are. -/
def readL (wide : Bool) (l : List UInt8) : Option (List (Int × List Nat)) := if (readAll wide l).2.2 = false ∧ rightA (readAll wide l).1 = true then some (readAll wide l).1 else none

/-- A number, as it is put. -/
def nar (wide : Bool) (x : Nat) : Nat := if wide = true then x else if 65535 < x then 23456 else x
theorem nar_wide (x : Nat) : nar true x = x := by unfold nar; rw [if_pos rfl]
theorem num_numB (wide : Bool) {x : Nat} (hx : x < 4294967296) : num (numB wide x) = nar wide x ∧ ((numB wide x).length : Int) = nextN wide := by
  unfold numB nar nextN
  cases wide with
  | true =>
    refine ⟨?_, rfl⟩
    rw [if_pos rfl, if_pos rfl]
    simp only [num, be32, List.foldl_cons, List.foldl_nil, UInt8.toNat_ofNat']
    omega
  | false =>
    rw [if_neg (show ¬ false = true by decide), if_neg (show ¬ false = true by decide), if_neg (show ¬ false = true by decide)]
    by_cases hb : 65535 < x
    · rw [if_pos hb, if_pos hb]
      refine ⟨?_, rfl⟩
      decide
    · rw [if_neg hb, if_neg hb]
      refine ⟨?_, rfl⟩
      simp only [num, be16, List.foldl_cons, List.foldl_nil, UInt8.toNat_ofNat']
      omega
theorem numsS_put (wide : Bool) (z : List Nat) (hz : ∀ x ∈ z, x < 4294967296) (r : List UInt8) : ∀ k, k ≤ z.length → numsS wide (numsB wide z ++ r) false k = ((z.take k).map (nar wide), numsB wide (z.drop k) ++ r, false) := by
  intro k
  induction k with
  | zero => intro _; simp [numsS]
  | succ k ih =>
    intro hk
    have ih := ih (by omega)
    have e1 : z.drop k = z[k] :: z.drop (k + 1) := List.drop_eq_getElem_cons (by omega)
    have hn := num_numB wide (hz z[k] (List.getElem_mem _))
    have e2 : numsB wide (z.drop k) ++ r = numB wide z[k] ++ (numsB wide (z.drop (k + 1)) ++ r) := by
      rw [e1]
      show (numB wide z[k] ++ numsB wide (z.drop (k + 1))) ++ r = _
      rw [List.append_assoc]
    have e3 : rdTake (numsS wide (numsB wide z ++ r) false k).2.1 (numsS wide (numsB wide z ++ r) false k).2.2 (nextN wide) = (numB wide z[k], numsB wide (z.drop (k + 1)) ++ r, false) := by
      rw [ih]
      show rdTake (numsB wide (z.drop k) ++ r) false (nextN wide) = _
      rw [e2]
      exact rdTake_app _ _ _ _ hn.2.symm
    rw [numsS, e3, ih]
    simp only [Prod.mk.injEq, and_true]
    rw [List.take_succ_eq_append_getElem (by omega), List.map_append, hn.1]
    rfl
/-- What a segment's bytes say. -/
def narS (wide : Bool) (s : Sg) : Int × List Nat := (s.kind, s.nums.map (nar wide))
theorem step_put (wide : Bool) (acc : List (Int × List Nat)) (s : Sg) (r : List UInt8) (hk : 0 ≤ s.kind ∧ s.kind < 256) (hl : s.nums.length < 256) (hz : ∀ x ∈ s.nums, x < 4294967296) :
    readStep wide (acc, (headB s ++ numsB wide s.nums) ++ r, false) = (acc ++ [narS wide s], r, false) := by
  have e1 : (headB s ++ numsB wide s.nums) ++ r = [UInt8.ofNat (s.kind % 256).toNat] ++ ([UInt8.ofNat ((s.nums.length : Int) % 256).toNat] ++ (numsB wide s.nums ++ r)) := by simp [headB]
  have n1 : num [UInt8.ofNat (s.kind % 256).toNat] = s.kind.toNat := by
    simp only [num, List.foldl_cons, List.foldl_nil, UInt8.toNat_ofNat']
    omega
  have n2 : num [UInt8.ofNat ((s.nums.length : Int) % 256).toNat] = s.nums.length := by
    simp only [num, List.foldl_cons, List.foldl_nil, UInt8.toNat_ofNat']
    omega
  have h1 : headS ((headB s ++ numsB wide s.nums) ++ r) false = ((s.kind.toNat, s.nums.length), numsB wide s.nums ++ r, false) := by
    unfold headS
    rw [e1, rdTake_app _ _ _ 1 (by simp)]
    simp only
    rw [rdTake_app _ _ _ 1 (by simp)]
    simp only
    rw [n1, n2]
  unfold readStep
  simp only
  rw [h1]
  simp only
  rw [numsS_put wide s.nums hz r _ (Nat.le_refl _)]
  simp only [List.take_length, List.drop_length, narS]
  refine Prod.ext ?_ (Prod.ext ?_ rfl)
  · show acc ++ [((s.kind.toNat : Int), _)] = _
    rw [Int.toNat_of_nonneg hk.1]
  · simp [numsB]
theorem read_put (wide : Bool) : ∀ (L : List Sg) (acc : List (Int × List Nat)), (∀ s ∈ L, (0 ≤ s.kind ∧ s.kind < 256) ∧ s.nums.length < 256 ∧ ∀ x ∈ s.nums, x < 4294967296) →
    readGo wide (putB wide L).length (acc, putB wide L, false) = (acc ++ L.map (narS wide), [], false) := by
  intro L
  induction L with
  | nil => intro acc _; simp [putB, readGo]
  | cons s L ih =>
    intro acc h
    obtain ⟨h1, h2, h3⟩ := h s (by simp)
    have e : putB wide (s :: L) = (headB s ++ numsB wide s.nums) ++ putB wide L := by simp [putB]
    have hne : ((acc, putB wide (s :: L), false) : RdSt).2.1 ≠ [] := by
      show putB wide (s :: L) ≠ []
      rw [e]
      simp [headB]
    have hst := readGo_step wide hne
    have hs := step_put wide acc s (putB wide L) h1 h2 h3
    rw [← e] at hs
    rw [hs] at hst
    refine hst.trans ?_
    show readGo wide (putB wide L).length (acc ++ [narS wide s], putB wide L, false) = _
    rw [ih _ (fun t ht => h t (by simp [ht]))]
    simp
theorem right_each {L : List Sg} (h : rightB L = true) : L.length ≤ 8 ∧ totN L ≤ 64 ∧ ∀ s ∈ L, (s.kind = 1 ∨ s.kind = 2) ∧ 0 < s.nums.length ∧ s.nums.length ≤ 64 := by
  unfold rightB at h
  simp only [Bool.and_eq_true, decide_eq_true_eq] at h
  refine ⟨h.1, h.2.2, fun s hs => ?_⟩
  have h1 := List.all_eq_true.1 h.2.1 s hs
  obtain ⟨j, hj, hj2⟩ := List.mem_iff_getElem.1 hs
  have h3 : s.nums.length ≤ totN L := nums_le (j := j) (by rw [List.getElem?_eq_getElem hj, hj2])
  unfold okS at h1
  simp only [Bool.and_eq_true, Bool.or_eq_true, beq_iff_eq, bne_iff_ne] at h1
  exact ⟨h1.1, by omega, by omega⟩
/-- A right path that was put is read as it was, but that narrow numbers stand for wide ones. -/
theorem readL_put (wide : Bool) {L : List Sg} (h : rightB L = true) (hz : ∀ s ∈ L, ∀ x ∈ s.nums, x < 4294967296) : readL wide (putB wide L) = some (L.map (narS wide)) := by
  have hr := right_each h
  have e := read_put wide L [] (fun s hs => by
    have h1 := hr.2.2 s hs
    exact ⟨by rcases h1.1 with e | e <;> omega, by omega, hz s hs⟩)
  rw [List.nil_append] at e
  have e2 : readAll wide (putB wide L) = (L.map (narS wide), [], false) := e
  have hra : rightA (L.map (narS wide)) = true := by
    have h2 := h
    unfold rightB at h2
    unfold rightA totA
    rw [List.length_map, List.all_map, List.map_map]
    unfold totN at h2
    have e3 : (List.map ((fun s => s.2.length) ∘ narS wide) L) = L.map fun s => s.nums.length := by
      apply List.map_congr_left
      intro s _
      simp [narS]
    have e4 : L.all (okA ∘ narS wide) = L.all okS := by
      congr 1
      funext s
      simp [okA, okS, narS]
    rw [e3, e4]
    exact h2
  unfold readL
  rw [e2, if_pos ⟨rfl, hra⟩]
theorem narS_wide (L : List Sg) : L.map (narS true) = L.map Sg.abs := by
  apply List.map_congr_left
  intro s _
  have : s.nums.map (nar true) = s.nums := by
    rw [show nar true = id from funext nar_wide]
    simp
  simp [narS, Sg.abs, this]
theorem cnt_nar (wide : Bool) (L : List Sg) : cntA (L.map (narS wide)) = cntN L := by
  unfold cntA cntN
  rw [List.map_map]
  congr 1
  apply List.map_congr_left
  intro s _
  simp [narS, wt]
end Go.Proofs.YtiegfellgnfiiaaDoor
